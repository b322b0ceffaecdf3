/- The calls of a map; keys that are texts (written by gen_omm). -/
import Derived.Test.YtnibmfijkbfaeaaOmJ
import Derived.Test.YtnibmfijkbfaeaaOmM
namespace Go.Proofs.Ytnibmfijkbfaeaa.Om
open Go.RowKit Go.Proofs.Ytnibmfijkbfaeaa
set_option linter.unusedVariables false
set_option linter.unusedSimpArgs false
set_option maxRecDepth 100000
open Key (lt)

abbrev MmS (w : World) (b : Nat) (t : Tr ByteArray Int) (p : Value) : Prop := Mm 52 76 (fun k : ByteArray => .string k) w b t p
theorem len_s (P : Own) (mv p : Value) (t : Tr ByteArray Int) (w : World) (hv : MpV 52 P w mv p) (ht : TmS w t p) : Calls Try.prog 21 #[mv] w fun e w' => e = .returned (.int .i64 (t.size : Nat)) ∧ w = w' := by
  obtain ⟨q, rfl⟩ := hv.isPtr
  have HT := Lib.hid (tree_s P _ p w hv)
  have HS := Lib.hid (size_s t p w ht)
  obtain ⟨q2, rfl⟩ := ht.isPtr
  obtain ⟨z, hz⟩ : ∃ z, t.size = z := ⟨_, rfl⟩
  rw [hz] at HS ⊢
  clear hv ht hz
  go_enter Try.func21, Try.ntmps21
  go_wp2_with (first
    | (go_at_call 39; refine HT.out.mono ?_; rintro e w' ⟨rfl, rfl⟩)
    | (go_at_call 42; refine HS.out.mono ?_; rintro e w' ⟨rfl, rfl⟩)
    | fail)
  go_ret
  exact ⟨rfl, rfl⟩
theorem get_s (P : Own) (k : ByteArray) (mv p : Value) (t : Tr ByteArray Int) (w : World) (hv : MpV 52 P w mv p) (ht : TmS w t p) : Calls Try.prog 20 #[mv, .string k] w fun e w' => e = .returned (.tuple #[.int .i64 ((find k t).getD 0), .bool (find k t).isSome]) ∧ ∃ n, w' = w.drewN n := by
  obtain ⟨q, rfl⟩ := hv.isPtr
  have HT := Lib.hid (tree_s P _ p w hv)
  have HF := Lib.hid (find_s k t p w ht)
  have htop := fndT_top k t
  obtain ⟨q2, rfl⟩ := ht.isPtr
  clear hv ht
  cases hf : fndT k t with
  | leaf =>
    rw [hf] at htop
    have e : find k t = none := htop.symm
    rw [e]
    have HFN := Lib.hid hf
    clear htop e hf
    go_enter Try.func20, Try.ntmps20
    go_wp2_with (first
      | (go_at_call 39; refine HT.out.mono ?_; rintro e w' ⟨rfl, rfl⟩)
      | (go_at_call 40; refine HF.out.mono ?_; rintro e w' ⟨p3, rfl, ht3, rfl⟩; rw [HFN.out] at ht3; obtain ⟨q3, rfl⟩ := ht3.isPtr; have HT3 := Lib.hid ht3; clear ht3)
      | (go_at_call 41; refine (told_s _ _ _ HT3.out).mono ?_; rintro e w' ⟨he, nd, hw⟩; have he : e = .returned (.tuple #[.string ByteArray.empty, .int .i64 0, .bool false]) := he; subst he; have HW := Lib.hid hw; clear hw)
      | fail)
    exact bodyPost_ret (v := .tuple #[.int .i64 0, .bool false]) (by simp [results, Try.results20, go_sem]; try rfl) rfl ⟨rfl, nd, HW.out⟩
  | node l a b r =>
    rw [hf] at htop
    have e : find k t = some b := htop.symm
    rw [e]
    have HFN := Lib.hid hf
    clear htop e hf
    go_enter Try.func20, Try.ntmps20
    go_wp2_with (first
      | (go_at_call 39; refine HT.out.mono ?_; rintro e w' ⟨rfl, rfl⟩)
      | (go_at_call 40; refine HF.out.mono ?_; rintro e w' ⟨p3, rfl, ht3, rfl⟩; rw [HFN.out] at ht3; obtain ⟨q3, rfl⟩ := ht3.isPtr; have HT3 := Lib.hid ht3; clear ht3)
      | (go_at_call 41; refine (told_s _ _ _ HT3.out).mono ?_; rintro e w' ⟨he, nd, hw⟩; have he : e = .returned (.tuple #[.string a, .int .i64 b, .bool true]) := he; subst he; have HW := Lib.hid hw; clear hw)
      | fail)
    exact bodyPost_ret (v := .tuple #[.int .i64 b, .bool true]) (by simp [results, Try.results20, go_sem]; try rfl) rfl ⟨rfl, nd, HW.out⟩
set_option maxHeartbeats 1000000 in
theorem put_s (b : Nat) (k : ByteArray) (v : Int) (t : Tr ByteArray Int) (p : Value) (w : World) (h : MmS w b t p) (hu : Up t.toL) (hs : t.size ≤ 1000000) : Calls Try.prog 18 #[.pointer (some ⟨b, 0, none⟩), .string k, .int .i64 v] w fun e w' => e = .returned (.bool (!(find k t).isSome)) ∧ ∃ p', MmS w' b (wth k v t) p' ∧ Turns w w' (fun j => j = b) := by
  have HL := Lib.hid (len_s (fun _ => True) _ p t w (.of h.row) h.tm)
  have HW := Lib.hid (with_s k v t p w h.tm (by omega))
  have HR := Lib.hid h.row
  obtain ⟨q, rfl⟩ := h.tm.isPtr
  have c0 : w.cell? ⟨b, 0, none⟩ = some (.pointer q) := (h.row.cell 0).trans rfl
  have hsz := wth_size k v t hu
  obtain ⟨x, hx⟩ : ∃ x, t.size = x := ⟨_, rfl⟩
  obtain ⟨y, hy⟩ : ∃ y, (wth k v t).size = y := ⟨_, rfl⟩
  have hgt : decide (x < y) = !(find k t).isSome := by
    rw [hx, hy] at hsz
    rw [hsz]
    cases find k t with
    | none => simp
    | some z => simp
  rw [hx] at HL
  rw [← hgt]
  have HY := Lib.hid hy
  clear h hu hs hsz hx hy hgt
  go_enter Try.func18, Try.ntmps18
  go_upto_region 5 with (first
    | (go_at_call 21; refine HL.out.mono ?_; rintro e w' ⟨rfl, rfl⟩)
    | (go_at_call 37; refine HW.out.mono ?_; rintro e V ⟨p', rfl, ht, hb⟩; obtain ⟨q', rfl⟩ := ht.isPtr; have HT := Lib.hid ht; have HB := Lib.hid hb; have hrV := HR.out.below hb HR.out.lt; have e0 := (hrV.cell 0).trans rfl; have e1 := hrV.free 0; have HRV := Lib.hid hrV; clear ht hb hrV)
    | fail)
  have hm : MmS (V.setCell ⟨b, 0, none⟩ (.pointer q')) b (wth k v t) (.pointer q') := ⟨by simpa using HRV.out.put 0 (.pointer q'), HT.out.set HRV.out (by decide) _⟩
  have htn : Turns w (V.setCell ⟨b, 0, none⟩ (.pointer q')) (fun j => j = b) := ((Turns.of_below HB.out).mono (fun _ _ e => e.elim)).put b 0 _ (fun _ => rfl)
  have HM := Lib.hid hm
  have HTN := Lib.hid htn
  have HL2 := Lib.hid (len_s (fun _ => True) _ _ _ _ (.of hm.row) hm.tm)
  rw [HY.out] at HL2
  generalize V.setCell ⟨b, 0, none⟩ (.pointer q') = W at HM HTN HL2 ⊢
  clear hm htn e0 e1
  go_wp2_with (first
    | (go_at_call 21; refine HL2.out.mono ?_; rintro e w' ⟨rfl, rfl⟩)
    | fail)
  go_ret
  exact ⟨rfl, _, HM.out, HTN.out⟩
end Go.Proofs.Ytnibmfijkbfaeaa.Om
