/- The calls of a map; keys that are numbers (written by gen_omm). -/
import Derived.Test.YtnibmfijkbfaeaaOmK
namespace Go.Proofs.Ytnibmfijkbfaeaa.Om
open Go.RowKit Go.Proofs.Ytnibmfijkbfaeaa
set_option linter.unusedVariables false
set_option linter.unusedSimpArgs false
set_option maxRecDepth 100000
open Key (lt)
theorem row_far {w : World} {b g : Nat} {t t' : TypeId} {cs cs' : Array Value} (h : Row w b t cs) (h' : Row w g t' cs') (hn : t ≠ t') : b ≠ g := fun e => by
  subst e
  have h : w.heap[b]? = _ := h
  have h' : w.heap[b]? = _ := h'
  rw [h] at h'
  injection h' with e
  injection e with _ e
  exact hn e
theorem Tm.set {K : Type} {T M : TypeId} {ek : K → Value} {w : World} {b : Nat} {cs : Array Value} (hr : Row w b M cs) (hn : M ≠ T) (v : Value) : ∀ {t : Tr K Int} {p : Value}, Tm T ek w t p → Tm T ek (w.setCell ⟨b, 0, none⟩ v) t p
  | .leaf, _, h => h
  | .node _ _ _ _, _, ⟨g, pl, pr, h1, h2, h3, h4⟩ => ⟨g, pl, pr, h1, h2.past (p := ⟨b, 0, none⟩) (fun e => row_far hr h2 hn e.symm) v, h3.set hr hn v, h4.set hr hn v⟩
theorem MpV.of {M : TypeId} {w : World} {b : Nat} {p : Value} (h : Row w b M #[p]) : MpV M (fun _ => True) w (.pointer (some ⟨b, 0, none⟩)) p := .inl ⟨b, rfl, trivial, h⟩
theorem get_some_of_mem {K V : Type} [Key K] {k : K} : ∀ {l : List (K × V)} {x : K × V}, Up l → x ∈ l → x.1 = k → get k l ≠ none
  | [], _, _, h, _ => by cases h
  | (a, b) :: r, x, hu, h, e => by
    simp only [get]
    by_cases c : lt k a ∨ lt a k
    · rw [if_pos c]
      rcases List.mem_cons.1 h with rfl | h
      · exfalso
        have e : a = k := e
        subst e
        exact c.elim (Key.irr _) (Key.irr _)
      · exact get_some_of_mem (List.pairwise_cons.1 hu).2 h e
    · rw [if_neg c]; exact fun h => by cases h

abbrev MmI (w : World) (b : Nat) (t : Tr Int Int) (p : Value) : Prop := Mm 26 72 (fun k : Int => .int .i64 k) w b t p
theorem len_i (P : Own) (mv p : Value) (t : Tr Int Int) (w : World) (hv : MpV 26 P w mv p) (ht : TmI w t p) : Calls Try.prog 11 #[mv] w fun e w' => e = .returned (.int .i64 (t.size : Nat)) ∧ w = w' := by
  obtain ⟨q, rfl⟩ := hv.isPtr
  have HT := Lib.hid (tree_i P _ p w hv)
  have HS := Lib.hid (size_i t p w ht)
  obtain ⟨q2, rfl⟩ := ht.isPtr
  obtain ⟨z, hz⟩ : ∃ z, t.size = z := ⟨_, rfl⟩
  rw [hz] at HS ⊢
  clear hv ht hz
  go_enter Try.func11, Try.ntmps11
  go_wp2_with (first
    | (go_at_call 23; refine HT.out.mono ?_; rintro e w' ⟨rfl, rfl⟩)
    | (go_at_call 27; refine HS.out.mono ?_; rintro e w' ⟨rfl, rfl⟩)
    | fail)
  go_ret
  exact ⟨rfl, rfl⟩
theorem get_i (P : Own) (k : Int) (mv p : Value) (t : Tr Int Int) (w : World) (hv : MpV 26 P w mv p) (ht : TmI w t p) : Calls Try.prog 9 #[mv, .int .i64 k] w fun e w' => e = .returned (.tuple #[.int .i64 ((find k t).getD 0), .bool (find k t).isSome]) ∧ ∃ n, w' = w.drewN n := by
  obtain ⟨q, rfl⟩ := hv.isPtr
  have HT := Lib.hid (tree_i P _ p w hv)
  have HF := Lib.hid (find_i k t p w ht)
  have htop := fndT_top k t
  obtain ⟨q2, rfl⟩ := ht.isPtr
  clear hv ht
  cases hf : fndT k t with
  | leaf =>
    rw [hf] at htop
    have e : find k t = none := htop.symm
    rw [e]
    have HFN := Lib.hid hf
    clear htop e hf
    go_enter Try.func9, Try.ntmps9
    go_wp2_with (first
      | (go_at_call 23; refine HT.out.mono ?_; rintro e w' ⟨rfl, rfl⟩)
      | (go_at_call 24; refine HF.out.mono ?_; rintro e w' ⟨p3, rfl, ht3, rfl⟩; rw [HFN.out] at ht3; obtain ⟨q3, rfl⟩ := ht3.isPtr; have HT3 := Lib.hid ht3; clear ht3)
      | (go_at_call 26; refine (told_i _ _ _ HT3.out).mono ?_; rintro e w' ⟨he, nd, hw⟩; have he : e = .returned (.tuple #[.int .i64 0, .int .i64 0, .bool false]) := he; subst he; have HW := Lib.hid hw; clear hw)
      | fail)
    exact bodyPost_ret (v := .tuple #[.int .i64 0, .bool false]) (by simp [results, Try.results9, go_sem]; try rfl) rfl ⟨rfl, nd, HW.out⟩
  | node l a b r =>
    rw [hf] at htop
    have e : find k t = some b := htop.symm
    rw [e]
    have HFN := Lib.hid hf
    clear htop e hf
    go_enter Try.func9, Try.ntmps9
    go_wp2_with (first
      | (go_at_call 23; refine HT.out.mono ?_; rintro e w' ⟨rfl, rfl⟩)
      | (go_at_call 24; refine HF.out.mono ?_; rintro e w' ⟨p3, rfl, ht3, rfl⟩; rw [HFN.out] at ht3; obtain ⟨q3, rfl⟩ := ht3.isPtr; have HT3 := Lib.hid ht3; clear ht3)
      | (go_at_call 26; refine (told_i _ _ _ HT3.out).mono ?_; rintro e w' ⟨he, nd, hw⟩; have he : e = .returned (.tuple #[.int .i64 a, .int .i64 b, .bool true]) := he; subst he; have HW := Lib.hid hw; clear hw)
      | fail)
    exact bodyPost_ret (v := .tuple #[.int .i64 b, .bool true]) (by simp [results, Try.results9, go_sem]; try rfl) rfl ⟨rfl, nd, HW.out⟩
set_option maxHeartbeats 1000000 in
theorem put_i (b : Nat) (k : Int) (v : Int) (t : Tr Int Int) (p : Value) (w : World) (h : MmI w b t p) (hu : Up t.toL) (hs : t.size ≤ 1000000) : Calls Try.prog 7 #[.pointer (some ⟨b, 0, none⟩), .int .i64 k, .int .i64 v] w fun e w' => e = .returned (.bool (!(find k t).isSome)) ∧ ∃ p', MmI w' b (wth k v t) p' ∧ Turns w w' (fun j => j = b) := by
  have HL := Lib.hid (len_i (fun _ => True) _ p t w (.of h.row) h.tm)
  have HW := Lib.hid (with_i k v t p w h.tm (by omega))
  have HR := Lib.hid h.row
  obtain ⟨q, rfl⟩ := h.tm.isPtr
  have c0 : w.cell? ⟨b, 0, none⟩ = some (.pointer q) := (h.row.cell 0).trans rfl
  have hsz := wth_size k v t hu
  obtain ⟨x, hx⟩ : ∃ x, t.size = x := ⟨_, rfl⟩
  obtain ⟨y, hy⟩ : ∃ y, (wth k v t).size = y := ⟨_, rfl⟩
  have hgt : decide (x < y) = !(find k t).isSome := by
    rw [hx, hy] at hsz
    rw [hsz]
    cases find k t with
    | none => simp
    | some z => simp
  rw [hx] at HL
  rw [← hgt]
  have HY := Lib.hid hy
  clear h hu hs hsz hx hy hgt
  go_enter Try.func7, Try.ntmps7
  go_upto_region 5 with (first
    | (go_at_call 11; refine HL.out.mono ?_; rintro e w' ⟨rfl, rfl⟩)
    | (go_at_call 22; refine HW.out.mono ?_; rintro e V ⟨p', rfl, ht, hb⟩; obtain ⟨q', rfl⟩ := ht.isPtr; have HT := Lib.hid ht; have HB := Lib.hid hb; have hrV := HR.out.below hb HR.out.lt; have e0 := (hrV.cell 0).trans rfl; have e1 := hrV.free 0; have HRV := Lib.hid hrV; clear ht hb hrV)
    | fail)
  have hm : MmI (V.setCell ⟨b, 0, none⟩ (.pointer q')) b (wth k v t) (.pointer q') := ⟨by simpa using HRV.out.put 0 (.pointer q'), HT.out.set HRV.out (by decide) _⟩
  have htn : Turns w (V.setCell ⟨b, 0, none⟩ (.pointer q')) (fun j => j = b) := ((Turns.of_below HB.out).mono (fun _ _ e => e.elim)).put b 0 _ (fun _ => rfl)
  have HM := Lib.hid hm
  have HTN := Lib.hid htn
  have HL2 := Lib.hid (len_i (fun _ => True) _ _ _ _ (.of hm.row) hm.tm)
  rw [HY.out] at HL2
  generalize V.setCell ⟨b, 0, none⟩ (.pointer q') = W at HM HTN HL2 ⊢
  clear hm htn e0 e1
  go_wp2_with (first
    | (go_at_call 11; refine HL2.out.mono ?_; rintro e w' ⟨rfl, rfl⟩)
    | fail)
  go_ret
  exact ⟨rfl, _, HM.out, HTN.out⟩

set_option maxHeartbeats 1000000 in
theorem drop_i (b : Nat) (k : Int) (t : Tr Int Int) (p : Value) (w : World) (h : MmI w b t p) (hu : Up t.toL) (hs : t.size ≤ 1000000) : Calls Try.prog 8 #[.pointer (some ⟨b, 0, none⟩), .int .i64 k] w fun e w' => e = .returned (.bool (find k t).isSome) ∧ ∃ t' p', t'.toL = del k t.toL ∧ MmI w' b t' p' ∧ Turns w w' (fun j => j = b) := by
  have HT0 := Lib.hid (tree_i (fun _ => True) _ p w (.of h.row))
  have HF := Lib.hid (find_i k t p w h.tm)
  have htop := fndT_top k t
  have HM0 := Lib.hid h
  have HU := Lib.hid hu
  have HX := Lib.hid (fun hf => without_i t k p w h.tm hu hf (by omega))
  have HR := Lib.hid h.row
  obtain ⟨q, rfl⟩ := h.tm.isPtr
  have c0 : w.cell? ⟨b, 0, none⟩ = some (.pointer q) := (h.row.cell 0).trans rfl
  clear h hs hu
  cases hf : fndT k t with
  | leaf =>
    rw [hf] at htop
    have e : find k t = none := htop.symm
    have hdel : Hid (t.toL = del k t.toL) := Lib.hid (by
      have hg : get k t.toL = none := by rw [← find_toL k t HU.out]; exact e
      exact (del_none (fun x hx => by
        by_cases c : lt k x.1 ∨ lt x.1 k
        · exact c
        · exfalso
          have ek : x.1 = k := Key.tri (fun y => c (.inr y)) (fun y => c (.inl y))
          exact get_some_of_mem HU.out hx ek hg)).symm)
    rw [e]
    have HFN := Lib.hid hf
    clear htop e hf
    go_enter Try.func8, Try.ntmps8
    go_wp2_with (first
      | (go_at_call 23; refine HT0.out.mono ?_; rintro e w' ⟨rfl, rfl⟩)
      | (go_at_call 24; refine HF.out.mono ?_; rintro e w' ⟨p3, rfl, ht3, rfl⟩; rw [HFN.out] at ht3; unfold Tm at ht3; subst ht3)
      | fail)
    go_ret
    exact ⟨rfl, t, _, hdel.out, HM0.out, Turns.refl _ _⟩
  | node l a c r =>
    rw [hf] at htop
    have e : find k t = some c := htop.symm
    have hX := HX.out (by rw [e]; rfl)
    rw [e]
    have HX2 := Lib.hid hX
    have HFN := Lib.hid hf
    clear htop e hf hX HX
    go_enter Try.func8, Try.ntmps8
    go_wp2_with (first
      | (go_at_call 23; refine HT0.out.mono ?_; rintro e w' ⟨rfl, rfl⟩)
      | (go_at_call 24; refine HF.out.mono ?_; rintro e w' ⟨p3, rfl, ht3, rfl⟩; rw [HFN.out] at ht3; obtain ⟨g3, _, _, rfl, _⟩ := ht3)
      | (go_at_call 25; refine HX2.out.mono ?_; rintro e V ⟨p', rfl, ht, hb⟩; obtain ⟨q', rfl⟩ := ht.isPtr; have HT := Lib.hid ht; have HB := Lib.hid hb; have hrV := HR.out.below hb HR.out.lt; have e0 := (hrV.cell 0).trans rfl; have e1 := hrV.free 0; have HRV := Lib.hid hrV; clear ht hb hrV)
      | fail)
    go_ret
    exact ⟨rfl, wout k t, _, wout_toL t k HU.out, ⟨by simpa using HRV.out.put 0 (.pointer q'), HT.out.set HRV.out (by decide) _⟩, ((Turns.of_below HB.out).mono (fun _ _ e => e.elim)).put b 0 _ (fun _ => rfl)⟩
theorem mbelow_i (P : Own) (k : Int) (mv p : Value) (t : Tr Int Int) (w : World) (hv : MpV 26 P w mv p) (ht : TmI w t p) (hs : t.size ≤ 1000000) : Calls Try.prog 12 #[mv, .int .i64 k] w fun e w' => e = .returned (.int .i64 (blw k t : Nat)) ∧ w = w' := by
  obtain ⟨q, rfl⟩ := hv.isPtr
  have HT := Lib.hid (tree_i P _ p w hv)
  have HS := Lib.hid (below_i k t p w ht (by omega))
  obtain ⟨q2, rfl⟩ := ht.isPtr
  obtain ⟨z, hz⟩ : ∃ z, blw k t = z := ⟨_, rfl⟩
  rw [hz] at HS ⊢
  clear hv ht hz hs
  go_enter Try.func12, Try.ntmps12
  go_wp2_with (first
    | (go_at_call 23; refine HT.out.mono ?_; rintro e w' ⟨rfl, rfl⟩)
    | (go_at_call 28; refine HS.out.mono ?_; rintro e w' ⟨rfl, rfl⟩)
    | fail)
  go_ret
  exact ⟨rfl, rfl⟩

theorem mFirst_i (P : Own) (mv p : Value) (t : Tr Int Int) (w : World) (hv : MpV 26 P w mv p) (ht : TmI w t p) : Calls Try.prog 14 #[mv] w fun e w' => e = .returned (.tuple (tops_i (fstT t))) ∧ ∃ n, w' = w.drewN n := by
  obtain ⟨q, rfl⟩ := hv.isPtr
  have HT := Lib.hid (tree_i P _ p w hv)
  have HF := Lib.hid (first_i t p w ht)
  obtain ⟨q2, rfl⟩ := ht.isPtr
  clear hv ht
  cases hf : fstT t with
  | leaf =>
    have HFN := Lib.hid hf
    have e2 : tops_i (.leaf) = #[.int .i64 0, .int .i64 0, .bool false] := rfl
    rw [e2]
    clear hf e2
    go_enter Try.func14, Try.ntmps14
    go_wp2_with (first
      | (go_at_call 23; refine HT.out.mono ?_; rintro e w' ⟨rfl, rfl⟩)
      | (go_at_call 31; refine HF.out.mono ?_; rintro e w' ⟨p3, rfl, ht3, rfl⟩; rw [HFN.out] at ht3; obtain ⟨q3, rfl⟩ := ht3.isPtr; have HT3 := Lib.hid ht3; clear ht3)
      | (go_at_call 26; refine (told_i _ _ _ HT3.out).mono ?_; rintro e w' ⟨he, nd, hw⟩; have he : e = .returned (.tuple #[.int .i64 0, .int .i64 0, .bool false]) := he; subst he; have HW := Lib.hid hw; clear hw)
      | fail)
    exact bodyPost_ret (v := .tuple #[.int .i64 0, .int .i64 0, .bool false]) (by simp [results, Try.results14, go_sem]; try rfl) rfl ⟨rfl, nd, HW.out⟩
  | node l a b r =>
    have HFN := Lib.hid hf
    have e2 : tops_i (.node l a b r) = #[.int .i64 a, .int .i64 b, .bool true] := rfl
    rw [e2]
    clear hf e2
    go_enter Try.func14, Try.ntmps14
    go_wp2_with (first
      | (go_at_call 23; refine HT.out.mono ?_; rintro e w' ⟨rfl, rfl⟩)
      | (go_at_call 31; refine HF.out.mono ?_; rintro e w' ⟨p3, rfl, ht3, rfl⟩; rw [HFN.out] at ht3; obtain ⟨q3, rfl⟩ := ht3.isPtr; have HT3 := Lib.hid ht3; clear ht3)
      | (go_at_call 26; refine (told_i _ _ _ HT3.out).mono ?_; rintro e w' ⟨he, nd, hw⟩; have he : e = .returned (.tuple #[.int .i64 a, .int .i64 b, .bool true]) := he; subst he; have HW := Lib.hid hw; clear hw)
      | fail)
    exact bodyPost_ret (v := .tuple #[.int .i64 a, .int .i64 b, .bool true]) (by simp [results, Try.results14, go_sem]; try rfl) rfl ⟨rfl, nd, HW.out⟩

theorem mLast_i (P : Own) (mv p : Value) (t : Tr Int Int) (w : World) (hv : MpV 26 P w mv p) (ht : TmI w t p) : Calls Try.prog 15 #[mv] w fun e w' => e = .returned (.tuple (tops_i (lstT t))) ∧ ∃ n, w' = w.drewN n := by
  obtain ⟨q, rfl⟩ := hv.isPtr
  have HT := Lib.hid (tree_i P _ p w hv)
  have HF := Lib.hid (last_i t p w ht)
  obtain ⟨q2, rfl⟩ := ht.isPtr
  clear hv ht
  cases hf : lstT t with
  | leaf =>
    have HFN := Lib.hid hf
    have e2 : tops_i (.leaf) = #[.int .i64 0, .int .i64 0, .bool false] := rfl
    rw [e2]
    clear hf e2
    go_enter Try.func15, Try.ntmps15
    go_wp2_with (first
      | (go_at_call 23; refine HT.out.mono ?_; rintro e w' ⟨rfl, rfl⟩)
      | (go_at_call 32; refine HF.out.mono ?_; rintro e w' ⟨p3, rfl, ht3, rfl⟩; rw [HFN.out] at ht3; obtain ⟨q3, rfl⟩ := ht3.isPtr; have HT3 := Lib.hid ht3; clear ht3)
      | (go_at_call 26; refine (told_i _ _ _ HT3.out).mono ?_; rintro e w' ⟨he, nd, hw⟩; have he : e = .returned (.tuple #[.int .i64 0, .int .i64 0, .bool false]) := he; subst he; have HW := Lib.hid hw; clear hw)
      | fail)
    exact bodyPost_ret (v := .tuple #[.int .i64 0, .int .i64 0, .bool false]) (by simp [results, Try.results15, go_sem]; try rfl) rfl ⟨rfl, nd, HW.out⟩
  | node l a b r =>
    have HFN := Lib.hid hf
    have e2 : tops_i (.node l a b r) = #[.int .i64 a, .int .i64 b, .bool true] := rfl
    rw [e2]
    clear hf e2
    go_enter Try.func15, Try.ntmps15
    go_wp2_with (first
      | (go_at_call 23; refine HT.out.mono ?_; rintro e w' ⟨rfl, rfl⟩)
      | (go_at_call 32; refine HF.out.mono ?_; rintro e w' ⟨p3, rfl, ht3, rfl⟩; rw [HFN.out] at ht3; obtain ⟨q3, rfl⟩ := ht3.isPtr; have HT3 := Lib.hid ht3; clear ht3)
      | (go_at_call 26; refine (told_i _ _ _ HT3.out).mono ?_; rintro e w' ⟨he, nd, hw⟩; have he : e = .returned (.tuple #[.int .i64 a, .int .i64 b, .bool true]) := he; subst he; have HW := Lib.hid hw; clear hw)
      | fail)
    exact bodyPost_ret (v := .tuple #[.int .i64 a, .int .i64 b, .bool true]) (by simp [results, Try.results15, go_sem]; try rfl) rfl ⟨rfl, nd, HW.out⟩

theorem putnil_i (k : Int) (v : Int) (w : World) : Calls Try.prog 7 #[.pointer none, .int .i64 k, .int .i64 v] w fun e w' => e = .returned (.bool false) ∧ w = w' := by
  go_enter Try.func7, Try.ntmps7
  go_wp2
  go_ret
  exact ⟨rfl, rfl⟩
theorem dropnil_i (k : Int) (w : World) : Calls Try.prog 8 #[.pointer none, .int .i64 k] w fun e w' => e = .returned (.bool false) ∧ w = w' := by
  have HT0 := Lib.hid (tree_i (fun _ => True) (.pointer none) (.pointer none) w (.inr ⟨rfl, rfl⟩))
  have HF := Lib.hid (find_i k .leaf (.pointer none) w rfl)
  go_enter Try.func8, Try.ntmps8
  go_wp2_with (first
    | (go_at_call 23; refine HT0.out.mono ?_; rintro e w' ⟨rfl, rfl⟩)
    | (go_at_call 24; refine HF.out.mono ?_; rintro e w' ⟨p3, rfl, ht3, rfl⟩; have ht3 : p3 = .pointer none := ht3; subst ht3)
    | fail)
  go_ret
  exact ⟨rfl, rfl⟩
end Go.Proofs.Ytnibmfijkbfaeaa.Om
