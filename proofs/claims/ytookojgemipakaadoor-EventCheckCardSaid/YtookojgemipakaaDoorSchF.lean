/- A slice of fields copied; a type copied. -/
import Derived.Test.YtookojgemipakaaDoorSchE
import Derived.Test.YtookojgemipakaaDoorApp
import Derived.Deep.RegionWith
import Derived.Lib.SliceRun
namespace Go.Proofs.YtookojgemipakaaDoor.Sch
open Go.RowKit Go.Proofs.YtookojgemipakaaDoor
set_option linter.unusedVariables false

section
variable {P : Program} {w w' : World} {e : TypeId} {v : Value} {n : Nat} {xs : List Value} {ob : Option Nat} {size : Nat}
theorem seg_zero (w : World) (e : TypeId) (size : Nat) (A : Option Addr) : Seg w e size (.slice A 0 0) 0 [] none := ⟨by simp, _, 0, rfl, Nat.le_refl _, by unfold maxLen; omega, .inl ⟨rfl, rfl, fun _ => trivial⟩⟩
theorem run_append_none2 (t ty : TypeId) (i : TypeInfo) (ht : P.underlying t = some (.slice e)) (hi : P.info? e = some i) (h : Seg w e size v n xs ob) (A : Option Addr) (c : Nat) :
    (Builtin.append_ #[t, t] ty #[v, .slice A 0 c]).run P w = .ok v w := by
  obtain ⟨D, cap, rfl, hn, _⟩ := h.form
  cases A with
  | none => cases D <;> simp [Builtin.append_, run_underlying ht, sizeOf, typeInfo, hi, Builtin.lenOf, Builtin.firstCells, hn, storeCells]
  | some a =>
    have hf := run_firstCells_some (P := P) w i.size 0 a 0 c [] (by simp) (by simp)
    cases D <;> simp [Builtin.append_, run_underlying ht, sizeOf, typeInfo, hi, Builtin.lenOf, hf, hn, storeCells]
end
def cellsF (fs : List Fld) : List Value := fs.flatMap fun f => [.string f.1, .int .i64 f.2]
theorem cellsF_len (fs : List Fld) : (cellsF fs).length = fs.length * 2 := by
  induction fs with
  | nil => rfl
  | cons f fs ih => simp only [cellsF, List.flatMap_cons, List.length_append, List.length_cons, List.length_nil] at *; omega
theorem cellsF_get : ∀ (fs : List Fld) (k : Nat) (h : k < fs.length), (cellsF fs)[k * 2]? = some (.string fs[k].1) ∧ (cellsF fs)[k * 2 + 1]? = some (.int .i64 fs[k].2)
  | f :: fs, 0, _ => ⟨rfl, rfl⟩
  | f :: fs, k + 1, h => by
    have := cellsF_get fs k (by simpa using h)
    rw [show (k + 1) * 2 = k * 2 + 2 from by omega]
    exact this
theorem cellsF_at (fs : List Fld) (j : Nat) (u : Value) (h : (cellsF fs)[j]? = some u) : ∃ k, ∃ hk : k < fs.length, (j = k * 2 ∧ u = .string fs[k].1) ∨ (j = k * 2 + 1 ∧ u = .int .i64 fs[k].2) := by
  have hl : j < (cellsF fs).length := (List.getElem?_eq_some_iff.1 h).1
  rw [cellsF_len] at hl
  have hk : j / 2 < fs.length := by omega
  refine ⟨j / 2, hk, ?_⟩
  obtain ⟨h0, h1⟩ := cellsF_get fs (j / 2) hk
  rcases (show j = j / 2 * 2 ∨ j = j / 2 * 2 + 1 from by omega) with e | e
  · rw [← e, h] at h0; exact .inl ⟨e, by injection h0⟩
  · rw [← e, h] at h1; exact .inr ⟨e, by injection h1⟩
theorem cellsF_one (fs : List Fld) : ∀ u ∈ cellsF fs, u.oneCell' = true := by
  intro u hu
  obtain ⟨j, hj, e⟩ := List.getElem_of_mem hu
  obtain ⟨k, hk, ⟨_, rfl⟩ | ⟨_, rfl⟩⟩ := cellsF_at fs j u (by rw [List.getElem?_eq_getElem hj, e])
  · rfl
  · rfl
theorem fs_of_seg {w : World} {S : Nat → Prop} {v : Value} {fs : List Fld} {ob : Option Nat} (h : Seg w 72 2 v fs.length (cellsF fs) ob) (hS : ∀ g, ob = some g → S g) : FsS w S v fs := by
  rcases Nat.eq_zero_or_pos fs.length with h0 | h0
  · obtain ⟨A, c, rfl, h1, h2⟩ := h.form
    exact ⟨A, c, rfl, h1, by unfold maxLen at h2; omega, fun k hk => by omega⟩
  · obtain ⟨g, o, cap, rfl, ho, h1, h2, h3, _⟩ := h.shape h0
    refine ⟨_, cap, rfl, h1, by unfold maxLen at h2; omega, fun k hk => ⟨g, o, rfl, hS g ho, ?_, ?_⟩⟩
    · exact h3 _ _ (cellsF_get fs k hk).1
    · exact h3 _ _ (cellsF_get fs k hk).2
theorem field_info : (Tryd.prog.info? 72).map (fun i => (i.zero, i.size, i.bytes)) = some (some (.agg #[.string ByteArray.empty, .int .i64 0]), 2, 24) := by kernel_rfl
set_option maxRecDepth 100000 in
set_option maxHeartbeats 800000 in
theorem clone_any (v : Value) (fs : List Fld) (B : Nat) (w : World) (hf : Fs w B v fs) (hB : B ≤ w.heap.size) (hl : fs.length ≤ 1000000) :
    Calls Tryd.prog 58 #[v] w fun e w' => ∃ v', e = .returned v' ∧ FsS w' (fun g => w.heap.size ≤ g) v' fs ∧ Below w.heap.size w w' := by
  have q62 : ∀ (w : World) (a : Option Addr) (n c n' c' : Nat), (binOp .eql 65 (.slice a n c) (.slice none n' c')).run Tryd.prog w = .ok (.bool a.isNone) w := fun w a n c n' c' => Lib.run_eql_slice_nil w _ _ a n c n' c' Tryd.underlying65
  have HF := Lib.hid hf
  obtain ⟨A, c, rfl, hn, hcm, h3⟩ := hf
  cases A with
  | none =>
    have h0 : fs = [] := by
      cases fs with
      | nil => rfl
      | cons f fs => obtain ⟨g, o, e, _⟩ := h3 0 (by simp); cases e
    subst h0
    clear h3
    go_enter Tryd.func58, Tryd.ntmps58
    go_wp2
    go_ret
    exact ⟨.slice none 0 0, rfl, ⟨none, 0, rfl, by simp, by omega, fun k hk => by simp at hk⟩, Below.refl _ _⟩
  | some a =>
    obtain ⟨i0, hi0, hz0, hz1, hz2⟩ := info_parts field_info
    rcases Nat.eq_zero_or_pos fs.length with h0 | hpos
    · obtain rfl : fs = [] := List.eq_nil_of_length_eq_zero h0
      clear h3
      have hap := run_append_none2 (P := Tryd.prog) (w := w.alloc (.cells #[] 72)) 65 65 i0 Tryd.underlying65 hi0 (seg_zero _ 72 2 (some ⟨w.heap.size, 0, none⟩)) (some a) c
      go_enter Tryd.func58, Tryd.ntmps58
      go_wp2
      go_ret
      exact ⟨.slice (some ⟨w.heap.size, 0, none⟩) 0 0, rfl, ⟨_, 0, rfl, by simp, by omega, fun k hk => by simp at hk⟩, by go_grown⟩
    · obtain ⟨g, o, e, hg, _, _⟩ := h3 0 hpos
      injection e with e
      subst e
      have hnews : ∀ j u, (cellsF fs)[j]? = some u → (w.alloc (.cells #[] 72)).cell? ((⟨g, o, none⟩ : Addr).add j) = some u := fun j u hj => by
        obtain ⟨k, hk, he⟩ := cellsF_at _ j u hj
        obtain ⟨g', o', e1, hg', c0, c1⟩ := h3 k hk
        injection e1 with e1
        injection e1 with e1 e2
        subst e1 e2
        rw [Addr.add_lit]
        rcases he with ⟨rfl, rfl⟩ | ⟨rfl, rfl⟩
        · exact Lib.cell?_alloc_some _ c0
        · exact Lib.cell?_alloc_some _ c1
      have HN := Lib.hid hnews
      have hcl := cellsF_len fs
      have HCL := Lib.hid hcl
      clear h3 hnews hcl
      go_enter Tryd.func58, Tryd.ntmps58
      go_wp2_with (at_builtin; refine wpList_append_seg _ rfl _ _ 65 rfl 72 i0 _ 2 24 Tryd.underlying65 hi0 hz0 hz1 hz2 rfl (by decide) _ 0 [] none rfl (seg_zero _ _ _ _) ⟨g, o, none⟩ fs.length c (cellsF fs) rfl HCL.out HN.out (cellsF_one fs) hpos (by unfold maxLen; omega) (by omega) ?_; intro v1 w1 ob1 hs1 ht1 ho1)
      go_ret
      refine ⟨v1, rfl, fs_of_seg (by simpa using hs1) (fun g' hg' => ?_), ?_⟩
      · rcases ho1 with h | ⟨g2, h, hg2⟩
        · rw [h] at hg'; cases hg'
        · rw [h] at hg'; injection hg' with hg'; subst hg'; simp at hg2; omega
      · exact ht1.below (by go_grown) (by simp) (fun _ _ e => by cases e)
theorem made_two (w : World) (o : Obj) (t : TypeId) (cs : Array Value) : Row ((w.alloc o).alloc (.cells cs t)) (w.heap.size + 1) t cs := by simpa using Row.made (w.alloc o) t cs
set_option maxHeartbeats 800000 in
theorem twin_any (n : ByteArray) (v : Value) (fs : List Fld) (B : Nat) (w : World) (hf : Fs w B v fs) (hB : B ≤ w.heap.size) (hl : fs.length ≤ 1000000) :
    Calls Tryd.prog 33 #[.agg #[.string n, v]] w fun e w' => ∃ v', e = .returned (.agg #[.string n, v']) ∧ FsS w' (fun g => w.heap.size ≤ g ∧ g ≠ w.heap.size + 1) v' fs ∧ Below w.heap.size w w' := by
  have HF := Lib.hid hf
  obtain ⟨A, c, rfl, hn, hcm, _⟩ := hf
  go_enter Tryd.func33, Tryd.ntmps33
  go_wp2
  go_region_with (go_at_call 58; refine (clone_any (.slice A fs.length c) fs B _ ?_ ?_ hl).mono ?_; (exact HF.out.below (by go_grown) (Nat.le_refl _)); (first | omega | (simp; done) | (simp; omega)); rintro e w1 ⟨v1, rfl, hf1, hb1⟩; have R0 : Row w1 w.heap.size 67 #[.string n, .slice A fs.length c] := Eq.trans (hb1.block w.heap.size (by first | omega | (simp; done) | (simp; omega))) (Row.alloc (Row.made w _ _) _); have b0 : w1.cell? ⟨w.heap.size, 0, none⟩ = some (.string n) := (R0.cell 0).trans rfl; have b1 : w1.cell? ⟨w.heap.size, 1, none⟩ = some (.slice A fs.length c) := (R0.cell 1).trans rfl; have R1 : Row w1 (w.heap.size + 1) 67 #[.string ByteArray.empty, .slice none 0 0] := Eq.trans (hb1.block (w.heap.size + 1) (by simp)) (made_two w _ _ _); have c0 : w1.cell? ⟨w.heap.size + 1, 0, none⟩ = some (.string ByteArray.empty) := (R1.cell 0).trans rfl; have c1 : w1.cell? ⟨w.heap.size + 1, 1, none⟩ = some (.slice none 0 0) := (R1.cell 1).trans rfl; have f0 := R1.free 0; have f1 := R1.free 1; have HF1 := Lib.hid hf1; obtain ⟨A1, d1, rfl, _, _, _⟩ := hf1; have HB1 := Lib.hid hb1)
  all_goals
    go_wp2
    have e0 : (w1.setCell ⟨w.heap.size + 1, 0, none⟩ (.string n)).cell? ⟨w.heap.size + 1, 0, none⟩ = some (.string n) := World.cell?_setCell_same' _ _ _ (by rw [c0]; rfl)
    have c1' : (w1.setCell ⟨w.heap.size + 1, 0, none⟩ (.string n)).cell? ⟨w.heap.size + 1, 1, none⟩ = some (.slice none 0 0) := (World.cell?_setCell_other _ _ _ _ (by simp)).trans c1
    have e1 : ((w1.setCell ⟨w.heap.size + 1, 0, none⟩ (.string n)).setCell ⟨w.heap.size + 1, 1, none⟩ (.slice A1 fs.length d1)).cell? ⟨w.heap.size + 1, 1, none⟩ = some (.slice A1 fs.length d1) := World.cell?_setCell_same' _ _ _ (by rw [c1']; rfl)
    have hw : Below w.heap.size w w1 := by
      refine Below.trans ?_ (HB1.out.mono ?_)
      · go_grown
      · simp; omega
    try simp only [Exit.inBlock, Exit.then]
    refine bodyPost_ret (by simp [results, Tryd.results33, go_sem, e0, e1]; try rfl) rfl ?_
    refine ⟨_, rfl, HF1.out.keep (fun g hg hs => ?_), (hw.setCell (by simp) _).setCell (by simp) _⟩
    simp at hs
    exact ⟨(heap_setCell_other _ _ g _ (by simp; omega)).trans (heap_setCell_other _ _ g _ (by simp; omega)), by omega, by omega⟩
end Go.Proofs.YtookojgemipakaaDoor.Sch
