/- The law's lists of stamps: all but one; all in order. -/
import Derived.Test.YtbjkeclfcccilaaHpP
namespace Go.Proofs.Ytbjkeclfcccilaa.Hp
open Go.RowKit Go.Proofs.Ytbjkeclfcccilaa
set_option linter.unusedVariables false
set_option maxRecDepth 100000
/-- A list of stamps that a call has made, and nothing else has changed. -/
structure Ml (w w' : World) (v : Value) (ob : Option Nat) (ys : List St) : Prop where
  sl : Sl w' v ob ys
  own : ∀ g, ob = some g → w.heap.size ≤ g
  be : Below w.heap.size w w'
theorem empty_sl (w : World) (A : Option Addr) : Sl w (.slice A 0 0) none [] := ⟨rfl, _, 0, rfl, Nat.le_refl _, by unfold maxLen; omega, .inl ⟨rfl, rfl, fun _ => trivial⟩⟩
theorem erase_cells (m : List St) (k : Nat) (h : k < m.length) : hcells (m.take k) ++ hcells (m.drop (k + 1)) = hcells (m.eraseIdx k) := by
  rw [← hcells_append, List.eraseIdx_eq_take_drop_succ]
theorem seg_tail {w : World} {g o n cap k : Nat} {m : List St} (h : Seg w 28 3 (.slice (some ⟨g, o, none⟩) n cap) n (hcells m) (some g)) (hk : k + 1 ≤ n) (hc : n ≤ cap) :
    ∃ oc, Seg w 28 3 (.slice (if cap = k + 1 then some ⟨g, o, none⟩ else some ⟨g, o + (k + 1) * 3, none⟩) (n - (k + 1)) (cap - (k + 1))) (n - (k + 1)) (hcells (m.drop (k + 1))) oc := by
  by_cases e : cap = k + 1
  · rw [if_pos e]
    have := Seg.cut_all h (k := k + 1) hk e.symm (some ⟨g, o, none⟩)
    rw [hcells_drop] at this
    exact ⟨_, this⟩
  · rw [if_neg e]
    have := Seg.cut h (k := k + 1) hk (by omega)
    rw [hcells_drop] at this
    simp only [Option.map_some, Addr.add_lit] at this
    exact ⟨_, this⟩
set_option maxHeartbeats 4000000 in
theorem without_any (v : Value) (ob : Option Nat) (m : List St) (k : Nat) (w : World) (h : Sl w v ob m) (hk : k < m.length) (h64 : m.length ≤ 65536) :
    Calls Try.prog 13 #[v, .int .i64 k] w fun e w' => ∃ v' ob', e = .returned v' ∧ Ml w w' v' ob' (m.eraseIdx k) := by
  obtain ⟨n, hn⟩ : ∃ n, m.length = n := ⟨_, rfl⟩
  obtain ⟨g, o, cap, rfl, rfl, h1, h2, _⟩ := h.at (by omega)
  have hgw := h.lt g rfl
  have H := Lib.hid h
  have HN := Lib.hid hn
  rw [hn] at h1 hk h64
  obtain ⟨i0, hi0, hz0, hz1, hz2⟩ := info_parts stamp_info
  have hkc : (k : Int) + 1 ≤ (cap : Int) := by omega
  have hk1 : (k : Int) + 1 ≤ (n : Int) := by omega
  have hs : Seg w 28 3 (.slice (some ⟨g, o, none⟩) n cap) n (hcells m) (some g) := by have := h; unfold Sl at this; rw [hn] at this; exact this
  have hh : Seg w 28 3 (.slice (some ⟨g, o, none⟩) k cap) k (hcells (m.take k)) (some g) := by have := Seg.head hs (k := k) (by omega); rwa [hcells_take] at this
  have HH := Lib.hid hh
  have HS := Lib.hid hs
  rw [hn]
  clear h hn hs hh
  go_enter Try.func13, Try.ntmps13
  go_wp2_with (first
    | (at_builtin; refine wpList_append_both (n := 0) (m := k) (xs := []) (ys := hcells (m.take k)) rfl _ _ 24 rfl i0 _ 24 Try.underlying24 hi0 hz0 hz1 hz2 rfl (by decide) rfl (empty_sl _ _) rfl (HH.out.alloc _) (hcells_one _) (by unfold maxLen; omega) (by omega) ?_; intro v2 w2 ob2 hs2 ht2 ho2
       obtain ⟨oc, hcut⟩ := seg_tail (HS.out.alloc (.cells #[] 28)) (k := k) (by omega) (by omega)
       have HCUT := Lib.hid (hcut.turns ht2 (fun _ _ e => by cases e))
       have HS2 := Lib.hid hs2
       have HT2 := Lib.hid ht2
       have HO2 := Lib.hid ho2
       obtain ⟨A2, cap2, rfl, hn2, hm2⟩ := hs2.form
       clear hcut hs2 ht2 ho2
       go_frame)
    | (at_builtin; refine wpList_append_both (n := 0 + k) (m := n - (k + 1)) (xs := [] ++ hcells (m.take k)) (ys := hcells (m.drop (k + 1))) rfl _ _ 24 rfl i0 _ 24 Try.underlying24 hi0 hz0 hz1 hz2 rfl (by decide) rfl HS2.out rfl HCUT.out (hcells_one _) (by unfold maxLen; omega) (by omega) ?_; intro v3 w3 ob3 hs3 ht3 ho3
       have HS3 := Lib.hid hs3
       have HT3 := Lib.hid ht3
       have HO3 := Lib.hid ho3
       obtain ⟨A3, cap3, rfl, hn3, hm3⟩ := hs3.form
       clear hs3 ht3 ho3
       go_frame))
  all_goals
    go_ret
    have h2o : ∀ g, ob2 = some g → w.heap.size ≤ g := fun g e => by
      rcases HO2.out with h | ⟨g', h, hg'⟩
      · rw [h] at e; cases e
      · rw [h] at e; injection e with e; subst e; simp at hg'; omega
    have t2 : Below w.heap.size w w2 := HT2.out.below ((Below.refl _ w).alloc (Nat.le_refl _) _) (by simp) (fun k hk e => by cases e)
    refine ⟨_, rfl, ob3, ?_, fun g e => ?_, HT3.out.below t2 t2.size (fun k hk e => by have := h2o k e; omega)⟩
    · have e1 := HS3.out
      have hle : (m.eraseIdx k).length = 0 + k + (n - (k + 1)) := by rw [List.length_eraseIdx, HN.out, if_pos hk]; omega
      unfold Sl
      rw [hle, ← erase_cells m k (by rw [HN.out]; exact hk)]
      simpa using e1
    · rcases HO3.out with h | ⟨g', h, hg'⟩
      · exact h2o g (by rw [← h]; exact e)
      · rw [h] at e; injection e with e; subst e; have := t2.size; omega
end Go.Proofs.Ytbjkeclfcccilaa.Hp
