/- slices.Clone at texts, nodes and elements. -/
import Derived.Test.YtopbildpeojgoaaTab
import Derived.WalkSpells
namespace Go.Proofs.Ytopbildpeojgoaa.Pc
open Go.RowKit Go.Proofs.Ytopbildpeojgoaa
set_option linter.unusedVariables false
set_option maxRecDepth 100000

/-- m cells from A on, in a block of P. -/
def Cell (w : World) (P : Nat → Prop) (A : Option Addr) (m : Nat) (C : Nat → Value) : Prop := ∀ k, k < m → ∃ g o, A = some ⟨g, o, none⟩ ∧ P g ∧ g < w.heap.size ∧ w.cell? ⟨g, o + k, none⟩ = some (C k)
section
variable {w w' : World} {P Q : Nat → Prop} {A : Option Addr} {m : Nat} {C : Nat → Value}
theorem Cell.turns {S : Nat → Prop} (h : Cell w P A m C) (t : Turns w w' S) (hs : ∀ k, k < w.heap.size → P k → ¬ S k) : Cell w' P A m C := fun k hk => by
  obtain ⟨g, o, e, hp, hl, hc⟩ := h k hk
  refine ⟨g, o, e, hp, Nat.lt_of_lt_of_le hl t.size, ?_⟩
  rw [← hc]
  unfold World.cell?
  rw [t.block g hl (hs g hl hp)]
theorem Cell.call (h : Cell w P A m C) (t : Below w.heap.size w w') : Cell w' P A m C := h.turns (Turns.of_below t) (fun _ _ _ x => x)
theorem Cell.alloc (h : Cell w P A m C) (x : Obj) : Cell (w.alloc x) P A m C := h.call ((Below.refl _ w).alloc (Nat.le_refl _) x)
theorem Cell.mono (h : Cell w P A m C) (hp : ∀ k, k < w.heap.size → P k → Q k) : Cell w Q A m C := fun k hk => by
  obtain ⟨g, o, e, h1, hl, hc⟩ := h k hk
  exact ⟨g, o, e, hp g hl h1, hl, hc⟩
theorem Cell.put (h : Cell w P A m C) {p : Addr} (hp : ¬ P p.block) (u : Value) : Cell (w.setCell p u) P A m C := h.turns (S := fun k => k = p.block) ⟨rfl, rfl, rfl, by simp, fun k _ hn => heap_setCell_other w p k u hn⟩ (fun k _ h1 e => hp (e ▸ h1))
theorem Cell.drew (h : Cell w P A m C) : Cell w.drew P A m C := h
end
/-- m cells from A on, in a row of a type, in a block of P. -/
def RCell (w : World) (t : TypeId) (P : Nat → Prop) (A : Option Addr) (m : Nat) (C : Nat → Value) : Prop := ∀ k, k < m → ∃ g o cs, A = some ⟨g, o, none⟩ ∧ P g ∧ Row w g t cs ∧ cs[o + k]? = some (C k)
section
variable {w w' : World} {t : TypeId} {P Q : Nat → Prop} {A : Option Addr} {m : Nat} {C : Nat → Value}
theorem RCell.turns {S : Nat → Prop} (h : RCell w t P A m C) (g : Turns w w' S) (hs : ∀ k, k < w.heap.size → P k → ¬ S k) : RCell w' t P A m C := fun k hk => by
  obtain ⟨b, o, cs, e, hp, hr, hc⟩ := h k hk
  exact ⟨b, o, cs, e, hp, hr.turns g (hs b hr.lt hp), hc⟩
theorem RCell.call (h : RCell w t P A m C) (g : Below w.heap.size w w') : RCell w' t P A m C := h.turns (Turns.of_below g) (fun _ _ _ x => x)
theorem RCell.mono (h : RCell w t P A m C) (hp : ∀ k, k < w.heap.size → P k → Q k) : RCell w t Q A m C := fun k hk => by
  obtain ⟨b, o, cs, e, h1, hr, hc⟩ := h k hk
  exact ⟨b, o, cs, e, hp b hr.lt h1, hr, hc⟩
theorem RCell.cell (h : RCell w t P A m C) : Cell w P A m C := fun k hk => by
  obtain ⟨b, o, cs, e, hp, hr, hc⟩ := h k hk
  exact ⟨b, o, e, hp, hr.lt, (hr.cell _).trans hc⟩
end
/-- A new row of cells, from ⟨g, o⟩ on. -/
structure Own1 (w0 w : World) (t : TypeId) (g o m : Nat) (C : Nat → Value) : Prop where
  row : ∃ cs, Row w g t cs ∧ ∀ k, k < m → cs[o + k]? = some (C k)
  ge : w0.heap.size ≤ g
  be : Below w0.heap.size w0 w
theorem Own1.cell {w0 w : World} {t : TypeId} {g o m : Nat} {C : Nat → Value} (h : Own1 w0 w t g o m C) {P : Nat → Prop} (hp : P g) : Cell w P (some ⟨g, o, none⟩) m C := fun k hk => by
  obtain ⟨cs, h1, h2⟩ := h.row
  exact ⟨g, o, rfl, hp, h1.lt, (h1.cell _).trans (h2 k hk)⟩
theorem Own1.rcell {w0 w : World} {t : TypeId} {g o m : Nat} {C : Nat → Value} (h : Own1 w0 w t g o m C) {P : Nat → Prop} (hp : P g) : RCell w t P (some ⟨g, o, none⟩) m C := fun k hk => by
  obtain ⟨cs, h1, h2⟩ := h.row
  exact ⟨g, o, cs, rfl, hp, h1, h2 k hk⟩
theorem seg_zeroK (w : World) (e : TypeId) (K : Nat) (A : Option Addr) : Seg w e K (.slice A 0 0) 0 [] none := ⟨by simp, _, 0, rfl, Nat.le_refl _, by unfold maxLen; omega, .inl ⟨rfl, rfl, fun _ => trivial⟩⟩
theorem news_of {w : World} {P : Nat → Prop} {g o m : Nat} {C : Nat → Value} (h : Cell w P (some ⟨g, o, none⟩) m C) : ∀ j u, ((List.range m).map C)[j]? = some u → w.cell? ((⟨g, o, none⟩ : Addr).add j) = some u := fun j u hj => by
  have hjm : j < m := by have := (List.getElem?_eq_some_iff.1 hj).1; simpa using this
  obtain ⟨g', o', e, _, _, hc⟩ := h j hjm
  injection e with e
  injection e with e1 e2
  subst e1 e2
  rw [show ((⟨g, o, none⟩ : Addr).add j) = ⟨g, o + j, none⟩ from by simp [Addr.add], hc]
  rw [List.getElem?_map, List.getElem?_range hjm] at hj
  simpa using hj
theorem one_of {m : Nat} {C : Nat → Value} (h : ∀ k, k < m → (C k).oneCell' = true) : ∀ u ∈ (List.range m).map C, u.oneCell' = true := fun u hu => by
  obtain ⟨k, hk, rfl⟩ := List.mem_map.1 hu
  exact h k (List.mem_range.1 hk)
theorem own1_of {w w1 w2 : World} {t : TypeId} {K n : Nat} {C : Nat → Value} {v : Value} {ob : Option Nat} {x : Obj} (hs : Seg w2 t K v (0 + n) ([] ++ (List.range (n * K)).map C) ob) (ht : Turns (w.alloc x) w2 (fun k => (none : Option Nat) = some k)) (ho : ob = none ∨ ∃ g, ob = some g ∧ (w.alloc x).heap.size ≤ g) (hn : 0 < n) (he : w1 = w) :
    ∃ g' o' c', Ending.returned v = .returned (.slice (some ⟨g', o', none⟩) n c') ∧ Own1 w w2 t g' o' (n * K) C ∧ n ≤ c' ∧ c' ≤ maxLen := by
  rw [Nat.zero_add, List.nil_append] at hs
  obtain ⟨h0, A, cap, hv, h1, h2, h3⟩ := hs
  rcases h3 with ⟨h3, _⟩ | ⟨g, o, cur, a1, a2, a3, a4, a5⟩
  · omega
  · have hge : w.heap.size ≤ g := by
      rcases ho with e | ⟨g', e, hg⟩
      · rw [e] at a2; cases a2
      · rw [e] at a2; injection a2 with a2; simp at hg; omega
    refine ⟨g, o, cap, by rw [hv, a1], ⟨⟨cur, a3, fun k hk => ?_⟩, hge, ?_⟩, h1, h2⟩
    · have : ((cur.toList.drop o).take (n * K))[k]? = some (C k) := by rw [a5, List.getElem?_map, List.getElem?_range hk]; rfl
      rw [List.getElem?_take, if_pos hk, List.getElem?_drop] at this
      simpa using this
    · exact ht.below ((Below.refl _ w).alloc (Nat.le_refl _) x) (by simp) (fun k hk e => by cases e)
theorem str_info : (Try.prog.info? 9).map (fun i => (i.zero, i.size, i.bytes)) = some (some (.string ⟨#[]⟩), 1, 16) := by kernel_rfl
theorem str_nil (w : World) : Calls Try.prog 100 #[.slice none 0 0] w fun e w' => e = .returned (.slice none 0 0) ∧ w = w' := by
  have q := fun wx => Lib.run_eql_slice_nil (P := Try.prog) wx 71 9 none 0 0 0 0 Try.underlying71
  go_enter Try.func100, Try.ntmps100
  go_wp2
  go_ret
  exact ⟨rfl, rfl⟩
set_option maxHeartbeats 1000000 in
theorem str_some (g o n c : Nat) (C : Nat → Value) (w : World) (h : Cell w (fun _ => True) (some ⟨g, o, none⟩) (n * 1) C) (h1 : ∀ k, k < n * 1 → (C k).oneCell' = true) (hn : 0 < n) (hm : n ≤ 1000) :
    Calls Try.prog 100 #[.slice (some ⟨g, o, none⟩) n c] w fun e w' => ∃ g' o' c', e = .returned (.slice (some ⟨g', o', none⟩) n c') ∧ Own1 w w' 9 g' o' (n * 1) C ∧ n ≤ c' ∧ c' ≤ maxLen := by
  have q := fun wx => Lib.run_eql_slice_nil (P := Try.prog) wx 71 9 (some ⟨g, o, none⟩) n c 0 0 Try.underlying71
  obtain ⟨i0, hi0, hz0, hz1, hz2⟩ := info_parts str_info
  have HC := Lib.hid h
  have H1 := Lib.hid h1
  clear h h1
  go_enter Try.func100, Try.ntmps100
  go_wp2_with (at_builtin; refine wpList_append_seg _ rfl _ _ 71 rfl 9 i0 _ 1 16 Try.underlying71 hi0 hz0 hz1 hz2 rfl (by decide) _ 0 [] none rfl (seg_zeroK _ _ _ _) ⟨g, o, none⟩ n c ((List.range (n * 1)).map C) rfl (by simp) (news_of ((HC.out.alloc _))) (one_of H1.out) hn (by unfold maxLen; omega) (by omega) ?_; intro v2 w2 ob2 hs2 ht2 ho2; have HS3 := Lib.hid hs2; have HT3 := Lib.hid ht2; have HO3 := Lib.hid ho2; clear hs2 ht2 ho2)
  go_ret
  exact own1_of HS3.out HT3.out HO3.out (by omega) rfl
theorem nod_info : (Try.prog.info? 86).map (fun i => (i.zero, i.size, i.bytes)) = some (some (.agg #[.int .i64 0, .int .i64 0, .int .i64 0, .string ⟨#[]⟩, .bool false, .string ⟨#[]⟩, .string ⟨#[]⟩]), 7, 80) := by kernel_rfl
theorem nod_nil (w : World) : Calls Try.prog 104 #[.slice none 0 0] w fun e w' => e = .returned (.slice none 0 0) ∧ w = w' := by
  have q := fun wx => Lib.run_eql_slice_nil (P := Try.prog) wx 53 86 none 0 0 0 0 Try.underlying53
  go_enter Try.func104, Try.ntmps104
  go_wp2
  go_ret
  exact ⟨rfl, rfl⟩
set_option maxHeartbeats 1000000 in
theorem nod_some (g o n c : Nat) (C : Nat → Value) (w : World) (h : Cell w (fun _ => True) (some ⟨g, o, none⟩) (n * 7) C) (h1 : ∀ k, k < n * 7 → (C k).oneCell' = true) (hn : 0 < n) (hm : n ≤ 1000) :
    Calls Try.prog 104 #[.slice (some ⟨g, o, none⟩) n c] w fun e w' => ∃ g' o' c', e = .returned (.slice (some ⟨g', o', none⟩) n c') ∧ Own1 w w' 86 g' o' (n * 7) C ∧ n ≤ c' ∧ c' ≤ maxLen := by
  have q := fun wx => Lib.run_eql_slice_nil (P := Try.prog) wx 53 86 (some ⟨g, o, none⟩) n c 0 0 Try.underlying53
  obtain ⟨i0, hi0, hz0, hz1, hz2⟩ := info_parts nod_info
  have HC := Lib.hid h
  have H1 := Lib.hid h1
  clear h h1
  go_enter Try.func104, Try.ntmps104
  go_wp2_with (at_builtin; refine wpList_append_seg _ rfl _ _ 53 rfl 86 i0 _ 7 80 Try.underlying53 hi0 hz0 hz1 hz2 rfl (by decide) _ 0 [] none rfl (seg_zeroK _ _ _ _) ⟨g, o, none⟩ n c ((List.range (n * 7)).map C) rfl (by simp) (news_of ((HC.out.alloc _))) (one_of H1.out) hn (by unfold maxLen; omega) (by omega) ?_; intro v2 w2 ob2 hs2 ht2 ho2; have HS3 := Lib.hid hs2; have HT3 := Lib.hid ht2; have HO3 := Lib.hid ho2; clear hs2 ht2 ho2)
  go_ret
  exact own1_of HS3.out HT3.out HO3.out (by omega) rfl
theorem elm_info : (Try.prog.info? 73).map (fun i => (i.zero, i.size, i.bytes)) = some (some (.agg #[.string ⟨#[]⟩, .slice none 0 0, .bool false, .int .i64 0, .int .i64 0, .slice none 0 0]), 6, 88) := by kernel_rfl
theorem elm_nil (w : World) : Calls Try.prog 103 #[.slice none 0 0] w fun e w' => e = .returned (.slice none 0 0) ∧ w = w' := by
  have q := fun wx => Lib.run_eql_slice_nil (P := Try.prog) wx 65 73 none 0 0 0 0 Try.underlying65
  go_enter Try.func103, Try.ntmps103
  go_wp2
  go_ret
  exact ⟨rfl, rfl⟩
set_option maxHeartbeats 1000000 in
theorem elm_some (g o n c : Nat) (C : Nat → Value) (w : World) (h : Cell w (fun _ => True) (some ⟨g, o, none⟩) (n * 6) C) (h1 : ∀ k, k < n * 6 → (C k).oneCell' = true) (hn : 0 < n) (hm : n ≤ 1000) :
    Calls Try.prog 103 #[.slice (some ⟨g, o, none⟩) n c] w fun e w' => ∃ g' o' c', e = .returned (.slice (some ⟨g', o', none⟩) n c') ∧ Own1 w w' 73 g' o' (n * 6) C ∧ n ≤ c' ∧ c' ≤ maxLen := by
  have q := fun wx => Lib.run_eql_slice_nil (P := Try.prog) wx 65 73 (some ⟨g, o, none⟩) n c 0 0 Try.underlying65
  obtain ⟨i0, hi0, hz0, hz1, hz2⟩ := info_parts elm_info
  have HC := Lib.hid h
  have H1 := Lib.hid h1
  clear h h1
  go_enter Try.func103, Try.ntmps103
  go_wp2_with (at_builtin; refine wpList_append_seg _ rfl _ _ 65 rfl 73 i0 _ 6 88 Try.underlying65 hi0 hz0 hz1 hz2 rfl (by decide) _ 0 [] none rfl (seg_zeroK _ _ _ _) ⟨g, o, none⟩ n c ((List.range (n * 6)).map C) rfl (by simp) (news_of ((HC.out.alloc _))) (one_of H1.out) hn (by unfold maxLen; omega) (by omega) ?_; intro v2 w2 ob2 hs2 ht2 ho2; have HS3 := Lib.hid hs2; have HT3 := Lib.hid ht2; have HO3 := Lib.hid ho2; clear hs2 ht2 ho2)
  go_ret
  exact own1_of HS3.out HT3.out HO3.out (by omega) rfl
end Go.Proofs.Ytopbildpeojgoaa.Pc
