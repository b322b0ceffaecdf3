/- Stamps as they lie in memory; a list of them cloned. -/
import Derived.Test.YtbhbjblliegliaaHpC
import Derived.Test.YtbhbjblliegliaaSrJ
import Derived.Test.YtbhbjblliegliaaSrH
import Derived.Deep.RegionHeld3
import Derived.BigRegion
import Derived.Deep.RegionHeld
import Derived.BigQuiet
import Derived.Deep.DeepCutAuto
import Derived.Deep.CutBlock
namespace Go.Proofs.Ytbhbjblliegliaa.Sm
open Go.RowKit Go.Proofs.Ytbhbjblliegliaa Go.Proofs.Ytbhbjblliegliaa.Hp
set_option linter.unusedVariables false
set_option maxRecDepth 100000
theorem info_parts {p : Program} {t : TypeId} {z : Option Value} {s b : Nat} (h : (p.info? t).map (fun i => (i.zero, i.size, i.bytes)) = some (z, s, b)) : ∃ i, p.info? t = some i ∧ i.zero = z ∧ i.size = s ∧ i.bytes = b := Sq.info_parts h
theorem st_info : (Try.prog.info? 47).map (fun i => (i.zero, i.size, i.bytes)) = some (some (.agg #[.int .i64 0, .int .i64 0, .int .i64 0]), 3, 24) := by kernel_rfl
/-- Stamps as they lie in memory. -/
def LS (w : World) (B : Nat) (v : Value) (L : List St) : Prop :=
  ∃ A c, v = .slice A L.length c ∧ L.length ≤ c ∧ c ≤ 9223372036854775807 ∧ ∀ k (h : k < L.length), ∃ g o, A = some ⟨g, o, none⟩ ∧ g < B ∧ w.cell? ⟨g, o + k * 3, none⟩ = some (.int .i64 L[k].t) ∧ w.cell? ⟨g, o + k * 3 + 1, none⟩ = some (.int .i64 L[k].q) ∧ w.cell? ⟨g, o + k * 3 + 2, none⟩ = some (.int .i64 L[k].a)
theorem LS.below {w w' : World} {B B' : Nat} {v : Value} {L : List St} (h : LS w B v L) (hb : Below B w w') (hB : B ≤ B') : LS w' B' v L := by
  obtain ⟨A, c, rfl, h1, h2, h3⟩ := h
  refine ⟨A, c, rfl, h1, h2, fun k hk => ?_⟩
  obtain ⟨g, o, e, hg, hc⟩ := h3 k hk
  exact ⟨g, o, e, by omega, (hb.cell (p := ⟨g, o + k * 3, none⟩) hg).trans hc.1, (hb.cell (p := ⟨g, o + k * 3 + 1, none⟩) hg).trans hc.2.1, (hb.cell (p := ⟨g, o + k * 3 + 2, none⟩) hg).trans hc.2.2⟩
theorem LS.of_seg {w : World} {v : Value} {L : List St} {ob : Option Nat} (h : Seg w 47 3 v L.length (hcells L) ob) : LS w w.heap.size v L := by
  obtain ⟨A, c, rfl, h1, h2⟩ := h.form
  refine ⟨A, c, rfl, h1, by unfold maxLen at h2; omega, fun k hk => ?_⟩
  obtain ⟨g, o, c', e, e2, _, _, h3, _⟩ := h.shape (by omega)
  injection e with e
  subst e
  have hx : L[k]? = some L[k] := List.getElem?_eq_getElem hk
  exact ⟨g, o, rfl, h.lt g e2, h3 _ _ (hcells_get L k _ 0 _ hx rfl), by have := h3 _ _ (hcells_get L k _ 1 _ hx rfl); simpa [Nat.add_assoc] using this, by have := h3 _ _ (hcells_get L k _ 2 _ hx rfl); simpa [Nat.add_assoc] using this⟩
theorem LS.none (w : World) (B : Nat) (A : Option Addr) (c : Nat) (hc : c ≤ 9223372036854775807) : LS w B (.slice A 0 c) [] := ⟨A, c, rfl, by simp, hc, fun k hk => by simp at hk⟩
theorem LS.len {w : World} {B : Nat} {A : Option Addr} {n c : Nat} {L : List St} (h : LS w B (.slice A n c) L) : n = L.length := by
  obtain ⟨A, c, e, _⟩ := h
  injection e
theorem hcells_at (L : List St) (j : Nat) (u : Value) (h : (hcells L)[j]? = some u) : ∃ k i x, j = k * 3 + i ∧ L[k]? = some x ∧ x.cells[i]? = some u ∧ i < 3 := by
  induction L generalizing j with
  | nil => simp [hcells] at h
  | cons y r ih =>
    have e : hcells (y :: r) = y.cells ++ hcells r := rfl
    rw [e] at h
    by_cases hj : j < 3
    · rw [List.getElem?_append_left (by exact hj)] at h
      exact ⟨0, j, y, by omega, rfl, h, hj⟩
    · rw [List.getElem?_append_right (by show 3 ≤ j; omega)] at h
      obtain ⟨k, i, x, h1, h2, h3, h4⟩ := ih _ h
      have hl : y.cells.length = 3 := rfl
      exact ⟨k + 1, i, x, by omega, by simpa using h2, h3, h4⟩
theorem LS.news {w : World} {B g o n c : Nat} {L : List St} (h : LS w B (.slice (some ⟨g, o, Option.none⟩) n c) L) : ∀ j u, (hcells L)[j]? = some u → w.cell? ((⟨g, o, Option.none⟩ : Addr).add j) = some u := fun j u hj => by
  obtain ⟨A, c, e, h1, h2, h3⟩ := h
  injection e with e1 e2 e3
  subst e1 e2 e3
  obtain ⟨k, i, x, rfl, hx, hi, h4⟩ := hcells_at L j u hj
  have hk := (List.getElem?_eq_some_iff.1 hx).1
  have hxe : L[k] = x := (List.getElem?_eq_some_iff.1 hx).2
  obtain ⟨g', o', e, hg', c0, c1, c2⟩ := h3 k hk
  injection e with e
  injection e with e1 e2
  subst e1 e2
  rw [hxe] at c0 c1 c2
  rw [Addr.add_lit]
  have : i = 0 ∨ i = 1 ∨ i = 2 := by omega
  rcases this with rfl | rfl | rfl
  · injection hi with hi; subst hi; exact c0
  · injection hi with hi; subst hi; rw [← Nat.add_assoc]; exact c1
  · injection hi with hi; subst hi; rw [← Nat.add_assoc]; exact c2
theorem hcells_one (L : List St) : ∀ u ∈ hcells L, u.oneCell' = true := fun u hu => by
  obtain ⟨x, _, hx⟩ := List.mem_flatMap.1 hu
  simp [St.cells] at hx
  rcases hx with rfl | rfl | rfl <;> rfl
/-- append of stamps, in a region that draws. -/
theorem ls_app {ops : Array Oper} {o : Oper} {a : Act} {K : Act → World → Prop} {Q : Exit → Act → World → Prop} {E : Prop} (d : Tmp) (w : World) (hw : Region.wanted o (yielded ops a.tmps) = true) (s x : Operand)
    (hop : o.op = .call { callee := .builtin .append, args := #[s, x], argTypes := #[43, 43] }) (v : Value) (Z L : List St) (ob : Option Nat) (hs : a.eval s = v) (h : Seg w 47 3 v Z.length (hcells Z) ob)
    (xv : Value) (hx : a.eval x = xv) (hl : LS w w.heap.size xv L) (hp : 0 < L.length) (hlen : Z.length + L.length ≤ 1000) (hd : o.dst = some d)
    (hK : ∀ v' w' ob', Seg w' 47 3 v' (Z ++ L).length (hcells (Z ++ L)) ob' → Turns w w' (fun k => ob = some k) → (ob' = ob ∨ ∃ g, ob' = some g ∧ w.heap.size ≤ g) → K (a.put (some d) v') w') :
    if Region.wanted o (yielded ops a.tmps) = true then Oper.wp Try.prog o a w K Q else E := by
  rw [if_pos hw]
  obtain ⟨i0, hi0, hz0, hz1, hz2⟩ := info_parts st_info
  obtain ⟨A, c, rfl, h1, h2, h3⟩ := id hl
  obtain ⟨g, o2, rfl, _⟩ := h3 0 hp
  obtain ⟨v', w', ob', hrun, r1, r2, r3⟩ := run_append_seg (P := Try.prog) 43 o.type i0 _ 24 Try.underlying43 hi0 hz0 hz1 hz2 rfl (by decide) h ⟨g, o2, Option.none⟩ L.length c (hcells L) (hcells_len L) hl.news (hcells_one L) hp (by unfold maxLen; omega) (by omega)
  unfold Oper.wp
  simp [execOp, hop, resolve, invoke, builtin, hs, hx, hrun, Result.andThen]
  show K (a.put o.dst v') w'
  rw [hd]
  refine hK v' w' ob' ?_ r2 r3
  simpa [hcells] using r1
theorem clone_none (A : Option Addr) (c : Nat) (w : World) :
    Calls Try.prog 36 #[.slice A 0 c] w fun e w' => ∃ A', e = .returned (.slice A' 0 0) ∧ Below w.heap.size w w' := by
  have q22 : ∀ (w : World) (a : Option Addr) (n c n' c' : Nat), (binOp .eql 43 (.slice a n c) (.slice Option.none n' c')).run Try.prog w = .ok (.bool a.isNone) w := fun w a n c n' c' => Lib.run_eql_slice_nil w _ _ a n c n' c' Try.underlying43
  obtain ⟨i0, hi0, hz0, hz1, hz2⟩ := info_parts st_info
  cases A with
  | none =>
    go_enter Try.func36, Try.ntmps36
    go_wp2
    go_ret
    exact ⟨_, rfl, Below.refl _ _⟩
  | some a =>
    go_enter Try.func36, Try.ntmps36
    go_wp2_with (at_builtin; go_loud (refine wpList_append_none rfl _ _ 43 rfl i0 Try.underlying43 hi0 rfl (Nat.le_refl _) _ _ rfl ?_); go_frame)
    go_ret
    exact ⟨_, rfl, (Below.refl _ w).alloc (Nat.le_refl _) _⟩
theorem seg_zero (w : World) (A : Option Addr) : Seg w 47 3 (.slice A 0 0) 0 (hcells []) Option.none := ⟨by simp [hcells], _, 0, rfl, Nat.le_refl _, by unfold maxLen; omega, .inl ⟨rfl, rfl, fun _ => trivial⟩⟩
set_option maxHeartbeats 800000 in
theorem clone_s (v : Value) (zs : List St) (w : World) (h : LS w w.heap.size v zs) (hl : zs.length ≤ 1000) :
    Calls Try.prog 36 #[v] w fun e w' => ∃ v' ob', e = .returned v' ∧ Seg w' 47 3 v' zs.length (hcells zs) ob' ∧ Below w.heap.size w w' := by
  rcases Nat.eq_zero_or_pos zs.length with h0 | hp
  · obtain rfl : zs = [] := List.eq_nil_of_length_eq_zero h0
    obtain ⟨A, c, rfl, _⟩ := h
    refine (clone_none A c w).mono ?_
    rintro e w' ⟨A', rfl, hb⟩
    exact ⟨_, Option.none, rfl, seg_zero _ _, hb⟩
  have q22 : ∀ (w : World) (a : Option Addr) (n c n' c' : Nat), (binOp .eql 43 (.slice a n c) (.slice Option.none n' c')).run Try.prog w = .ok (.bool a.isNone) w := fun w a n c n' c' => Lib.run_eql_slice_nil w _ _ a n c n' c' Try.underlying43
  obtain ⟨i0, hi0, hz0, hz1, hz2⟩ := info_parts st_info
  have hlb := h.below ((Below.refl _ w).alloc (Nat.le_refl _) (.cells #[] 47)) (Nat.le_refl _)
  obtain ⟨A, c, rfl, h1, h2, h3⟩ := h
  obtain ⟨g, o, rfl, hg, _⟩ := h3 0 hp
  have HN := Lib.hid hlb.news
  have HO := Lib.hid (hcells_one zs)
  have HLN := Lib.hid (hcells_len zs)
  clear h3 h2 hlb
  go_enter Try.func36, Try.ntmps36
  go_wp2_with (at_builtin; go_loud (refine wpList_append_seg _ rfl _ _ 43 rfl 47 i0 _ 3 24 Try.underlying43 hi0 hz0 hz1 hz2 rfl (by decide) _ 0 [] Option.none rfl ⟨by simp, _, 0, rfl, Nat.le_refl _, by unfold maxLen; omega, .inl ⟨rfl, rfl, fun _ => trivial⟩⟩ ⟨g, o, Option.none⟩ zs.length c (hcells zs) rfl HLN.out HN.out HO.out hp (by unfold maxLen; omega) (by omega) ?_); intro v1 w1 ob1 hs1 ht1 ho1)
  go_ret
  exact ⟨v1, ob1, rfl, by simpa using hs1, ht1.below (by go_grown) (by simp) (fun _ _ e => by cases e)⟩
end Go.Proofs.Ytbhbjblliegliaa.Sm
