/- A heap in memory: two things change places. -/
import Derived.Test.YtbjkeclfcccilaaHpC
namespace Go.Proofs.Ytbjkeclfcccilaa.Hp
open Go.RowKit Go.Proofs.Ytbjkeclfcccilaa
set_option linter.unusedVariables false
set_option maxRecDepth 100000
/-- A cell of a segment, written. -/
theorem Seg.put {w : World} {e : TypeId} {size n cap g o : Nat} {xs : List Value} {ob : Option Nat} (h : Seg w e size (.slice (some ⟨g, o, none⟩) n cap) n xs ob) (i : Nat) (hi : i < n * size) (u : Value) :
    Seg (w.setCell ⟨g, o + i, none⟩ u) e size (.slice (some ⟨g, o, none⟩) n cap) n (xs.set i u) ob := by
  obtain ⟨h0, A, c, hv, h1, h2, h3⟩ := h
  injection hv with e1 _ e3
  subst e1 e3
  rcases h3 with ⟨h3, _⟩ | ⟨g', o', cur, a1, a2, a3, a4, a5⟩
  · have : n = 0 := by omega
    subst this
    simp at hi
  · injection a1 with a1
    injection a1 with b1 b2
    subst b1 b2 a2
    have hr : Row w g e cur := a3
    have hle : n * size ≤ cap * size := Nat.mul_le_mul_right _ h1
    refine ⟨by rw [List.length_set]; exact h0, _, cap, rfl, h1, h2, .inr ⟨g, o, cur.setIfInBounds (o + i) u, rfl, rfl, hr.put (o + i) u, by simpa using a4, ?_⟩⟩
    rw [← a5]
    apply List.ext_getElem?
    intro j
    simp only [Array.toList_setIfInBounds, List.getElem?_take, List.getElem?_drop, List.getElem?_set]
    by_cases hj : j < n * size
    · rw [if_pos hj]
      by_cases hij : i = j
      · subst hij
        rw [if_pos rfl, if_pos rfl]
        have h1 : o + i < cur.size := by omega
        simp [h1, List.length_take, List.length_drop]
        omega
      · rw [if_neg (by omega), if_neg hij, if_pos hj]
    · rw [if_neg hj]
      by_cases hij : i = j
      · omega
      · rw [if_neg hij, if_neg hj]
theorem set_at (P R : List Value) (i k : Nat) (u : Value) (h : i = P.length + k) : (P ++ R).set i u = P ++ R.set k u := by
  subst h
  rw [List.set_append_right _ _ (Nat.le_add_right _ _), Nat.add_sub_cancel_left]
theorem hcells_set (xs : List St) (i : Nat) (hi : i < xs.length) (y : St) : (((hcells xs).set (i * 3) (.int .i64 y.t)).set (i * 3 + 1) (.int .i64 y.q)).set (i * 3 + 2) (.int .i64 y.a) = hcells (xs.set i y) := by
  have hd : xs = xs.take i ++ xs[i] :: xs.drop (i + 1) := by rw [List.getElem_cons_drop, List.take_append_drop]
  have hl : (hcells (xs.take i)).length = i * 3 := by rw [hcells_len, List.length_take]; omega
  have happ : ∀ (a : List St) (x : St) (c : List St), hcells (a ++ x :: c) = hcells a ++ (x.cells ++ hcells c) := fun a x c => by simp [hcells]
  have e1 : hcells xs = hcells (xs.take i) ++ (xs[i].cells ++ hcells (xs.drop (i + 1))) := (congrArg hcells hd).trans (happ _ _ _)
  have e2 : hcells (xs.set i y) = hcells (xs.take i) ++ (y.cells ++ hcells (xs.drop (i + 1))) := by
    rw [List.set_eq_take_append_cons_drop, if_pos hi]
    exact happ _ _ _
  rw [e1, e2, set_at _ _ (i * 3) 0 _ (by omega), set_at _ _ (i * 3 + 1) 1 _ (by omega), set_at _ _ (i * 3 + 2) 2 _ (by omega)]
  rfl
theorem seg_row {w : World} {e : TypeId} {size n : Nat} {v : Value} {xs : List Value} {g : Nat} (h : Seg w e size v n xs (some g)) : ∃ c, Row w g e c := by
  obtain ⟨_, A, cap, _, _, _, ⟨_, h2, _⟩ | ⟨g', o, cur, _, h2, h3, _⟩⟩ := h
  · cases h2
  · cases h2; exact ⟨_, h3⟩
theorem row_ne {w : World} {b b' : Nat} {t t' : TypeId} {c c' : Array Value} (h : Row w b t c) (g : Row w b' t' c') (hn : t ≠ t') : b ≠ b' := by
  intro e
  subst e
  unfold Row at h g
  rw [h] at g
  cases g
  exact hn rfl
/-- One thing of a heap's, written anew. -/
theorem Hm.put {w : World} {b g o cap : Nat} {xs : List St} (h : Hm w b (.slice (some ⟨g, o, none⟩) xs.length cap) (some g) xs) (i : Nat) (hi : i < xs.length) (y : St) :
    Hm (((w.setCell ⟨g, o + i * 3, none⟩ (.int .i64 y.t)).setCell ⟨g, o + i * 3 + 1, none⟩ (.int .i64 y.q)).setCell ⟨g, o + i * 3 + 2, none⟩ (.int .i64 y.a)) b (.slice (some ⟨g, o, none⟩) (xs.set i y).length cap) (some g) (xs.set i y) := by
  obtain ⟨c, hr⟩ := seg_row h.seg
  have hne : b ≠ g := row_ne h.row hr (by decide)
  have h3 := Seg.put (Seg.put (Seg.put h.seg (i * 3) (by omega) (.int .i64 y.t)) (i * 3 + 1) (by omega) (.int .i64 y.q)) (i * 3 + 2) (by omega) (.int .i64 y.a)
  rw [hcells_set xs i hi y] at h3
  have hl : (xs.set i y).length = xs.length := by simp
  refine ⟨?_, by rw [hl]; exact h3⟩
  rw [hl]
  exact ((h.row.past (p := ⟨g, o + i * 3, none⟩) hne _).past (p := ⟨g, o + i * 3 + 1, none⟩) hne _).past (p := ⟨g, o + i * 3 + 2, none⟩) hne _
set_option maxHeartbeats 2000000 in
theorem swap_any (b g o cap : Nat) (xs : List St) (i j : Nat) (w : World) (h : Hm w b (.slice (some ⟨g, o, none⟩) xs.length cap) (some g) xs) (hi : i < xs.length) (hj : j < xs.length) (hij : i ≠ j) :
    Calls Try.prog 20 #[.pointer (some ⟨b, 0, none⟩), .int .i64 i, .int .i64 j] w fun e w' => e = .returned (.tuple #[]) ∧ Hm w' b (.slice (some ⟨g, o, none⟩) xs.length cap) (some g) (sw xs i j) ∧ Turns w w' (fun k => k = g) := by
  obtain ⟨g', o', cap', e, hob, hg, h1, h2, hcl, hfz⟩ := h.at hi
  injection e with e1 e2 e3
  injection e1 with e1
  injection e1 with e1 e4
  subst e1 e4 e3
  clear e2 hob
  have c0 : w.cell? ⟨b, 0, none⟩ = some (.slice (some ⟨g, o, none⟩) xs.length cap) := (h.row.cell 0).trans rfl
  obtain ⟨c, hr⟩ := seg_row h.seg
  have hne : b ≠ g := row_ne h.row hr (by decide)
  have hne2 : g ≠ b := fun e => hne e.symm
  have i0 := (hcl i hi).1
  have i1 := (hcl i hi).2.1
  have i2 := (hcl i hi).2.2
  have j0 := (hcl j hj).1
  have j1 := (hcl j hj).2.1
  have j2 := (hcl j hj).2.2
  have z := fun q => hfz (o + i * 3 + q)
  have zi0 := z 0
  have zi1 := z 1
  have zi2 := z 2
  have z2 := fun q => hfz (o + j * 3 + q)
  have zj0 := z2 0
  have zj1 := z2 1
  have zj2 := z2 2
  simp only [Nat.add_zero] at zi0 zj0
  have hii : (i : Int) < (xs.length : Int) := by omega
  have hji : (j : Int) < (xs.length : Int) := by omega
  obtain ⟨n, hn⟩ : ∃ n, xs.length = n := ⟨_, rfl⟩
  have H := Lib.hid h
  have HN := Lib.hid hn
  rw [hn] at c0 hii hji h1
  obtain ⟨x, hx⟩ : ∃ x, gt xs i = x := ⟨_, rfl⟩
  obtain ⟨y, hy⟩ : ∃ y, gt xs j = y := ⟨_, rfl⟩
  rw [hx] at i0 i1 i2
  rw [hy] at j0 j1 j2
  have HX := Lib.hid hx
  have HY := Lib.hid hy
  have HI := Lib.hid hi
  have HJ := Lib.hid hj
  obtain ⟨p, hp⟩ : ∃ p, o + i * 3 = p := ⟨_, rfl⟩
  obtain ⟨q, hq⟩ : ∃ q, o + j * 3 = q := ⟨_, rfl⟩
  rw [hp] at i0 i1 i2 zi0 zi1 zi2
  rw [hq] at j0 j1 j2 zj0 zj1 zj2
  have n0 : ¬ p = q := by omega
  have n1 : ¬ p + 1 = q := by omega
  have n2 : ¬ p + 2 = q := by omega
  have n3 : ¬ p = q + 1 := by omega
  have n4 : ¬ p = q + 2 := by omega
  have m0 : ¬ q = p := by omega
  have m1 : ¬ q + 1 = p := by omega
  have m2 : ¬ q + 2 = p := by omega
  have m3 : ¬ q = p + 1 := by omega
  have m4 : ¬ q = p + 2 := by omega
  clear h hcl hfz z z2 hr hn hx hy hi hj
  go_enter Try.func20, Try.ntmps20
  go_region
  all_goals
    go_wp2
    go_end0
    subst hp hq
    have h1 := H.out.put i HI.out y
    have hl : (xs.set i y).length = xs.length := by simp
    have h2 := Hm.put h1 j (by rw [hl]; exact HJ.out) x
    have e : (xs.set i y).set j x = sw xs i j := by unfold sw; rw [HX.out, HY.out]
    rw [e, sw_len] at h2
    exact ⟨rfl, h2.call (below_drewN (Below.refl _ _) 1), (((((((Turns.refl w (fun k => k = g)).put g (o + i * 3) _ (fun _ => rfl)).put g (o + i * 3 + 1) _ (fun _ => rfl)).put g (o + i * 3 + 2) _ (fun _ => rfl)).put g (o + j * 3) _ (fun _ => rfl)).put g (o + j * 3 + 1) _ (fun _ => rfl)).put g (o + j * 3 + 2) _ (fun _ => rfl)).drewN 1⟩
end Go.Proofs.Ytbjkeclfcccilaa.Hp
