/- Values that are compared; a part that is of others. -/
import Derived.Test.YtopbildpeojgoaaEvlC
namespace Go.Proofs.Ytopbildpeojgoaa.Evl
open Go.RowKit Go.Proofs.Ytopbildpeojgoaa Go.Proofs.Ytopbildpeojgoaa.Ev Go.Proofs.Ytopbildpeojgoaa.Sch Go.Proofs.Ytopbildpeojgoaa.Ty Go.Proofs.Ytopbildpeojgoaa.Num
set_option linter.unusedVariables false
set_option maxRecDepth 100000
set_option maxHeartbeats 2000000 in
theorem compared_any (o : Int) (h1 : 7 ≤ o) (h2 : o ≤ 12) (a b : VV) (w : World) : Calls Try.prog 155 #[.int .i64 o, .agg #[.int .i64 a.k, .int .i64 a.i, .string a.s, .bool a.b], .agg #[.int .i64 b.k, .int .i64 b.i, .string b.s, .bool b.b]] w (RPost w (opM o [a, b])) := by
  have e : opM o [a, b] = (ordV a b).map fun r => trV (standM o r) := by simp only [opM]; rw [if_neg (by omega), if_neg (by omega)]
  rw [e]
  clear e
  have HC := Lib.hid (fun X => vcmp_any a b X)
  have HS := Lib.hid (fun r X => stands_any o r h1 h2 X)
  obtain ⟨q, hq⟩ : ∃ q, ordV a b = q := ⟨_, rfl⟩
  rw [hq] at HC ⊢
  obtain ⟨ak, ai, sa, ab⟩ := a
  obtain ⟨bk, bi, sb, bb⟩ := b
  dsimp only at HC ⊢
  clear hq h1 h2
  have hX : Below w.heap.size w (((w.alloc (.cells #[.int .i64 ak, .int .i64 ai, .string sa, .bool ab] 57)).alloc (.cells #[.int .i64 bk, .int .i64 bi, .string sb, .bool bb] 57)).alloc (.cells #[.int .i64 0, .int .i64 0, .string ⟨#[]⟩, .bool false] 57)) := (((Below.refl _ w).alloc (Nat.le_refl _) _).alloc (by simp) _).alloc (by simp; omega) _
  have hR : Row (((w.alloc (.cells #[.int .i64 ak, .int .i64 ai, .string sa, .bool ab] 57)).alloc (.cells #[.int .i64 bk, .int .i64 bi, .string sb, .bool bb] 57)).alloc (.cells #[.int .i64 0, .int .i64 0, .string ⟨#[]⟩, .bool false] 57)) (w.heap.size + 1 + 1) 57 #[.int .i64 0, .int .i64 0, .string ⟨#[]⟩, .bool false] := by
    have := Row.made ((w.alloc (.cells #[.int .i64 ak, .int .i64 ai, .string sa, .bool ab] 57)).alloc (.cells #[.int .i64 bk, .int .i64 bi, .string sb, .bool bb] 57)) 57 #[.int .i64 0, .int .i64 0, .string ⟨#[]⟩, .bool false]
    simpa using this
  have HX := Lib.hid hX
  have HR := Lib.hid hR
  clear hX hR
  go_enter Try.func155, Try.ntmps155
  go_wp2_with fail
  refine (HC.out _).mono ?_
  rintro e w1 ⟨rfl, hb1⟩
  have HB := Lib.hid (HX.out.trans (hb1.mono HX.out.size))
  have HZ1 : Hid (Rz w1 (w.heap.size + 1 + 1)) := Lib.hid (HR.out.below hb1 HR.out.lt)
  obtain ⟨hlt1, p10, p11, p12, p13, f10, f11, f12, f13⟩ := HZ1.out.facts
  clear hb1 HX HR
  cases q with
  | none =>
    go_wp2
    obtain ⟨k0, k1, k2, k3⟩ := four (put4 HZ1.out (.int .i64 0) (.int .i64 0) (.string ⟨#[]⟩) (.bool false))
    exact bodyPost_ret (v := .tuple #[.agg #[.int .i64 0, .int .i64 0, .string ⟨#[]⟩, .bool false], .bool false]) (by simp [results, Try.results155, go_sem, k0, k1, k2, k3]; try rfl) rfl (rpost_no rfl (below4 HB.out (w.heap.size + 1 + 1) (by omega) _ _ _ _))
  | some r =>
    go_wp2_with fail
    refine (HS.out r _).mono ?_
    rintro e w2 ⟨rfl, rfl⟩
    obtain ⟨t, ht⟩ : ∃ t, standM o r = t := ⟨_, rfl⟩
    have hy : Option.map (fun r => trV (standM o r)) (some r) = some (trV t) := by rw [← ht]; rfl
    have HY := Lib.hid hy
    rw [ht]
    clear hy ht
    go_wp2_with fail
    refine (vtruth_any t _).mono ?_
    rintro e w4 ⟨rfl, hb4⟩
    have HB4 := Lib.hid (HB.out.trans (hb4.mono HB.out.size))
    have HZ4 : Hid (Rz w4 (w.heap.size + 1 + 1)) := Lib.hid (Row.below HZ1.out hb4 hlt1)
    clear p10 p11 p12 p13 f10 f11 f12 f13
    obtain ⟨hlt4, p40, p41, p42, p43, f40, f41, f42, f43⟩ := HZ4.out.facts
    clear hb4
    go_wp2
    obtain ⟨k0, k1, k2, k3⟩ := four (put4 HZ4.out (.int .i64 3) (.int .i64 0) (.string ⟨#[]⟩) (.bool t))
    exact bodyPost_ret (v := .tuple #[.agg #[.int .i64 3, .int .i64 0, .string ⟨#[]⟩, .bool t], .bool true]) (by simp [results, Try.results155, go_sem, k0, k1, k2, k3]; try rfl) rfl (rpost_yes HY.out (below4 HB4.out (w.heap.size + 1 + 1) (by omega) _ _ _ _))

theorem res_any {w X : World} {nd : Array Value} (h : Below (w.heap.size + 1 + 1) ((w.alloc (.cells nd 86)).alloc (.cells #[.int .i64 0, .int .i64 0, .string ⟨#[]⟩, .bool false] 57)) X) : Rz X (w.heap.size + 1) :=
  Row.below (by simpa using Row.made (w.alloc (.cells nd 86)) 57 #[.int .i64 0, .int .i64 0, .string ⟨#[]⟩, .bool false]) h (by omega)
set_option maxHeartbeats 4000000 in
theorem part_neg (s en v : Value) (a : VV) (w : World) (hv : VL w w.heap.size v [a]) (h : In64 a.i) : Calls Try.prog 93 #[s, en, .agg #[.int .i64 3, .int .i64 0, .int .i64 0, .string ⟨#[]⟩, .bool false, .string ⟨#[]⟩, .string ⟨#[]⟩], v] w (RPost w (opM 3 [a])) := by
  have hX : Below w.heap.size w ((w.alloc (.cells #[.int .i64 3, .int .i64 0, .int .i64 0, .string ⟨#[]⟩, .bool false, .string ⟨#[]⟩, .string ⟨#[]⟩] 86)).alloc (.cells #[.int .i64 0, .int .i64 0, .string ⟨#[]⟩, .bool false] 57)) := ((Below.refl _ w).alloc (Nat.le_refl _) _).alloc (by simp) _
  have HX := Lib.hid hX
  have HC := Lib.hid (number_1 v a _ (hv.below hX hX.size) h)
  have HZ : Hid (∀ X, Below ((w.alloc (.cells #[.int .i64 3, .int .i64 0, .int .i64 0, .string ⟨#[]⟩, .bool false, .string ⟨#[]⟩, .string ⟨#[]⟩] 86)).alloc (.cells #[.int .i64 0, .int .i64 0, .string ⟨#[]⟩, .bool false] 57)).heap.size ((w.alloc (.cells #[.int .i64 3, .int .i64 0, .int .i64 0, .string ⟨#[]⟩, .bool false, .string ⟨#[]⟩, .string ⟨#[]⟩] 86)).alloc (.cells #[.int .i64 0, .int .i64 0, .string ⟨#[]⟩, .bool false] 57)) X → Rz X (w.heap.size + 1)) := Lib.hid (fun X h => res_any (h.mono (by simp)))
  obtain ⟨r, hr⟩ : ∃ r, opM 3 [a] = r := ⟨_, rfl⟩
  rw [hr] at HC ⊢
  obtain ⟨⟨rk, ri, rs, rb⟩, hq⟩ : ∃ x, r.getD zeroV = x := ⟨_, rfl⟩
  obtain ⟨ro, hro⟩ : ∃ x, r.isSome = x := ⟨_, rfl⟩
  have HR : Hid (∀ X, Below w.heap.size w X → RPost w r (.returned (.tuple #[.agg #[.int .i64 rk, .int .i64 ri, .string rs, .bool rb], .bool ro])) X) := Lib.hid (fun X h => ⟨by rw [hq, hro]; rfl, h⟩)
  unfold RPost at HC
  rw [hq, hro] at HC
  obtain ⟨A, c, e0, hx1, hx2, hx3⟩ := hv
  subst e0
  clear hx1 hx2 hx3 hX hr hq hro
  go_enter Try.func93, Try.ntmps93
  go_wp2_with fail
  refine HC.out.mono ?_
  rintro e w1 ⟨rfl, hb1⟩
  have HB := Lib.hid (HX.out.trans (hb1.mono HX.out.size))
  have HZ1 := Lib.hid (HZ.out _ hb1)
  obtain ⟨hlt1, p10, p11, p12, p13, f10, f11, f12, f13⟩ := HZ1.out.facts
  unfold VV.agg
  dsimp only
  clear hb1 HX HZ HC
  go_wp2
  obtain ⟨k0, k1, k2, k3⟩ := four (put4 HZ1.out (.int .i64 rk) (.int .i64 ri) (.string rs) (.bool rb))
  exact bodyPost_ret (v := .tuple #[.agg #[.int .i64 rk, .int .i64 ri, .string rs, .bool rb], .bool ro]) (by simp [results, Try.results93, go_sem, k0, k1, k2, k3]; try rfl) rfl (HR.out _ (below4 HB.out (w.heap.size + 1) (by omega) _ _ _ _))
set_option maxHeartbeats 4000000 in
theorem part_ari (s en v : Value) (o : Int) (ho : o = 4 ∨ o = 5 ∨ o = 6) (a b : VV) (w : World) (hv : VL w w.heap.size v [a, b]) (h : In64 a.i) (h' : In64 b.i) : Calls Try.prog 93 #[s, en, .agg #[.int .i64 o, .int .i64 0, .int .i64 0, .string ⟨#[]⟩, .bool false, .string ⟨#[]⟩, .string ⟨#[]⟩], v] w (RPost w (opM o [a, b])) := by
  have hX : Below w.heap.size w ((w.alloc (.cells #[.int .i64 o, .int .i64 0, .int .i64 0, .string ⟨#[]⟩, .bool false, .string ⟨#[]⟩, .string ⟨#[]⟩] 86)).alloc (.cells #[.int .i64 0, .int .i64 0, .string ⟨#[]⟩, .bool false] 57)) := ((Below.refl _ w).alloc (Nat.le_refl _) _).alloc (by simp) _
  have HX := Lib.hid hX
  have HC := Lib.hid (number_2 o ho v a b _ (hv.below hX hX.size) h h')
  have HZ : Hid (∀ X, Below ((w.alloc (.cells #[.int .i64 o, .int .i64 0, .int .i64 0, .string ⟨#[]⟩, .bool false, .string ⟨#[]⟩, .string ⟨#[]⟩] 86)).alloc (.cells #[.int .i64 0, .int .i64 0, .string ⟨#[]⟩, .bool false] 57)).heap.size ((w.alloc (.cells #[.int .i64 o, .int .i64 0, .int .i64 0, .string ⟨#[]⟩, .bool false, .string ⟨#[]⟩, .string ⟨#[]⟩] 86)).alloc (.cells #[.int .i64 0, .int .i64 0, .string ⟨#[]⟩, .bool false] 57)) X → Rz X (w.heap.size + 1)) := Lib.hid (fun X h => res_any (h.mono (by simp)))
  obtain ⟨r, hr⟩ : ∃ r, opM o [a, b] = r := ⟨_, rfl⟩
  rw [hr] at HC ⊢
  obtain ⟨⟨rk, ri, rs, rb⟩, hq⟩ : ∃ x, r.getD zeroV = x := ⟨_, rfl⟩
  obtain ⟨ro, hro⟩ : ∃ x, r.isSome = x := ⟨_, rfl⟩
  have HR : Hid (∀ X, Below w.heap.size w X → RPost w r (.returned (.tuple #[.agg #[.int .i64 rk, .int .i64 ri, .string rs, .bool rb], .bool ro])) X) := Lib.hid (fun X h => ⟨by rw [hq, hro]; rfl, h⟩)
  unfold RPost at HC
  rw [hq, hro] at HC
  obtain ⟨A, c, e0, hx1, hx2, hx3⟩ := hv
  subst e0
  clear hx1 hx2 hx3 hX hr hq hro
  rcases ho with rfl | rfl | rfl
  all_goals
    go_enter Try.func93, Try.ntmps93
    go_wp2_with fail
    refine HC.out.mono ?_
    rintro e w1 ⟨rfl, hb1⟩
    have HB := Lib.hid (HX.out.trans (hb1.mono HX.out.size))
    have HZ1 := Lib.hid (HZ.out _ hb1)
    obtain ⟨hlt1, p10, p11, p12, p13, f10, f11, f12, f13⟩ := HZ1.out.facts
    unfold VV.agg
    dsimp only
    clear hb1 HX HZ HC
    go_wp2
    obtain ⟨k0, k1, k2, k3⟩ := four (put4 HZ1.out (.int .i64 rk) (.int .i64 ri) (.string rs) (.bool rb))
    exact bodyPost_ret (v := .tuple #[.agg #[.int .i64 rk, .int .i64 ri, .string rs, .bool rb], .bool ro]) (by simp [results, Try.results93, go_sem, k0, k1, k2, k3]; try rfl) rfl (HR.out _ (below4 HB.out (w.heap.size + 1) (by omega) _ _ _ _))
set_option maxHeartbeats 4000000 in
theorem part_not (s en v : Value) (a : VV) (w : World) (hv : VL w w.heap.size v [a]) : Calls Try.prog 93 #[s, en, .agg #[.int .i64 13, .int .i64 0, .int .i64 0, .string ⟨#[]⟩, .bool false, .string ⟨#[]⟩, .string ⟨#[]⟩], v] w (RPost w (opM 13 [a])) := by
  have hX : Below w.heap.size w ((w.alloc (.cells #[.int .i64 13, .int .i64 0, .int .i64 0, .string ⟨#[]⟩, .bool false, .string ⟨#[]⟩, .string ⟨#[]⟩] 86)).alloc (.cells #[.int .i64 0, .int .i64 0, .string ⟨#[]⟩, .bool false] 57)) := ((Below.refl _ w).alloc (Nat.le_refl _) _).alloc (by simp) _
  have HX := Lib.hid hX
  have HC := Lib.hid (truth_13 v a _ (hv.below hX hX.size))
  have HZ : Hid (∀ X, Below ((w.alloc (.cells #[.int .i64 13, .int .i64 0, .int .i64 0, .string ⟨#[]⟩, .bool false, .string ⟨#[]⟩, .string ⟨#[]⟩] 86)).alloc (.cells #[.int .i64 0, .int .i64 0, .string ⟨#[]⟩, .bool false] 57)).heap.size ((w.alloc (.cells #[.int .i64 13, .int .i64 0, .int .i64 0, .string ⟨#[]⟩, .bool false, .string ⟨#[]⟩, .string ⟨#[]⟩] 86)).alloc (.cells #[.int .i64 0, .int .i64 0, .string ⟨#[]⟩, .bool false] 57)) X → Rz X (w.heap.size + 1)) := Lib.hid (fun X h => res_any (h.mono (by simp)))
  obtain ⟨r, hr⟩ : ∃ r, opM 13 [a] = r := ⟨_, rfl⟩
  rw [hr] at HC ⊢
  obtain ⟨⟨rk, ri, rs, rb⟩, hq⟩ : ∃ x, r.getD zeroV = x := ⟨_, rfl⟩
  obtain ⟨ro, hro⟩ : ∃ x, r.isSome = x := ⟨_, rfl⟩
  have HR : Hid (∀ X, Below w.heap.size w X → RPost w r (.returned (.tuple #[.agg #[.int .i64 rk, .int .i64 ri, .string rs, .bool rb], .bool ro])) X) := Lib.hid (fun X h => ⟨by rw [hq, hro]; rfl, h⟩)
  unfold RPost at HC
  rw [hq, hro] at HC
  obtain ⟨A, c, e0, hx1, hx2, hx3⟩ := hv
  subst e0
  clear hx1 hx2 hx3 hX hr hq hro
  go_enter Try.func93, Try.ntmps93
  go_wp2_with fail
  refine HC.out.mono ?_
  rintro e w1 ⟨rfl, hb1⟩
  have HB := Lib.hid (HX.out.trans (hb1.mono HX.out.size))
  have HZ1 := Lib.hid (HZ.out _ hb1)
  obtain ⟨hlt1, p10, p11, p12, p13, f10, f11, f12, f13⟩ := HZ1.out.facts
  unfold VV.agg
  dsimp only
  clear hb1 HX HZ HC
  go_wp2
  obtain ⟨k0, k1, k2, k3⟩ := four (put4 HZ1.out (.int .i64 rk) (.int .i64 ri) (.string rs) (.bool rb))
  exact bodyPost_ret (v := .tuple #[.agg #[.int .i64 rk, .int .i64 ri, .string rs, .bool rb], .bool ro]) (by simp [results, Try.results93, go_sem, k0, k1, k2, k3]; try rfl) rfl (HR.out _ (below4 HB.out (w.heap.size + 1) (by omega) _ _ _ _))
set_option maxHeartbeats 4000000 in
theorem part_and (s en v : Value) (a b : VV) (w : World) (hv : VL w w.heap.size v [a, b]) : Calls Try.prog 93 #[s, en, .agg #[.int .i64 14, .int .i64 0, .int .i64 0, .string ⟨#[]⟩, .bool false, .string ⟨#[]⟩, .string ⟨#[]⟩], v] w (RPost w (opM 14 [a, b])) := by
  have hX : Below w.heap.size w ((w.alloc (.cells #[.int .i64 14, .int .i64 0, .int .i64 0, .string ⟨#[]⟩, .bool false, .string ⟨#[]⟩, .string ⟨#[]⟩] 86)).alloc (.cells #[.int .i64 0, .int .i64 0, .string ⟨#[]⟩, .bool false] 57)) := ((Below.refl _ w).alloc (Nat.le_refl _) _).alloc (by simp) _
  have HX := Lib.hid hX
  have HC := Lib.hid (truth_14 v a b _ (hv.below hX hX.size))
  have HZ : Hid (∀ X, Below ((w.alloc (.cells #[.int .i64 14, .int .i64 0, .int .i64 0, .string ⟨#[]⟩, .bool false, .string ⟨#[]⟩, .string ⟨#[]⟩] 86)).alloc (.cells #[.int .i64 0, .int .i64 0, .string ⟨#[]⟩, .bool false] 57)).heap.size ((w.alloc (.cells #[.int .i64 14, .int .i64 0, .int .i64 0, .string ⟨#[]⟩, .bool false, .string ⟨#[]⟩, .string ⟨#[]⟩] 86)).alloc (.cells #[.int .i64 0, .int .i64 0, .string ⟨#[]⟩, .bool false] 57)) X → Rz X (w.heap.size + 1)) := Lib.hid (fun X h => res_any (h.mono (by simp)))
  obtain ⟨r, hr⟩ : ∃ r, opM 14 [a, b] = r := ⟨_, rfl⟩
  rw [hr] at HC ⊢
  obtain ⟨⟨rk, ri, rs, rb⟩, hq⟩ : ∃ x, r.getD zeroV = x := ⟨_, rfl⟩
  obtain ⟨ro, hro⟩ : ∃ x, r.isSome = x := ⟨_, rfl⟩
  have HR : Hid (∀ X, Below w.heap.size w X → RPost w r (.returned (.tuple #[.agg #[.int .i64 rk, .int .i64 ri, .string rs, .bool rb], .bool ro])) X) := Lib.hid (fun X h => ⟨by rw [hq, hro]; rfl, h⟩)
  unfold RPost at HC
  rw [hq, hro] at HC
  obtain ⟨A, c, e0, hx1, hx2, hx3⟩ := hv
  subst e0
  clear hx1 hx2 hx3 hX hr hq hro
  go_enter Try.func93, Try.ntmps93
  go_wp2_with fail
  refine HC.out.mono ?_
  rintro e w1 ⟨rfl, hb1⟩
  have HB := Lib.hid (HX.out.trans (hb1.mono HX.out.size))
  have HZ1 := Lib.hid (HZ.out _ hb1)
  obtain ⟨hlt1, p10, p11, p12, p13, f10, f11, f12, f13⟩ := HZ1.out.facts
  unfold VV.agg
  dsimp only
  clear hb1 HX HZ HC
  go_wp2
  obtain ⟨k0, k1, k2, k3⟩ := four (put4 HZ1.out (.int .i64 rk) (.int .i64 ri) (.string rs) (.bool rb))
  exact bodyPost_ret (v := .tuple #[.agg #[.int .i64 rk, .int .i64 ri, .string rs, .bool rb], .bool ro]) (by simp [results, Try.results93, go_sem, k0, k1, k2, k3]; try rfl) rfl (HR.out _ (below4 HB.out (w.heap.size + 1) (by omega) _ _ _ _))
set_option maxHeartbeats 4000000 in
theorem part_or (s en v : Value) (a b : VV) (w : World) (hv : VL w w.heap.size v [a, b]) : Calls Try.prog 93 #[s, en, .agg #[.int .i64 15, .int .i64 0, .int .i64 0, .string ⟨#[]⟩, .bool false, .string ⟨#[]⟩, .string ⟨#[]⟩], v] w (RPost w (opM 15 [a, b])) := by
  have hX : Below w.heap.size w ((w.alloc (.cells #[.int .i64 15, .int .i64 0, .int .i64 0, .string ⟨#[]⟩, .bool false, .string ⟨#[]⟩, .string ⟨#[]⟩] 86)).alloc (.cells #[.int .i64 0, .int .i64 0, .string ⟨#[]⟩, .bool false] 57)) := ((Below.refl _ w).alloc (Nat.le_refl _) _).alloc (by simp) _
  have HX := Lib.hid hX
  have HC := Lib.hid (truth_15 v a b _ (hv.below hX hX.size))
  have HZ : Hid (∀ X, Below ((w.alloc (.cells #[.int .i64 15, .int .i64 0, .int .i64 0, .string ⟨#[]⟩, .bool false, .string ⟨#[]⟩, .string ⟨#[]⟩] 86)).alloc (.cells #[.int .i64 0, .int .i64 0, .string ⟨#[]⟩, .bool false] 57)).heap.size ((w.alloc (.cells #[.int .i64 15, .int .i64 0, .int .i64 0, .string ⟨#[]⟩, .bool false, .string ⟨#[]⟩, .string ⟨#[]⟩] 86)).alloc (.cells #[.int .i64 0, .int .i64 0, .string ⟨#[]⟩, .bool false] 57)) X → Rz X (w.heap.size + 1)) := Lib.hid (fun X h => res_any (h.mono (by simp)))
  obtain ⟨r, hr⟩ : ∃ r, opM 15 [a, b] = r := ⟨_, rfl⟩
  rw [hr] at HC ⊢
  obtain ⟨⟨rk, ri, rs, rb⟩, hq⟩ : ∃ x, r.getD zeroV = x := ⟨_, rfl⟩
  obtain ⟨ro, hro⟩ : ∃ x, r.isSome = x := ⟨_, rfl⟩
  have HR : Hid (∀ X, Below w.heap.size w X → RPost w r (.returned (.tuple #[.agg #[.int .i64 rk, .int .i64 ri, .string rs, .bool rb], .bool ro])) X) := Lib.hid (fun X h => ⟨by rw [hq, hro]; rfl, h⟩)
  unfold RPost at HC
  rw [hq, hro] at HC
  obtain ⟨A, c, e0, hx1, hx2, hx3⟩ := hv
  subst e0
  clear hx1 hx2 hx3 hX hr hq hro
  go_enter Try.func93, Try.ntmps93
  go_wp2_with fail
  refine HC.out.mono ?_
  rintro e w1 ⟨rfl, hb1⟩
  have HB := Lib.hid (HX.out.trans (hb1.mono HX.out.size))
  have HZ1 := Lib.hid (HZ.out _ hb1)
  obtain ⟨hlt1, p10, p11, p12, p13, f10, f11, f12, f13⟩ := HZ1.out.facts
  unfold VV.agg
  dsimp only
  clear hb1 HX HZ HC
  go_wp2
  obtain ⟨k0, k1, k2, k3⟩ := four (put4 HZ1.out (.int .i64 rk) (.int .i64 ri) (.string rs) (.bool rb))
  exact bodyPost_ret (v := .tuple #[.agg #[.int .i64 rk, .int .i64 ri, .string rs, .bool rb], .bool ro]) (by simp [results, Try.results93, go_sem, k0, k1, k2, k3]; try rfl) rfl (HR.out _ (below4 HB.out (w.heap.size + 1) (by omega) _ _ _ _))
end Go.Proofs.Ytopbildpeojgoaa.Evl
