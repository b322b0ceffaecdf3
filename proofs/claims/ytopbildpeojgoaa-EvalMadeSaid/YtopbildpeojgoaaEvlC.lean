/- What a part of numbers, of truths, of values that are compared comes to. -/
import Derived.Test.YtopbildpeojgoaaEvlB
namespace Go.Proofs.Ytopbildpeojgoaa.Evl
open Go.RowKit Go.Proofs.Ytopbildpeojgoaa Go.Proofs.Ytopbildpeojgoaa.Ev Go.Proofs.Ytopbildpeojgoaa.Sch Go.Proofs.Ytopbildpeojgoaa.Ty Go.Proofs.Ytopbildpeojgoaa.Num
set_option linter.unusedVariables false
set_option maxRecDepth 100000
def In64 (x : Int) : Prop := -9223372036854775808 ≤ x ∧ x ≤ 9223372036854775807
def numV (x : Int) : VV := ⟨1, x, ⟨#[]⟩, false⟩
def trV (b : Bool) : VV := ⟨3, 0, ⟨#[]⟩, b⟩
def zeroV : VV := ⟨0, 0, ⟨#[]⟩, false⟩
def VV.agg (v : VV) : Value := .agg #[.int .i64 v.k, .int .i64 v.i, .string v.s, .bool v.b]
def RPost (w : World) (r : Option VV) (e : Ending) (w' : World) : Prop := e = .returned (.tuple #[VV.agg (r.getD zeroV), .bool r.isSome]) ∧ Below w.heap.size w w'
theorem rpost_yes {w w' : World} {r : Option VV} {k i : Int} {s : ByteArray} {b : Bool} (h : r = some ⟨k, i, s, b⟩) (hb : Below w.heap.size w w') : RPost w r (.returned (.tuple #[.agg #[.int .i64 k, .int .i64 i, .string s, .bool b], .bool true])) w' := by subst h; exact ⟨rfl, hb⟩
theorem rpost_no {w w' : World} {r : Option VV} (h : r = none) (hb : Below w.heap.size w w') : RPost w r (.returned (.tuple #[.agg #[.int .i64 0, .int .i64 0, .string ⟨#[]⟩, .bool false], .bool false])) w' := by subst h; exact ⟨rfl, hb⟩
def ari (o x y : Int) : Int := if o = 4 then x + y else if o = 5 then x - y else x * y
/-- What a part comes to, of what it is of. -/
def opM (o : Int) : List VV → Option VV
  | [a] => if o = 3 then (if a.k = 1 then (if inI (0 - a.i) = true then some (numV (cutI (0 - a.i))) else none) else none) else (if a.k = 3 then some (trV (!a.b)) else none)
  | [a, b] => if o ≤ 6 then (if a.k = 1 ∧ b.k = 1 then (if inI (ari o a.i b.i) = true then some (numV (cutI (ari o a.i b.i))) else none) else none)
    else if 13 ≤ o then (if a.k = 3 ∧ b.k = 3 then some (trV (if o = 14 then a.b && b.b else a.b || b.b)) else none)
    else (ordV a b).map fun r => trV (standM o r)
  | _ => none
theorem neg_q (a : Int) (w : World) (h : In64 a) : Calls Try.prog 219 #[.int .i64 a] w fun e w' => e = .returned (.tuple #[.int .i64 (cutI (0 - a)), .bool (inI (0 - a))]) ∧ w = w' := neg_any a w h.1 h.2
theorem add_q (a b : Int) (w : World) (h : In64 a) (g : In64 b) : Calls Try.prog 220 #[.int .i64 a, .int .i64 b] w fun e w' => e = .returned (.tuple #[.int .i64 (cutI (ari 4 a b)), .bool (inI (ari 4 a b))]) ∧ w = w' := add_any a b w h.1 h.2 g.1 g.2
theorem sub_q (a b : Int) (w : World) (h : In64 a) (g : In64 b) : Calls Try.prog 221 #[.int .i64 a, .int .i64 b] w fun e w' => e = .returned (.tuple #[.int .i64 (cutI (ari 5 a b)), .bool (inI (ari 5 a b))]) ∧ w = w' := sub_any a b w h.1 h.2 g.1 g.2
theorem mul_q (a b : Int) (w : World) (h : In64 a) (g : In64 b) : Calls Try.prog 222 #[.int .i64 a, .int .i64 b] w fun e w' => e = .returned (.tuple #[.int .i64 (cutI (ari 6 a b)), .bool (inI (ari 6 a b))]) ∧ w = w' := mul_any a b w h.1 h.2 g.1 g.2
theorem reck_1 (g o c : Nat) (a : Int) (w : World) (h : In64 a) (hc : w.cell? ⟨g, o + 1, none⟩ = some (.int .i64 a)) (x : Int) (y : Bool) (hx : cutI (0 - a) = x) (hy : inI (0 - a) = y) :
    Calls Try.prog 195 #[.int .i64 3, .slice (some ⟨g, o, none⟩) 1 c] w fun e w' => e = .returned (.tuple #[.int .i64 x, .bool y]) ∧ w = w' := by
  have HN := Lib.hid (neg_q a w h)
  rw [hx, hy] at HN
  clear hx hy h
  go_enter Try.func195, Try.ntmps195
  go_wp2_with fail
  refine HN.out.mono ?_
  rintro e w1 ⟨rfl, rfl⟩
  go_wp2
  go_ret2
  exact ⟨rfl, rfl⟩
theorem reck_2 (o : Int) (ho : o = 4 ∨ o = 5 ∨ o = 6) (g og c : Nat) (a b : Int) (w : World) (h : In64 a) (h' : In64 b) (hc : w.cell? ⟨g, og + 1, none⟩ = some (.int .i64 a)) (hd : w.cell? ⟨g, og + 4 + 1, none⟩ = some (.int .i64 b)) (x : Int) (y : Bool) (hx : cutI (ari o a b) = x) (hy : inI (ari o a b) = y) :
    Calls Try.prog 195 #[.int .i64 o, .slice (some ⟨g, og, none⟩) 2 c] w fun e w' => e = .returned (.tuple #[.int .i64 x, .bool y]) ∧ Below w.heap.size w w' := by
  rcases ho with rfl | rfl | rfl
  · have HN := Lib.hid (fun X => add_q a b X h h')
    rw [hx, hy] at HN
    clear hx hy h h'
    go_enter Try.func195, Try.ntmps195
    go_upto_region 5 with fail
    go_quiet ((go_at_call 220; exact Calls.quiet_of_same (flip2 (HN.out _))))
    go_wp2
    go_ret2
    exact ⟨rfl, below_dN (Below.refl _ _) _⟩
  · have HN := Lib.hid (fun X => sub_q a b X h h')
    rw [hx, hy] at HN
    clear hx hy h h'
    go_enter Try.func195, Try.ntmps195
    go_upto_region 7 with fail
    go_quiet ((go_at_call 221; exact Calls.quiet_of_same (flip2 (HN.out _))))
    go_wp2
    go_ret2
    exact ⟨rfl, below_dN (Below.refl _ _) _⟩
  · have HN := Lib.hid (fun X => mul_q a b X h h')
    rw [hx, hy] at HN
    clear hx hy h h'
    go_enter Try.func195, Try.ntmps195
    go_upto_region 8 with fail
    go_quiet ((go_at_call 222; exact Calls.quiet_of_same (flip2 (HN.out _))))
    go_wp2
    go_ret2
    exact ⟨rfl, below_dN (Below.refl _ _) _⟩
/-- The only thing, the two things of a list. -/
theorem VL.one {w : World} {B : Nat} {v : Value} {a : VV} (h : VL w B v [a]) : ∃ g o c, v = .slice (some ⟨g, o, none⟩) 1 c ∧ 1 ≤ c ∧ c ≤ 9223372036854775807 ∧ g < B ∧ w.cell? ⟨g, o, none⟩ = some (.int .i64 a.k) ∧ w.cell? ⟨g, o + 1, none⟩ = some (.int .i64 a.i) ∧ w.cell? ⟨g, o + 2, none⟩ = some (.string a.s) ∧ w.cell? ⟨g, o + 3, none⟩ = some (.bool a.b) := by
  obtain ⟨A, c, rfl, h1, h2, h3⟩ := h
  obtain ⟨g, o, rfl, hg, hc⟩ := h3 0 (by simp)
  exact ⟨g, o, c, rfl, by simpa using h1, h2, hg, by simpa using hc 0 _ rfl, by simpa using hc 1 _ rfl, by simpa using hc 2 _ rfl, by simpa using hc 3 _ rfl⟩
theorem VL.two {w : World} {B : Nat} {v : Value} {a b : VV} (h : VL w B v [a, b]) : ∃ g o c, v = .slice (some ⟨g, o, none⟩) 2 c ∧ 2 ≤ c ∧ c ≤ 9223372036854775807 ∧ g < B ∧ w.cell? ⟨g, o, none⟩ = some (.int .i64 a.k) ∧ w.cell? ⟨g, o + 1, none⟩ = some (.int .i64 a.i) ∧ w.cell? ⟨g, o + 2, none⟩ = some (.string a.s) ∧ w.cell? ⟨g, o + 3, none⟩ = some (.bool a.b)
    ∧ w.cell? ⟨g, o + 4, none⟩ = some (.int .i64 b.k) ∧ w.cell? ⟨g, o + 4 + 1, none⟩ = some (.int .i64 b.i) ∧ w.cell? ⟨g, o + 4 + 2, none⟩ = some (.string b.s) ∧ w.cell? ⟨g, o + 4 + 3, none⟩ = some (.bool b.b) := by
  obtain ⟨A, c, rfl, h1, h2, h3⟩ := h
  obtain ⟨g, o, rfl, hg, hc⟩ := h3 0 (by simp)
  obtain ⟨g', o', e, _, hd⟩ := h3 1 (by simp)
  injection e with e
  injection e with e1 e2
  subst e1 e2
  exact ⟨g, o, c, rfl, by simpa using h1, h2, hg, by simpa using hc 0 _ rfl, by simpa using hc 1 _ rfl, by simpa using hc 2 _ rfl, by simpa using hc 3 _ rfl, by simpa using hd 0 _ rfl, by simpa using hd 1 _ rfl, by simpa using hd 2 _ rfl, by simpa using hd 3 _ rfl⟩
/-- The result's block. -/
def Rz (X : World) (b : Nat) : Prop := Row X b 57 #[.int .i64 0, .int .i64 0, .string ⟨#[]⟩, .bool false]
theorem Rz.facts {X : World} {b : Nat} (r : Rz X b) : b < X.heap.size ∧ X.cell? ⟨b, 0, none⟩ = some (.int .i64 0) ∧ X.cell? ⟨b, 1, none⟩ = some (.int .i64 0) ∧ X.cell? ⟨b, 2, none⟩ = some (.string ⟨#[]⟩) ∧ X.cell? ⟨b, 3, none⟩ = some (.bool false)
    ∧ X.frozen? ⟨b, 0, none⟩ = false ∧ X.frozen? ⟨b, 1, none⟩ = false ∧ X.frozen? ⟨b, 2, none⟩ = false ∧ X.frozen? ⟨b, 3, none⟩ = false :=
  ⟨r.lt, (r.cell 0).trans rfl, (r.cell 1).trans rfl, (r.cell 2).trans rfl, (r.cell 3).trans rfl, r.free 0, r.free 1, r.free 2, r.free 3⟩
theorem put4 {X : World} {b : Nat} (r : Rz X b) (u0 u1 u2 u3 : Value) :
    Row ((((X.setCell ⟨b, 0, none⟩ u0).setCell ⟨b, 1, none⟩ u1).setCell ⟨b, 2, none⟩ u2).setCell ⟨b, 3, none⟩ u3) b 57 #[u0, u1, u2, u3] := by
  simpa using (((Row.put r 0 u0).put 1 u1).put 2 u2).put 3 u3
theorem four {Y : World} {b : Nat} {u0 u1 u2 u3 : Value} (r : Row Y b 57 #[u0, u1, u2, u3]) : Y.cell? ⟨b, 0, none⟩ = some u0 ∧ Y.cell? ⟨b, 1, none⟩ = some u1 ∧ Y.cell? ⟨b, 2, none⟩ = some u2 ∧ Y.cell? ⟨b, 3, none⟩ = some u3 :=
  ⟨(r.cell 0).trans rfl, (r.cell 1).trans rfl, (r.cell 2).trans rfl, (r.cell 3).trans rfl⟩
theorem below4 {w X : World} (h : Below w.heap.size w X) (b : Nat) (hb : w.heap.size ≤ b) (u0 u1 u2 u3 : Value) : Below w.heap.size w ((((X.setCell ⟨b, 0, none⟩ u0).setCell ⟨b, 1, none⟩ u1).setCell ⟨b, 2, none⟩ u2).setCell ⟨b, 3, none⟩ u3) :=
  (((h.setCell (p := ⟨b, 0, none⟩) hb _).setCell (p := ⟨b, 1, none⟩) hb _).setCell (p := ⟨b, 2, none⟩) hb _).setCell (p := ⟨b, 3, none⟩) hb _
-- WALKS
set_option maxHeartbeats 2000000 in
theorem number_1 (v : Value) (a : VV) (w : World) (hv : VL w w.heap.size v [a]) (h : In64 a.i) : Calls Try.prog 153 #[.int .i64 3, v] w (RPost w (opM 3 [a])) := by
  have HV := Lib.hid hv
  obtain ⟨g, og, c, rfl, hc1, hc2, hg, c0, c1, c2, c3⟩ := hv.one
  obtain ⟨r, hr⟩ : ∃ r, opM 3 [a] = r := ⟨_, rfl⟩
  obtain ⟨k1, hk1⟩ : ∃ k, ([a].map VV.k).all (fun x => x == 1) = k := ⟨_, rfl⟩
  have HA := Lib.hid (fun X (hX : Below w.heap.size w X) => allOf_any _ [a] 1 X (HV.out.below hX hX.size) k1 hk1)
  rw [hr]
  obtain ⟨x, hx⟩ : ∃ x, cutI (0 - a.i) = x := ⟨_, rfl⟩
  obtain ⟨y, hy⟩ : ∃ y, inI (0 - a.i) = y := ⟨_, rfl⟩
  have HR := Lib.hid (fun X (hX : Below w.heap.size w X) => reck_1 g og c a.i X h ((hX.cell (p := ⟨g, og + 1, none⟩) hg).trans c1) x y hx hy)
  have HNO : Hid (k1 = false → r = none) := Lib.hid (fun h => by
    rw [← hr]; rw [h] at hk1; simp at hk1; simp [opM, hk1])
  have HYES : Hid (k1 = true → r = if y = true then some (numV x) else none) := Lib.hid (fun h => by
    rw [← hr]; rw [h] at hk1; simp at hk1; simp only [opM]; rw [if_pos trivial, if_pos hk1, hx, hy])
  clear hv HV hr hk1 hx hy c0 c1 c2 c3 h
  cases k1
  · have hno : r = none := HNO.out rfl
    go_enter Try.func153, Try.ntmps153
    go_wp2_with fail
    refine (HA.out _ (by go_grown)).mono ?_
    rintro e w1 ⟨rfl, hb1⟩
    have HB := Lib.hid (((Below.refl _ w).alloc (Nat.le_refl _) _).trans (hb1.mono (by simp)))
    have HZ1 : Hid (Rz w1 w.heap.size) := Lib.hid ((Row.made w _ _).below hb1 (by simp))
    obtain ⟨hlt1, p10, p11, p12, p13, f10, f11, f12, f13⟩ := HZ1.out.facts
    clear hb1
    go_wp2
    obtain ⟨k0, k1, k2, k3⟩ := four (put4 HZ1.out (.int .i64 0) (.int .i64 0) (.string ⟨#[]⟩) (.bool false))
    exact bodyPost_ret (v := .tuple #[.agg #[.int .i64 0, .int .i64 0, .string ⟨#[]⟩, .bool false], .bool false]) (by simp [results, Try.results153, go_sem, k0, k1, k2, k3]; try rfl) rfl (rpost_no hno (below4 HB.out w.heap.size (Nat.le_refl _) _ _ _ _))
  · have HY := Lib.hid (HYES.out rfl)
    clear HYES HNO
    cases y
    · have hno : r = none := HY.out
      go_enter Try.func153, Try.ntmps153
      go_wp2_with fail
      refine (HA.out _ (by go_grown)).mono ?_
      rintro e w1 ⟨rfl, hb1⟩
      have HB := Lib.hid (((Below.refl _ w).alloc (Nat.le_refl _) _).trans (hb1.mono (by simp)))
      have HZ1 : Hid (Rz w1 w.heap.size) := Lib.hid ((Row.made w _ _).below hb1 (by simp))
      obtain ⟨hlt1, p10, p11, p12, p13, f10, f11, f12, f13⟩ := HZ1.out.facts
      clear hb1
      go_wp2_with fail
      refine (HR.out _ HB.out).mono ?_
      rintro e w2 ⟨rfl, rfl⟩
      go_wp2
      obtain ⟨k0, k1, k2, k3⟩ := four (put4 HZ1.out (.int .i64 0) (.int .i64 0) (.string ⟨#[]⟩) (.bool false))
      exact bodyPost_ret (v := .tuple #[.agg #[.int .i64 0, .int .i64 0, .string ⟨#[]⟩, .bool false], .bool false]) (by simp [results, Try.results153, go_sem, k0, k1, k2, k3]; try rfl) rfl (rpost_no hno (below4 HB.out w.heap.size (Nat.le_refl _) _ _ _ _))
    · have hyes : r = some (numV x) := HY.out
      go_enter Try.func153, Try.ntmps153
      go_wp2_with fail
      refine (HA.out _ (by go_grown)).mono ?_
      rintro e w1 ⟨rfl, hb1⟩
      have HB := Lib.hid (((Below.refl _ w).alloc (Nat.le_refl _) _).trans (hb1.mono (by simp)))
      have HZ1 : Hid (Rz w1 w.heap.size) := Lib.hid ((Row.made w _ _).below hb1 (by simp))
      obtain ⟨hlt1, p10, p11, p12, p13, f10, f11, f12, f13⟩ := HZ1.out.facts
      clear hb1
      go_wp2_with fail
      refine (HR.out _ HB.out).mono ?_
      rintro e w2 ⟨rfl, rfl⟩
      go_wp2_with fail
      refine (vnum_any x _).mono ?_
      rintro e w4 ⟨rfl, hb4⟩
      have HB4 := Lib.hid (HB.out.trans (hb4.mono HB.out.size))
      have HZ4 : Hid (Rz w4 w.heap.size) := Lib.hid (Row.below HZ1.out hb4 hlt1)
      clear p10 p11 p12 p13 f10 f11 f12 f13
      obtain ⟨hlt4, p40, p41, p42, p43, f40, f41, f42, f43⟩ := HZ4.out.facts
      clear hb4
      go_wp2
      obtain ⟨k0, k1, k2, k3⟩ := four (put4 HZ4.out (.int .i64 1) (.int .i64 x) (.string ⟨#[]⟩) (.bool false))
      exact bodyPost_ret (v := .tuple #[.agg #[.int .i64 1, .int .i64 x, .string ⟨#[]⟩, .bool false], .bool true]) (by simp [results, Try.results153, go_sem, k0, k1, k2, k3]; try rfl) rfl (rpost_yes hyes (below4 HB4.out w.heap.size (Nat.le_refl _) _ _ _ _))
set_option maxHeartbeats 2000000 in
theorem number_2 (o : Int) (ho : o = 4 ∨ o = 5 ∨ o = 6) (v : Value) (a b : VV) (w : World) (hv : VL w w.heap.size v [a, b]) (h : In64 a.i) (h' : In64 b.i) : Calls Try.prog 153 #[.int .i64 o, v] w (RPost w (opM o [a, b])) := by
  have HV := Lib.hid hv
  obtain ⟨g, og, c, rfl, hc1, hc2, hg, c0, c1, c2, c3, d0, d1, d2, d3⟩ := hv.two
  obtain ⟨r, hr⟩ : ∃ r, opM o [a, b] = r := ⟨_, rfl⟩
  obtain ⟨k1, hk1⟩ : ∃ k, ([a, b].map VV.k).all (fun x => x == 1) = k := ⟨_, rfl⟩
  have HA := Lib.hid (fun X (hX : Below w.heap.size w X) => allOf_any _ [a, b] 1 X (HV.out.below hX hX.size) k1 hk1)
  rw [hr]
  obtain ⟨x, hx⟩ : ∃ x, cutI (ari o a.i b.i) = x := ⟨_, rfl⟩
  obtain ⟨y, hy⟩ : ∃ y, inI (ari o a.i b.i) = y := ⟨_, rfl⟩
  have HR := Lib.hid (fun X (hX : Below w.heap.size w X) => reck_2 o ho g og c a.i b.i X h h' ((hX.cell (p := ⟨g, og + 1, none⟩) hg).trans c1) ((hX.cell (p := ⟨g, og + 4 + 1, none⟩) hg).trans d1) x y hx hy)
  have HNO : Hid (k1 = false → r = none) := Lib.hid (fun h => by
    rw [← hr]; rw [h] at hk1; simp at hk1
    have : ¬ (a.k = 1 ∧ b.k = 1) := fun e => by simp [e.1, e.2] at hk1
    simp only [opM]
    rw [if_pos (by omega), if_neg this])
  have HYES : Hid (k1 = true → r = if y = true then some (numV x) else none) := Lib.hid (fun h => by
    rw [← hr]; rw [h] at hk1; simp at hk1
    simp only [opM]
    rw [if_pos (by omega), if_pos hk1, hx, hy])
  clear hv HV hr hk1 hx hy c0 c1 c2 c3 h d0 d1 d2 d3 h' ho
  cases k1
  · have hno : r = none := HNO.out rfl
    go_enter Try.func153, Try.ntmps153
    go_wp2_with fail
    refine (HA.out _ (by go_grown)).mono ?_
    rintro e w1 ⟨rfl, hb1⟩
    have HB := Lib.hid (((Below.refl _ w).alloc (Nat.le_refl _) _).trans (hb1.mono (by simp)))
    have HZ1 : Hid (Rz w1 w.heap.size) := Lib.hid ((Row.made w _ _).below hb1 (by simp))
    obtain ⟨hlt1, p10, p11, p12, p13, f10, f11, f12, f13⟩ := HZ1.out.facts
    clear hb1
    go_wp2
    obtain ⟨k0, k1, k2, k3⟩ := four (put4 HZ1.out (.int .i64 0) (.int .i64 0) (.string ⟨#[]⟩) (.bool false))
    exact bodyPost_ret (v := .tuple #[.agg #[.int .i64 0, .int .i64 0, .string ⟨#[]⟩, .bool false], .bool false]) (by simp [results, Try.results153, go_sem, k0, k1, k2, k3]; try rfl) rfl (rpost_no hno (below4 HB.out w.heap.size (Nat.le_refl _) _ _ _ _))
  · have HY := Lib.hid (HYES.out rfl)
    clear HYES HNO
    cases y
    · have hno : r = none := HY.out
      go_enter Try.func153, Try.ntmps153
      go_wp2_with fail
      refine (HA.out _ (by go_grown)).mono ?_
      rintro e w1 ⟨rfl, hb1⟩
      have HB := Lib.hid (((Below.refl _ w).alloc (Nat.le_refl _) _).trans (hb1.mono (by simp)))
      have HZ1 : Hid (Rz w1 w.heap.size) := Lib.hid ((Row.made w _ _).below hb1 (by simp))
      obtain ⟨hlt1, p10, p11, p12, p13, f10, f11, f12, f13⟩ := HZ1.out.facts
      clear hb1
      go_wp2_with fail
      refine (HR.out _ HB.out).mono ?_
      rintro e w2 ⟨rfl, hb2⟩
      have HB2 := Lib.hid (HB.out.trans (hb2.mono HB.out.size))
      have HZ2 : Hid (Rz w2 w.heap.size) := Lib.hid (Row.below HZ1.out hb2 hlt1)
      clear p10 p11 p12 p13 f10 f11 f12 f13
      obtain ⟨hlt2, p20, p21, p22, p23, f20, f21, f22, f23⟩ := HZ2.out.facts
      clear hb2
      go_wp2
      obtain ⟨k0, k1, k2, k3⟩ := four (put4 HZ2.out (.int .i64 0) (.int .i64 0) (.string ⟨#[]⟩) (.bool false))
      exact bodyPost_ret (v := .tuple #[.agg #[.int .i64 0, .int .i64 0, .string ⟨#[]⟩, .bool false], .bool false]) (by simp [results, Try.results153, go_sem, k0, k1, k2, k3]; try rfl) rfl (rpost_no hno (below4 HB2.out w.heap.size (Nat.le_refl _) _ _ _ _))
    · have hyes : r = some (numV x) := HY.out
      go_enter Try.func153, Try.ntmps153
      go_wp2_with fail
      refine (HA.out _ (by go_grown)).mono ?_
      rintro e w1 ⟨rfl, hb1⟩
      have HB := Lib.hid (((Below.refl _ w).alloc (Nat.le_refl _) _).trans (hb1.mono (by simp)))
      have HZ1 : Hid (Rz w1 w.heap.size) := Lib.hid ((Row.made w _ _).below hb1 (by simp))
      obtain ⟨hlt1, p10, p11, p12, p13, f10, f11, f12, f13⟩ := HZ1.out.facts
      clear hb1
      go_wp2_with fail
      refine (HR.out _ HB.out).mono ?_
      rintro e w2 ⟨rfl, hb2⟩
      have HB2 := Lib.hid (HB.out.trans (hb2.mono HB.out.size))
      have HZ2 : Hid (Rz w2 w.heap.size) := Lib.hid (Row.below HZ1.out hb2 hlt1)
      clear p10 p11 p12 p13 f10 f11 f12 f13
      obtain ⟨hlt2, p20, p21, p22, p23, f20, f21, f22, f23⟩ := HZ2.out.facts
      clear hb2
      go_wp2_with fail
      refine (vnum_any x _).mono ?_
      rintro e w4 ⟨rfl, hb4⟩
      have HB4 := Lib.hid (HB2.out.trans (hb4.mono HB2.out.size))
      have HZ4 : Hid (Rz w4 w.heap.size) := Lib.hid (Row.below HZ2.out hb4 hlt2)
      clear p20 p21 p22 p23 f20 f21 f22 f23
      obtain ⟨hlt4, p40, p41, p42, p43, f40, f41, f42, f43⟩ := HZ4.out.facts
      clear hb4
      go_wp2
      obtain ⟨k0, k1, k2, k3⟩ := four (put4 HZ4.out (.int .i64 1) (.int .i64 x) (.string ⟨#[]⟩) (.bool false))
      exact bodyPost_ret (v := .tuple #[.agg #[.int .i64 1, .int .i64 x, .string ⟨#[]⟩, .bool false], .bool true]) (by simp [results, Try.results153, go_sem, k0, k1, k2, k3]; try rfl) rfl (rpost_yes hyes (below4 HB4.out w.heap.size (Nat.le_refl _) _ _ _ _))
set_option maxHeartbeats 2000000 in
theorem truth_13 (v : Value) (a : VV) (w : World) (hv : VL w w.heap.size v [a]) : Calls Try.prog 154 #[.int .i64 13, v] w (RPost w (opM 13 [a])) := by
  have HV := Lib.hid hv
  obtain ⟨g, og, c, rfl, hc1, hc2, hg, c0, c1, c2, c3⟩ := hv.one
  obtain ⟨r, hr⟩ : ∃ r, opM 13 [a] = r := ⟨_, rfl⟩
  obtain ⟨k1, hk1⟩ : ∃ k, ([a].map VV.k).all (fun x => x == 3) = k := ⟨_, rfl⟩
  have HA := Lib.hid (fun X (hX : Below w.heap.size w X) => allOf_any _ [a] 3 X (HV.out.below hX hX.size) k1 hk1)
  rw [hr]
  have HNO : Hid (k1 = false → r = none) := Lib.hid (fun h => by
    rw [← hr]; rw [h] at hk1; simp at hk1; simp [opM, hk1])
  have HYES : Hid (k1 = true → r = some (trV (!a.b))) := Lib.hid (fun h => by
    rw [← hr]; rw [h] at hk1; simp at hk1; simp [opM, hk1])
  obtain ⟨ab, hab⟩ : ∃ x, a.b = x := ⟨_, rfl⟩
  rw [hab] at c3 HYES
  have HC := Lib.hid (fun X (hX : Below w.heap.size w X) => (hX.cell (p := ⟨g, og + 3, none⟩) hg).trans c3)
  clear hv HV hr hk1 c0 c1 c2 c3 hab
  cases k1
  · have hno : r = none := HNO.out rfl
    go_enter Try.func154, Try.ntmps154
    go_wp2_with fail
    refine (HA.out _ (by go_grown)).mono ?_
    rintro e w1 ⟨rfl, hb1⟩
    have HB := Lib.hid (((Below.refl _ w).alloc (Nat.le_refl _) _).trans (hb1.mono (by simp)))
    have HZ1 : Hid (Rz w1 w.heap.size) := Lib.hid ((Row.made w _ _).below hb1 (by simp))
    obtain ⟨hlt1, p10, p11, p12, p13, f10, f11, f12, f13⟩ := HZ1.out.facts
    clear hb1
    go_wp2
    obtain ⟨k0, k1, k2, k3⟩ := four (put4 HZ1.out (.int .i64 0) (.int .i64 0) (.string ⟨#[]⟩) (.bool false))
    exact bodyPost_ret (v := .tuple #[.agg #[.int .i64 0, .int .i64 0, .string ⟨#[]⟩, .bool false], .bool false]) (by simp [results, Try.results154, go_sem, k0, k1, k2, k3]; try rfl) rfl (rpost_no hno (below4 HB.out w.heap.size (Nat.le_refl _) _ _ _ _))
  · have HY := Lib.hid (HYES.out rfl)
    clear HYES HNO
    cases ab
    · have hyes : r = some (trV true) := HY.out.trans (by simp)
      go_enter Try.func154, Try.ntmps154
      go_wp2_with fail
      refine (HA.out _ (by go_grown)).mono ?_
      rintro e w1 ⟨rfl, hb1⟩
      have HB := Lib.hid (((Below.refl _ w).alloc (Nat.le_refl _) _).trans (hb1.mono (by simp)))
      have HZ1 : Hid (Rz w1 w.heap.size) := Lib.hid ((Row.made w _ _).below hb1 (by simp))
      obtain ⟨hlt1, p10, p11, p12, p13, f10, f11, f12, f13⟩ := HZ1.out.facts
      have e3 := HC.out _ HB.out
      clear hb1
      go_wp2_with fail
      refine (vtruth_any true _).mono ?_
      rintro e w4 ⟨rfl, hb4⟩
      have HB4 := Lib.hid (HB.out.trans (hb4.mono HB.out.size))
      have HZ4 : Hid (Rz w4 w.heap.size) := Lib.hid (Row.below HZ1.out hb4 hlt1)
      clear p10 p11 p12 p13 f10 f11 f12 f13 e3
      obtain ⟨hlt4, p40, p41, p42, p43, f40, f41, f42, f43⟩ := HZ4.out.facts
      clear hb4
      go_wp2
      obtain ⟨k0, k1, k2, k3⟩ := four (put4 HZ4.out (.int .i64 3) (.int .i64 0) (.string ⟨#[]⟩) (.bool true))
      exact bodyPost_ret (v := .tuple #[.agg #[.int .i64 3, .int .i64 0, .string ⟨#[]⟩, .bool true], .bool true]) (by simp [results, Try.results154, go_sem, k0, k1, k2, k3]; try rfl) rfl (rpost_yes hyes (below4 HB4.out w.heap.size (Nat.le_refl _) _ _ _ _))
    · have hyes : r = some (trV false) := HY.out.trans (by simp)
      go_enter Try.func154, Try.ntmps154
      go_wp2_with fail
      refine (HA.out _ (by go_grown)).mono ?_
      rintro e w1 ⟨rfl, hb1⟩
      have HB := Lib.hid (((Below.refl _ w).alloc (Nat.le_refl _) _).trans (hb1.mono (by simp)))
      have HZ1 : Hid (Rz w1 w.heap.size) := Lib.hid ((Row.made w _ _).below hb1 (by simp))
      obtain ⟨hlt1, p10, p11, p12, p13, f10, f11, f12, f13⟩ := HZ1.out.facts
      have e3 := HC.out _ HB.out
      clear hb1
      go_wp2_with fail
      refine (vtruth_any false _).mono ?_
      rintro e w4 ⟨rfl, hb4⟩
      have HB4 := Lib.hid (HB.out.trans (hb4.mono HB.out.size))
      have HZ4 : Hid (Rz w4 w.heap.size) := Lib.hid (Row.below HZ1.out hb4 hlt1)
      clear p10 p11 p12 p13 f10 f11 f12 f13 e3
      obtain ⟨hlt4, p40, p41, p42, p43, f40, f41, f42, f43⟩ := HZ4.out.facts
      clear hb4
      go_wp2
      obtain ⟨k0, k1, k2, k3⟩ := four (put4 HZ4.out (.int .i64 3) (.int .i64 0) (.string ⟨#[]⟩) (.bool false))
      exact bodyPost_ret (v := .tuple #[.agg #[.int .i64 3, .int .i64 0, .string ⟨#[]⟩, .bool false], .bool true]) (by simp [results, Try.results154, go_sem, k0, k1, k2, k3]; try rfl) rfl (rpost_yes hyes (below4 HB4.out w.heap.size (Nat.le_refl _) _ _ _ _))
set_option maxHeartbeats 2000000 in
theorem truth_14 (v : Value) (a b : VV) (w : World) (hv : VL w w.heap.size v [a, b]) : Calls Try.prog 154 #[.int .i64 14, v] w (RPost w (opM 14 [a, b])) := by
  have HV := Lib.hid hv
  obtain ⟨g, og, c, rfl, hc1, hc2, hg, c0, c1, c2, c3, d0, d1, d2, d3⟩ := hv.two
  obtain ⟨r, hr⟩ : ∃ r, opM 14 [a, b] = r := ⟨_, rfl⟩
  obtain ⟨k1, hk1⟩ : ∃ k, ([a, b].map VV.k).all (fun x => x == 3) = k := ⟨_, rfl⟩
  have HA := Lib.hid (fun X (hX : Below w.heap.size w X) => allOf_any _ [a, b] 3 X (HV.out.below hX hX.size) k1 hk1)
  rw [hr]
  have HNO : Hid (k1 = false → r = none) := Lib.hid (fun h => by
    rw [← hr]; rw [h] at hk1; simp at hk1
    have : ¬ (a.k = 3 ∧ b.k = 3) := fun e => by simp [e.1, e.2] at hk1
    simp only [opM]
    rw [if_neg (by omega), if_pos (by omega), if_neg this])
  have HYES : Hid (k1 = true → r = some (trV (a.b && b.b))) := Lib.hid (fun h => by
    rw [← hr]; rw [h] at hk1; simp at hk1
    simp only [opM]
    rw [if_neg (by omega), if_pos (by omega), if_pos hk1]
    rfl)
  obtain ⟨ab, hab⟩ : ∃ x, a.b = x := ⟨_, rfl⟩
  obtain ⟨bb, hbb⟩ : ∃ x, b.b = x := ⟨_, rfl⟩
  rw [hbb] at d3 HYES
  rw [hab] at c3 HYES
  have HC := Lib.hid (fun X (hX : Below w.heap.size w X) => (hX.cell (p := ⟨g, og + 3, none⟩) hg).trans c3)
  have HD := Lib.hid (fun X (hX : Below w.heap.size w X) => (hX.cell (p := ⟨g, og + 4 + 3, none⟩) hg).trans d3)
  clear hv HV hr hk1 c0 c1 c2 c3 hab d0 d1 d2 d3 hbb
  cases k1
  · have hno : r = none := HNO.out rfl
    go_enter Try.func154, Try.ntmps154
    go_wp2_with fail
    refine (HA.out _ (by go_grown)).mono ?_
    rintro e w1 ⟨rfl, hb1⟩
    have HB := Lib.hid (((Below.refl _ w).alloc (Nat.le_refl _) _).trans (hb1.mono (by simp)))
    have HZ1 : Hid (Rz w1 w.heap.size) := Lib.hid ((Row.made w _ _).below hb1 (by simp))
    obtain ⟨hlt1, p10, p11, p12, p13, f10, f11, f12, f13⟩ := HZ1.out.facts
    clear hb1
    go_wp2
    obtain ⟨k0, k1, k2, k3⟩ := four (put4 HZ1.out (.int .i64 0) (.int .i64 0) (.string ⟨#[]⟩) (.bool false))
    exact bodyPost_ret (v := .tuple #[.agg #[.int .i64 0, .int .i64 0, .string ⟨#[]⟩, .bool false], .bool false]) (by simp [results, Try.results154, go_sem, k0, k1, k2, k3]; try rfl) rfl (rpost_no hno (below4 HB.out w.heap.size (Nat.le_refl _) _ _ _ _))
  · have HY := Lib.hid (HYES.out rfl)
    clear HYES HNO
    cases ab
    · have hyes : r = some (trV false) := HY.out.trans (by simp)
      go_enter Try.func154, Try.ntmps154
      go_wp2_with fail
      refine (HA.out _ (by go_grown)).mono ?_
      rintro e w1 ⟨rfl, hb1⟩
      have HB := Lib.hid (((Below.refl _ w).alloc (Nat.le_refl _) _).trans (hb1.mono (by simp)))
      have HZ1 : Hid (Rz w1 w.heap.size) := Lib.hid ((Row.made w _ _).below hb1 (by simp))
      obtain ⟨hlt1, p10, p11, p12, p13, f10, f11, f12, f13⟩ := HZ1.out.facts
      have e3 := HC.out _ HB.out
      have g3 := HD.out _ HB.out
      clear hb1
      go_wp2_with fail
      refine (vtruth_any false _).mono ?_
      rintro e w4 ⟨rfl, hb4⟩
      have HB4 := Lib.hid (HB.out.trans (hb4.mono HB.out.size))
      have HZ4 : Hid (Rz w4 w.heap.size) := Lib.hid (Row.below HZ1.out hb4 hlt1)
      clear p10 p11 p12 p13 f10 f11 f12 f13 e3 g3
      obtain ⟨hlt4, p40, p41, p42, p43, f40, f41, f42, f43⟩ := HZ4.out.facts
      clear hb4
      go_wp2
      obtain ⟨k0, k1, k2, k3⟩ := four (put4 HZ4.out (.int .i64 3) (.int .i64 0) (.string ⟨#[]⟩) (.bool false))
      exact bodyPost_ret (v := .tuple #[.agg #[.int .i64 3, .int .i64 0, .string ⟨#[]⟩, .bool false], .bool true]) (by simp [results, Try.results154, go_sem, k0, k1, k2, k3]; try rfl) rfl (rpost_yes hyes (below4 HB4.out w.heap.size (Nat.le_refl _) _ _ _ _))
    · have hyes : r = some (trV bb) := HY.out.trans (by simp)
      go_enter Try.func154, Try.ntmps154
      go_wp2_with fail
      refine (HA.out _ (by go_grown)).mono ?_
      rintro e w1 ⟨rfl, hb1⟩
      have HB := Lib.hid (((Below.refl _ w).alloc (Nat.le_refl _) _).trans (hb1.mono (by simp)))
      have HZ1 : Hid (Rz w1 w.heap.size) := Lib.hid ((Row.made w _ _).below hb1 (by simp))
      obtain ⟨hlt1, p10, p11, p12, p13, f10, f11, f12, f13⟩ := HZ1.out.facts
      have e3 := HC.out _ HB.out
      have g3 := HD.out _ HB.out
      clear hb1
      go_wp2_with fail
      refine (vtruth_any bb _).mono ?_
      rintro e w4 ⟨rfl, hb4⟩
      have HB4 := Lib.hid (HB.out.trans (hb4.mono HB.out.size))
      have HZ4 : Hid (Rz w4 w.heap.size) := Lib.hid (Row.below HZ1.out hb4 hlt1)
      clear p10 p11 p12 p13 f10 f11 f12 f13 e3 g3
      obtain ⟨hlt4, p40, p41, p42, p43, f40, f41, f42, f43⟩ := HZ4.out.facts
      clear hb4
      go_wp2
      obtain ⟨k0, k1, k2, k3⟩ := four (put4 HZ4.out (.int .i64 3) (.int .i64 0) (.string ⟨#[]⟩) (.bool bb))
      exact bodyPost_ret (v := .tuple #[.agg #[.int .i64 3, .int .i64 0, .string ⟨#[]⟩, .bool bb], .bool true]) (by simp [results, Try.results154, go_sem, k0, k1, k2, k3]; try rfl) rfl (rpost_yes hyes (below4 HB4.out w.heap.size (Nat.le_refl _) _ _ _ _))
set_option maxHeartbeats 2000000 in
theorem truth_15 (v : Value) (a b : VV) (w : World) (hv : VL w w.heap.size v [a, b]) : Calls Try.prog 154 #[.int .i64 15, v] w (RPost w (opM 15 [a, b])) := by
  have HV := Lib.hid hv
  obtain ⟨g, og, c, rfl, hc1, hc2, hg, c0, c1, c2, c3, d0, d1, d2, d3⟩ := hv.two
  obtain ⟨r, hr⟩ : ∃ r, opM 15 [a, b] = r := ⟨_, rfl⟩
  obtain ⟨k1, hk1⟩ : ∃ k, ([a, b].map VV.k).all (fun x => x == 3) = k := ⟨_, rfl⟩
  have HA := Lib.hid (fun X (hX : Below w.heap.size w X) => allOf_any _ [a, b] 3 X (HV.out.below hX hX.size) k1 hk1)
  rw [hr]
  have HNO : Hid (k1 = false → r = none) := Lib.hid (fun h => by
    rw [← hr]; rw [h] at hk1; simp at hk1
    have : ¬ (a.k = 3 ∧ b.k = 3) := fun e => by simp [e.1, e.2] at hk1
    simp only [opM]
    rw [if_neg (by omega), if_pos (by omega), if_neg this])
  have HYES : Hid (k1 = true → r = some (trV (a.b || b.b))) := Lib.hid (fun h => by
    rw [← hr]; rw [h] at hk1; simp at hk1
    simp only [opM]
    rw [if_neg (by omega), if_pos (by omega), if_pos hk1]
    rfl)
  obtain ⟨ab, hab⟩ : ∃ x, a.b = x := ⟨_, rfl⟩
  obtain ⟨bb, hbb⟩ : ∃ x, b.b = x := ⟨_, rfl⟩
  rw [hbb] at d3 HYES
  rw [hab] at c3 HYES
  have HC := Lib.hid (fun X (hX : Below w.heap.size w X) => (hX.cell (p := ⟨g, og + 3, none⟩) hg).trans c3)
  have HD := Lib.hid (fun X (hX : Below w.heap.size w X) => (hX.cell (p := ⟨g, og + 4 + 3, none⟩) hg).trans d3)
  clear hv HV hr hk1 c0 c1 c2 c3 hab d0 d1 d2 d3 hbb
  cases k1
  · have hno : r = none := HNO.out rfl
    go_enter Try.func154, Try.ntmps154
    go_wp2_with fail
    refine (HA.out _ (by go_grown)).mono ?_
    rintro e w1 ⟨rfl, hb1⟩
    have HB := Lib.hid (((Below.refl _ w).alloc (Nat.le_refl _) _).trans (hb1.mono (by simp)))
    have HZ1 : Hid (Rz w1 w.heap.size) := Lib.hid ((Row.made w _ _).below hb1 (by simp))
    obtain ⟨hlt1, p10, p11, p12, p13, f10, f11, f12, f13⟩ := HZ1.out.facts
    clear hb1
    go_wp2
    obtain ⟨k0, k1, k2, k3⟩ := four (put4 HZ1.out (.int .i64 0) (.int .i64 0) (.string ⟨#[]⟩) (.bool false))
    exact bodyPost_ret (v := .tuple #[.agg #[.int .i64 0, .int .i64 0, .string ⟨#[]⟩, .bool false], .bool false]) (by simp [results, Try.results154, go_sem, k0, k1, k2, k3]; try rfl) rfl (rpost_no hno (below4 HB.out w.heap.size (Nat.le_refl _) _ _ _ _))
  · have HY := Lib.hid (HYES.out rfl)
    clear HYES HNO
    cases ab
    · have hyes : r = some (trV bb) := HY.out.trans (by simp)
      go_enter Try.func154, Try.ntmps154
      go_wp2_with fail
      refine (HA.out _ (by go_grown)).mono ?_
      rintro e w1 ⟨rfl, hb1⟩
      have HB := Lib.hid (((Below.refl _ w).alloc (Nat.le_refl _) _).trans (hb1.mono (by simp)))
      have HZ1 : Hid (Rz w1 w.heap.size) := Lib.hid ((Row.made w _ _).below hb1 (by simp))
      obtain ⟨hlt1, p10, p11, p12, p13, f10, f11, f12, f13⟩ := HZ1.out.facts
      have e3 := HC.out _ HB.out
      have g3 := HD.out _ HB.out
      clear hb1
      go_wp2_with fail
      refine (vtruth_any bb _).mono ?_
      rintro e w4 ⟨rfl, hb4⟩
      have HB4 := Lib.hid (HB.out.trans (hb4.mono HB.out.size))
      have HZ4 : Hid (Rz w4 w.heap.size) := Lib.hid (Row.below HZ1.out hb4 hlt1)
      clear p10 p11 p12 p13 f10 f11 f12 f13 e3 g3
      obtain ⟨hlt4, p40, p41, p42, p43, f40, f41, f42, f43⟩ := HZ4.out.facts
      clear hb4
      go_wp2
      obtain ⟨k0, k1, k2, k3⟩ := four (put4 HZ4.out (.int .i64 3) (.int .i64 0) (.string ⟨#[]⟩) (.bool bb))
      exact bodyPost_ret (v := .tuple #[.agg #[.int .i64 3, .int .i64 0, .string ⟨#[]⟩, .bool bb], .bool true]) (by simp [results, Try.results154, go_sem, k0, k1, k2, k3]; try rfl) rfl (rpost_yes hyes (below4 HB4.out w.heap.size (Nat.le_refl _) _ _ _ _))
    · have hyes : r = some (trV true) := HY.out.trans (by simp)
      go_enter Try.func154, Try.ntmps154
      go_wp2_with fail
      refine (HA.out _ (by go_grown)).mono ?_
      rintro e w1 ⟨rfl, hb1⟩
      have HB := Lib.hid (((Below.refl _ w).alloc (Nat.le_refl _) _).trans (hb1.mono (by simp)))
      have HZ1 : Hid (Rz w1 w.heap.size) := Lib.hid ((Row.made w _ _).below hb1 (by simp))
      obtain ⟨hlt1, p10, p11, p12, p13, f10, f11, f12, f13⟩ := HZ1.out.facts
      have e3 := HC.out _ HB.out
      have g3 := HD.out _ HB.out
      clear hb1
      go_wp2_with fail
      refine (vtruth_any true _).mono ?_
      rintro e w4 ⟨rfl, hb4⟩
      have HB4 := Lib.hid (HB.out.trans (hb4.mono HB.out.size))
      have HZ4 : Hid (Rz w4 w.heap.size) := Lib.hid (Row.below HZ1.out hb4 hlt1)
      clear p10 p11 p12 p13 f10 f11 f12 f13 e3 g3
      obtain ⟨hlt4, p40, p41, p42, p43, f40, f41, f42, f43⟩ := HZ4.out.facts
      clear hb4
      go_wp2
      obtain ⟨k0, k1, k2, k3⟩ := four (put4 HZ4.out (.int .i64 3) (.int .i64 0) (.string ⟨#[]⟩) (.bool true))
      exact bodyPost_ret (v := .tuple #[.agg #[.int .i64 3, .int .i64 0, .string ⟨#[]⟩, .bool true], .bool true]) (by simp [results, Try.results154, go_sem, k0, k1, k2, k3]; try rfl) rfl (rpost_yes hyes (below4 HB4.out w.heap.size (Nat.le_refl _) _ _ _ _))
end Go.Proofs.Ytopbildpeojgoaa.Evl
