/- How values stand to each other. -/
import Derived.Test.YtookojgemipakaaDoorOrTy
import Derived.Test.YtookojgemipakaaDoorOrEv
import Derived.Deep.RegionLaw
namespace Go.Proofs.YtookojgemipakaaDoor.Evl
open Go.RowKit Go.Proofs.YtookojgemipakaaDoor Go.Proofs.YtookojgemipakaaDoor.Ev Go.Proofs.YtookojgemipakaaDoor.Sch
set_option linter.unusedVariables false
set_option maxRecDepth 100000
def cmpI (a b : Int) : Int := if a < b then -1 else if b < a then 1 else 0
def cmpS (a b : ByteArray) : Int := if Op.bytesLess a.toList b.toList = true then -1 else if (a.toList == b.toList) = true then 0 else 1
def rk (b : Bool) : Int := if b = true then 1 else 0
theorem nan_i64 (n : Int) (w : World) : Calls Tryd.prog 89 #[.int .i64 n] w fun e w' => e = .returned (.bool false) ∧ w = w' := by
  go_enter Tryd.func89, Tryd.ntmps89
  go_wp2
  go_ret
  exact ⟨rfl, rfl⟩
theorem cmp_i64 (a b : Int) (w : World) : Calls Tryd.prog 67 #[.int .i64 a, .int .i64 b] w fun e w' => e = .returned (.int .i64 (cmpI a b)) ∧ w = w' := by
  go_enter Tryd.func67, Tryd.ntmps67
  go_wp2_with fail
  refine (nan_i64 _ _).mono ?_
  rintro e w1 ⟨rfl, rfl⟩
  go_wp2_with fail
  refine (nan_i64 _ _).mono ?_
  rintro e w1 ⟨rfl, rfl⟩
  go_wp2
  all_goals
    go_ret
    refine ⟨ret_int ?_, rfl⟩
    unfold cmpI
    first
      | rw [if_pos (by omega)]
      | rw [if_neg (by omega), if_pos (by omega)]
      | rw [if_neg (by omega), if_neg (by omega)]
/-- How two values stand; none: of two kinds, or of none. -/
def ordV (a b : VV) : Option Int := if a.k = b.k then (if a.k = 1 then some (cmpI a.i b.i) else if a.k = 2 then some (cmpS a.s b.s) else if a.k = 3 then some (cmpI (rk a.b) (rk b.b)) else none) else none
def OPost (w : World) (r : Option Int) (e : Ending) (w' : World) : Prop := e = .returned (.tuple #[.int .i64 (r.getD 0), .bool r.isSome]) ∧ Below w.heap.size w w'
theorem opost_yes {w w' : World} {r : Option Int} {n : Int} (h : r = some n) (hb : Below w.heap.size w w') : OPost w r (.returned (.tuple #[.int .i64 n, .bool true])) w' := by subst h; exact ⟨rfl, hb⟩
theorem opost_no {w w' : World} {r : Option Int} (h : r = none) (hb : Below w.heap.size w w') : OPost w r (.returned (.tuple #[.int .i64 0, .bool false])) w' := by subst h; exact ⟨rfl, hb⟩
def standM (o r : Int) : Bool := if o = 7 then decide (r = 0) else if o = 8 then !decide (r = 0) else if o = 9 then decide (r < 0) else if o = 10 then decide (r ≤ 0) else if o = 11 then decide (0 < r) else decide (0 ≤ r)
end Go.Proofs.YtookojgemipakaaDoor.Evl

/- Values in memory; whether all are of a kind; parts of numbers and of truths. -/
namespace Go.Proofs.YtookojgemipakaaDoor.Evl
open Go.RowKit Go.Proofs.YtookojgemipakaaDoor Go.Proofs.YtookojgemipakaaDoor.Ev Go.Proofs.YtookojgemipakaaDoor.Sch Go.Proofs.YtookojgemipakaaDoor.Ty
set_option linter.unusedVariables false
set_option maxRecDepth 100000
/-- Values as they lie in memory. -/
def VL (w : World) (B : Nat) (v : Value) (L : List VV) : Prop :=
  ∃ A c, v = .slice A L.length c ∧ L.length ≤ c ∧ c ≤ 9223372036854775807 ∧ ∀ k (h : k < L.length), ∃ g o, A = some ⟨g, o, none⟩ ∧ g < B ∧ ∀ j u, (L[k].cells)[j]? = some u → w.cell? ⟨g, o + k * 4 + j, none⟩ = some u
theorem VL.below {w w' : World} {B B' : Nat} {v : Value} {L : List VV} (h : VL w B v L) (hb : Below B w w') (hB : B ≤ B') : VL w' B' v L := by
  obtain ⟨A, c, rfl, h1, h2, h3⟩ := h
  refine ⟨A, c, rfl, h1, h2, fun k hk => ?_⟩
  obtain ⟨g, o, e, hg, hc⟩ := h3 k hk
  exact ⟨g, o, e, by omega, fun j u hj => (hb.cell (p := ⟨g, o + k * 4 + j, none⟩) hg).trans (hc j u hj)⟩
theorem VL.zero (w : World) (B : Nat) : VL w B (.slice none 0 0) [] := ⟨none, 0, rfl, by simp, by omega, fun k hk => by simp at hk⟩
end Go.Proofs.YtookojgemipakaaDoor.Evl

/- What a part of numbers, of truths, of values that are compared comes to. -/
namespace Go.Proofs.YtookojgemipakaaDoor.Evl
open Go.RowKit Go.Proofs.YtookojgemipakaaDoor Go.Proofs.YtookojgemipakaaDoor.Ev Go.Proofs.YtookojgemipakaaDoor.Sch Go.Proofs.YtookojgemipakaaDoor.Ty
set_option linter.unusedVariables false
set_option maxRecDepth 100000
def In64 (x : Int) : Prop := -9223372036854775808 ≤ x ∧ x ≤ 9223372036854775807
def numV (x : Int) : VV := ⟨1, x, ⟨#[]⟩, false⟩
def trV (b : Bool) : VV := ⟨3, 0, ⟨#[]⟩, b⟩
def zeroV : VV := ⟨0, 0, ⟨#[]⟩, false⟩
def VV.agg (v : VV) : Value := .agg #[.int .i64 v.k, .int .i64 v.i, .string v.s, .bool v.b]
def RPost (w : World) (r : Option VV) (e : Ending) (w' : World) : Prop := e = .returned (.tuple #[VV.agg (r.getD zeroV), .bool r.isSome]) ∧ Below w.heap.size w w'
theorem rpost_yes {w w' : World} {r : Option VV} {k i : Int} {s : ByteArray} {b : Bool} (h : r = some ⟨k, i, s, b⟩) (hb : Below w.heap.size w w') : RPost w r (.returned (.tuple #[.agg #[.int .i64 k, .int .i64 i, .string s, .bool b], .bool true])) w' := by subst h; exact ⟨rfl, hb⟩
theorem rpost_no {w w' : World} {r : Option VV} (h : r = none) (hb : Below w.heap.size w w') : RPost w r (.returned (.tuple #[.agg #[.int .i64 0, .int .i64 0, .string ⟨#[]⟩, .bool false], .bool false])) w' := by subst h; exact ⟨rfl, hb⟩
def ari (o x y : Int) : Int := if o = 4 then x + y else if o = 5 then x - y else x * y
/-- The only thing, the two things of a list. -/
theorem VL.one {w : World} {B : Nat} {v : Value} {a : VV} (h : VL w B v [a]) : ∃ g o c, v = .slice (some ⟨g, o, none⟩) 1 c ∧ 1 ≤ c ∧ c ≤ 9223372036854775807 ∧ g < B ∧ w.cell? ⟨g, o, none⟩ = some (.int .i64 a.k) ∧ w.cell? ⟨g, o + 1, none⟩ = some (.int .i64 a.i) ∧ w.cell? ⟨g, o + 2, none⟩ = some (.string a.s) ∧ w.cell? ⟨g, o + 3, none⟩ = some (.bool a.b) := by
  obtain ⟨A, c, rfl, h1, h2, h3⟩ := h
  obtain ⟨g, o, rfl, hg, hc⟩ := h3 0 (by simp)
  exact ⟨g, o, c, rfl, by simpa using h1, h2, hg, by simpa using hc 0 _ rfl, by simpa using hc 1 _ rfl, by simpa using hc 2 _ rfl, by simpa using hc 3 _ rfl⟩
theorem VL.two {w : World} {B : Nat} {v : Value} {a b : VV} (h : VL w B v [a, b]) : ∃ g o c, v = .slice (some ⟨g, o, none⟩) 2 c ∧ 2 ≤ c ∧ c ≤ 9223372036854775807 ∧ g < B ∧ w.cell? ⟨g, o, none⟩ = some (.int .i64 a.k) ∧ w.cell? ⟨g, o + 1, none⟩ = some (.int .i64 a.i) ∧ w.cell? ⟨g, o + 2, none⟩ = some (.string a.s) ∧ w.cell? ⟨g, o + 3, none⟩ = some (.bool a.b)
    ∧ w.cell? ⟨g, o + 4, none⟩ = some (.int .i64 b.k) ∧ w.cell? ⟨g, o + 4 + 1, none⟩ = some (.int .i64 b.i) ∧ w.cell? ⟨g, o + 4 + 2, none⟩ = some (.string b.s) ∧ w.cell? ⟨g, o + 4 + 3, none⟩ = some (.bool b.b) := by
  obtain ⟨A, c, rfl, h1, h2, h3⟩ := h
  obtain ⟨g, o, rfl, hg, hc⟩ := h3 0 (by simp)
  obtain ⟨g', o', e, _, hd⟩ := h3 1 (by simp)
  injection e with e
  injection e with e1 e2
  subst e1 e2
  exact ⟨g, o, c, rfl, by simpa using h1, h2, hg, by simpa using hc 0 _ rfl, by simpa using hc 1 _ rfl, by simpa using hc 2 _ rfl, by simpa using hc 3 _ rfl, by simpa using hd 0 _ rfl, by simpa using hd 1 _ rfl, by simpa using hd 2 _ rfl, by simpa using hd 3 _ rfl⟩
/-- The result's block. -/
def Rz (X : World) (b : Nat) : Prop := Row X b 33 #[.int .i64 0, .int .i64 0, .string ⟨#[]⟩, .bool false]
theorem Rz.facts {X : World} {b : Nat} (r : Rz X b) : b < X.heap.size ∧ X.cell? ⟨b, 0, none⟩ = some (.int .i64 0) ∧ X.cell? ⟨b, 1, none⟩ = some (.int .i64 0) ∧ X.cell? ⟨b, 2, none⟩ = some (.string ⟨#[]⟩) ∧ X.cell? ⟨b, 3, none⟩ = some (.bool false)
    ∧ X.frozen? ⟨b, 0, none⟩ = false ∧ X.frozen? ⟨b, 1, none⟩ = false ∧ X.frozen? ⟨b, 2, none⟩ = false ∧ X.frozen? ⟨b, 3, none⟩ = false :=
  ⟨r.lt, (r.cell 0).trans rfl, (r.cell 1).trans rfl, (r.cell 2).trans rfl, (r.cell 3).trans rfl, r.free 0, r.free 1, r.free 2, r.free 3⟩
theorem put4 {X : World} {b : Nat} (r : Rz X b) (u0 u1 u2 u3 : Value) :
    Row ((((X.setCell ⟨b, 0, none⟩ u0).setCell ⟨b, 1, none⟩ u1).setCell ⟨b, 2, none⟩ u2).setCell ⟨b, 3, none⟩ u3) b 33 #[u0, u1, u2, u3] := by
  simpa using (((Row.put r 0 u0).put 1 u1).put 2 u2).put 3 u3
theorem four {Y : World} {b : Nat} {u0 u1 u2 u3 : Value} (r : Row Y b 33 #[u0, u1, u2, u3]) : Y.cell? ⟨b, 0, none⟩ = some u0 ∧ Y.cell? ⟨b, 1, none⟩ = some u1 ∧ Y.cell? ⟨b, 2, none⟩ = some u2 ∧ Y.cell? ⟨b, 3, none⟩ = some u3 :=
  ⟨(r.cell 0).trans rfl, (r.cell 1).trans rfl, (r.cell 2).trans rfl, (r.cell 3).trans rfl⟩
theorem below4 {w X : World} (h : Below w.heap.size w X) (b : Nat) (hb : w.heap.size ≤ b) (u0 u1 u2 u3 : Value) : Below w.heap.size w ((((X.setCell ⟨b, 0, none⟩ u0).setCell ⟨b, 1, none⟩ u1).setCell ⟨b, 2, none⟩ u2).setCell ⟨b, 3, none⟩ u3) :=
  (((h.setCell (p := ⟨b, 0, none⟩) hb _).setCell (p := ⟨b, 1, none⟩) hb _).setCell (p := ⟨b, 2, none⟩) hb _).setCell (p := ⟨b, 3, none⟩) hb _
-- WALKS
end Go.Proofs.YtookojgemipakaaDoor.Evl

/- What variables stand for; a field of an event. -/
namespace Go.Proofs.YtookojgemipakaaDoor.Evl
open Go.RowKit Go.Proofs.YtookojgemipakaaDoor Go.Proofs.YtookojgemipakaaDoor.Ev Go.Proofs.YtookojgemipakaaDoor.Sch Go.Proofs.YtookojgemipakaaDoor.Ty
set_option linter.unusedVariables false
set_option maxRecDepth 100000
/-- An event, by its contents. -/
structure Evt where
  ty : ByteArray
  key : ByteArray
  t : Int
  q : Int
  vs : List VV
/-- A variable and what it stands for. -/
structure Bn where
  nm : ByteArray
  ev : Evt
def En (w : World) (B : Nat) (v : Value) (es : List Bn) : Prop :=
  ∃ A c, v = .slice A es.length c ∧ es.length ≤ c ∧ c ≤ 9223372036854775807 ∧
    ∀ k (h : k < es.length), ∃ g o vv, A = some ⟨g, o, none⟩ ∧ g < B ∧ w.cell? ⟨g, o + k * 6, none⟩ = some (.string es[k].nm) ∧ w.cell? ⟨g, o + k * 6 + 1, none⟩ = some (.string es[k].ev.ty) ∧ w.cell? ⟨g, o + k * 6 + 2, none⟩ = some (.string es[k].ev.key) ∧ w.cell? ⟨g, o + k * 6 + 3, none⟩ = some (.int .i64 es[k].ev.t) ∧ w.cell? ⟨g, o + k * 6 + 4, none⟩ = some (.int .i64 es[k].ev.q) ∧ w.cell? ⟨g, o + k * 6 + 5, none⟩ = some vv ∧ VL w B vv es[k].ev.vs
theorem En.below {w w' : World} {B B' : Nat} {v : Value} {es : List Bn} (h : En w B v es) (hb : Below B w w') (hB : B ≤ B') : En w' B' v es := by
  obtain ⟨A, c, rfl, h1, h2, h3⟩ := h
  refine ⟨A, c, rfl, h1, h2, fun k hk => ?_⟩
  obtain ⟨g, o, vv, e, hg, c0, c1, c2, c3, c4, c5, hs⟩ := h3 k hk
  exact ⟨g, o, vv, e, by omega, (hb.cell (p := ⟨g, _, none⟩) hg).trans c0, (hb.cell (p := ⟨g, _, none⟩) hg).trans c1, (hb.cell (p := ⟨g, _, none⟩) hg).trans c2, (hb.cell (p := ⟨g, _, none⟩) hg).trans c3, (hb.cell (p := ⟨g, _, none⟩) hg).trans c4, (hb.cell (p := ⟨g, _, none⟩) hg).trans c5, hs.below hb hB⟩
theorem En.zero (w : World) (B : Nat) : En w B (.slice none 0 0) [] := ⟨none, 0, rfl, by simp, by omega, fun k hk => by simp at hk⟩
/-- An event's field. -/
def getM (ts : List Ty) (e : Evt) (f : ByteArray) : Option VV := if (fieldS ts e.ty f).1 < 0 then none else e.vs[(fieldS ts e.ty f).1.toNat]?
theorem res_ev {w X : World} {ev : Array Value} (h : Below (w.heap.size + 1 + 1) ((w.alloc (.cells ev 24)).alloc (.cells #[.int .i64 0, .int .i64 0, .string ⟨#[]⟩, .bool false] 33)) X) : Rz X (w.heap.size + 1) ∧ Row X w.heap.size 24 ev :=
  ⟨Row.below (by simpa using Row.made (w.alloc (.cells ev 24)) 33 #[.int .i64 0, .int .i64 0, .string ⟨#[]⟩, .bool false]) h (by omega), Row.below ((Row.made w _ _).alloc _) h (by omega)⟩
set_option maxHeartbeats 4000000 in
theorem get_any (p : Option Addr) (ts : List Ty) (ty key : ByteArray) (t q : Int) (vs : List VV) (vv : Value) (f : ByteArray) (w : World) (hs : Sc w w.heap.size p ts) (hv : VL w w.heap.size vv vs) :
    Calls Tryd.prog 22 #[.pointer p, .agg #[.string ty, .string key, .int .i64 t, .int .i64 q, vv], .string f] w (RPost w (getM ts ⟨ty, key, t, q, vs⟩ f)) := by
  have HV := Lib.hid hv
  obtain ⟨A, c, rfl, h1, h2, h3⟩ := hv
  have hX : Below w.heap.size w ((w.alloc (.cells #[.string ty, .string key, .int .i64 t, .int .i64 q, .slice A vs.length c] 24)).alloc (.cells #[.int .i64 0, .int .i64 0, .string ⟨#[]⟩, .bool false] 33)) := ((Below.refl _ w).alloc (Nat.le_refl _) _).alloc (by simp) _
  have HX := Lib.hid hX
  obtain ⟨x, hx⟩ : ∃ x, fieldS ts ty f = x := ⟨_, rfl⟩
  have HF := Lib.hid (fieldS_any p ts ty f _ (hs.below hX hX.size))
  rw [hx] at HF
  obtain ⟨px, kx⟩ := x
  obtain ⟨r, hr⟩ : ∃ r, getM ts ⟨ty, key, t, q, vs⟩ f = r := ⟨_, rfl⟩
  rw [hr]
  unfold getM at hr
  dsimp only at hr HF
  rw [hx] at hr
  dsimp only at hr
  have HR := Lib.hid hr
  have HZ : Hid (∀ X, Below ((w.alloc (.cells #[.string ty, .string key, .int .i64 t, .int .i64 q, .slice A vs.length c] 24)).alloc (.cells #[.int .i64 0, .int .i64 0, .string ⟨#[]⟩, .bool false] 33)).heap.size ((w.alloc (.cells #[.string ty, .string key, .int .i64 t, .int .i64 q, .slice A vs.length c] 24)).alloc (.cells #[.int .i64 0, .int .i64 0, .string ⟨#[]⟩, .bool false] 33)) X → Rz X (w.heap.size + 1) ∧ Row X w.heap.size 24 #[.string ty, .string key, .int .i64 t, .int .i64 q, .slice A vs.length c]) := Lib.hid (fun X h => res_ev (h.mono (by simp)))
  have HH3 := Lib.hid h3
  clear hs hX hr hx h3
  go_enter Tryd.func22, Tryd.ntmps22
  go_wp2_with fail
  refine HF.out.mono ?_
  rintro e w1 ⟨rfl, hb1⟩
  have HB := Lib.hid (HX.out.trans (hb1.mono HX.out.size))
  have HZ1 := Lib.hid (HZ.out _ hb1).1
  have HE1 := (HZ.out _ hb1).2
  have e4 : w1.cell? ⟨w.heap.size, 4, none⟩ = some (.slice A vs.length c) := (HE1.cell 4).trans rfl
  obtain ⟨hlt1, p10, p11, p12, p13, f10, f11, f12, f13⟩ := HZ1.out.facts
  clear hb1 HX HZ HF HE1
  by_cases hp : px < 0
  · have hno : r = none := by rw [← HR.out, if_pos hp]
    go_wp2
    obtain ⟨k0, k1, k2, k3⟩ := four (put4 HZ1.out (.int .i64 0) (.int .i64 0) (.string ⟨#[]⟩) (.bool false))
    exact bodyPost_ret (v := .tuple #[.agg #[.int .i64 0, .int .i64 0, .string ⟨#[]⟩, .bool false], .bool false]) (by simp [results, Tryd.results22, go_sem, k0, k1, k2, k3]; try rfl) rfl (rpost_no hno (below4 HB.out (w.heap.size + 1) (by omega) _ _ _ _))
  · obtain ⟨k, rfl⟩ : ∃ k : Nat, px = k := ⟨px.toNat, by omega⟩
    have hy := HR.out
    rw [if_neg hp, Int.toNat_natCast] at hy
    by_cases hk : k < vs.length
    · obtain ⟨g, o, rfl, hg, hc⟩ := HH3.out k hk
      have hki : (k : Int) < (vs.length : Int) := by omega
      rw [List.getElem?_eq_getElem hk] at hy
      obtain ⟨⟨yk, yi, ys, yb⟩, hyy⟩ : ∃ y, vs[k] = y := ⟨_, rfl⟩
      rw [hyy] at hy hc
      have c0 := (HB.out.cell (p := ⟨g, o + k * 4 + 0, none⟩) hg).trans (hc 0 _ rfl)
      have c1 := (HB.out.cell (p := ⟨g, o + k * 4 + 1, none⟩) hg).trans (hc 1 _ rfl)
      have c2 := (HB.out.cell (p := ⟨g, o + k * 4 + 2, none⟩) hg).trans (hc 2 _ rfl)
      have c3 := (HB.out.cell (p := ⟨g, o + k * 4 + 3, none⟩) hg).trans (hc 3 _ rfl)
      simp only [Nat.add_zero] at c0
      dsimp only at c0 c1 c2 c3
      have hyes : r = some ⟨yk, yi, ys, yb⟩ := hy.symm
      have hk9 : k ≤ 9223372036854775807 := by omega
      clear hc hy hyy
      go_wp2
      obtain ⟨k0, k1, k2, k3⟩ := four (put4 HZ1.out (.int .i64 yk) (.int .i64 yi) (.string ys) (.bool yb))
      exact bodyPost_ret (v := .tuple #[.agg #[.int .i64 yk, .int .i64 yi, .string ys, .bool yb], .bool true]) (by simp [results, Tryd.results22, go_sem, k0, k1, k2, k3]; try rfl) rfl (rpost_yes hyes (below4 HB.out (w.heap.size + 1) (by omega) _ _ _ _))
    · have hki : ¬ (k : Int) < (vs.length : Int) := by omega
      rw [List.getElem?_eq_none (by omega)] at hy
      have hno : r = none := hy.symm
      clear hy
      go_wp2
      obtain ⟨k0, k1, k2, k3⟩ := four (put4 HZ1.out (.int .i64 0) (.int .i64 0) (.string ⟨#[]⟩) (.bool false))
      exact bodyPost_ret (v := .tuple #[.agg #[.int .i64 0, .int .i64 0, .string ⟨#[]⟩, .bool false], .bool false]) (by simp [results, Tryd.results22, go_sem, k0, k1, k2, k3]; try rfl) rfl (rpost_no hno (below4 HB.out (w.heap.size + 1) (by omega) _ _ _ _))
end Go.Proofs.YtookojgemipakaaDoor.Evl

/- Whether any parts are a predicate: term.May. -/
namespace Go.Proofs.YtookojgemipakaaDoor.Evl
open Go.RowKit Go.Proofs.YtookojgemipakaaDoor Go.Proofs.YtookojgemipakaaDoor.Ev Go.Proofs.YtookojgemipakaaDoor.Sch Go.Proofs.YtookojgemipakaaDoor.Ty
set_option linter.unusedVariables false
set_option maxRecDepth 100000
/-- A truth that is told, and what it means. -/
def QPost (P : Prop) (w : World) (e : Ending) (w' : World) : Prop := ∃ r, e = .returned (.bool r) ∧ (r = true → P) ∧ Below w.heap.size w w'
theorem qpost {P : Prop} {w w' : World} {r : Bool} (h : r = true → P) (hb : Below w.heap.size w w') : QPost P w (.returned (.bool r)) w' := ⟨r, rfl, h, hb⟩
theorem qpost_no {P : Prop} {w w' : World} (hb : Below w.heap.size w w') : QPost P w (.returned (.bool false)) w' := ⟨false, rfl, (by simp), hb⟩
theorem bytes_nil {s : ByteArray} (h : s.toList = []) : s = ⟨#[]⟩ := by
  have h2 : s.data.toList = [] := by
    have e : s.toList = s.data.toList := by simp [ByteArray.toList_eq]
    rw [← e]; exact h
  obtain ⟨d⟩ := s
  simp at h2
  subst h2
  rfl
set_option maxHeartbeats 2000000 in
theorem may_n1 (i : Int) (s : ByteArray) (w : World) : Calls Tryd.prog 64 #[.agg #[.int .i64 1, .int .i64 i, .string s, .bool true]] w fun e w' => e = .returned (.bool false) ∧ Below w.heap.size w w' := by
  have hS : ∀ X, Below (w.heap.size + 1) (w.alloc (.cells #[.int .i64 1, .int .i64 i, .string s, .bool true] 33)) X → X.cell? ⟨w.heap.size, 0, none⟩ = some (.int .i64 1) ∧ X.cell? ⟨w.heap.size, 1, none⟩ = some (.int .i64 i) ∧ X.cell? ⟨w.heap.size, 2, none⟩ = some (.string s) ∧ X.cell? ⟨w.heap.size, 3, none⟩ = some (.bool true) := fun X h => v4_box w (1) (i) s true h
  have k1 := hS _ (Below.refl _ _)
  have HS := Lib.hid hS
  have HZ : Hid (w.heap.size + 1 = (w.alloc (.cells #[.int .i64 1, .int .i64 i, .string s, .bool true] 33)).heap.size) := by show w.heap.size + 1 = _; simp
  have HW : Hid (Below w.heap.size w (w.alloc (.cells #[.int .i64 1, .int .i64 i, .string s, .bool true] 33))) := (Below.refl _ w).alloc (Nat.le_refl _) _
  clear hS
  go_enter Tryd.func64, Tryd.ntmps64
  go_wp2
  generalize (w.alloc (.cells #[.int .i64 1, .int .i64 i, .string s, .bool true] 33)) = W at HS k1 HW HZ ⊢
  have HB : Hid (Below W.heap.size W W.drew) := (Below.refl _ W).drew
  go_region_held3 (fun X => X.cell? ⟨w.heap.size, 0, none⟩ = some (.int .i64 1) ∧ X.cell? ⟨w.heap.size, 1, none⟩ = some (.int .i64 i) ∧ X.cell? ⟨w.heap.size, 2, none⟩ = some (.string s) ∧ X.cell? ⟨w.heap.size, 3, none⟩ = some (.bool true))
    (first
      | exact k1
      | exact HS.out _ (HB.out.mono (by rw [← HZ.out]; exact Nat.le_refl _))
      | fail)
    ((first
      | (
          go_at_call 84
          (with_reducible refine (vnum_any _ _).mono ?_)
          rintro e w3 ⟨rfl, hb⟩
          have h3 := HB.out.trans (hb.mono HB.out.size)
          have HB := Lib.hid h3
          clear hb h3)))
  have HF := Lib.hid (HW.out.trans (HB.out.mono (by rw [← HZ.out]; omega)))
  clear k1 HS HB HW
  go_wp2
  go_ret
  exact ⟨rfl, HF.out⟩
set_option maxHeartbeats 2000000 in
theorem may_n2 (i : Int) (s : ByteArray) (hs : ¬ s.toList = []) (w : World) : Calls Tryd.prog 64 #[.agg #[.int .i64 1, .int .i64 i, .string s, .bool false]] w fun e w' => e = .returned (.bool false) ∧ Below w.heap.size w w' := by
  have hS : ∀ X, Below (w.heap.size + 1) (w.alloc (.cells #[.int .i64 1, .int .i64 i, .string s, .bool false] 33)) X → X.cell? ⟨w.heap.size, 0, none⟩ = some (.int .i64 1) ∧ X.cell? ⟨w.heap.size, 1, none⟩ = some (.int .i64 i) ∧ X.cell? ⟨w.heap.size, 2, none⟩ = some (.string s) ∧ X.cell? ⟨w.heap.size, 3, none⟩ = some (.bool false) := fun X h => v4_box w (1) (i) s false h
  have k1 := hS _ (Below.refl _ _)
  have HS := Lib.hid hS
  have HZ : Hid (w.heap.size + 1 = (w.alloc (.cells #[.int .i64 1, .int .i64 i, .string s, .bool false] 33)).heap.size) := by show w.heap.size + 1 = _; simp
  have HW : Hid (Below w.heap.size w (w.alloc (.cells #[.int .i64 1, .int .i64 i, .string s, .bool false] 33))) := (Below.refl _ w).alloc (Nat.le_refl _) _
  clear hS
  go_enter Tryd.func64, Tryd.ntmps64
  go_wp2
  generalize (w.alloc (.cells #[.int .i64 1, .int .i64 i, .string s, .bool false] 33)) = W at HS k1 HW HZ ⊢
  have HB : Hid (Below W.heap.size W W.drew) := (Below.refl _ W).drew
  go_region_held3 (fun X => X.cell? ⟨w.heap.size, 0, none⟩ = some (.int .i64 1) ∧ X.cell? ⟨w.heap.size, 1, none⟩ = some (.int .i64 i) ∧ X.cell? ⟨w.heap.size, 2, none⟩ = some (.string s) ∧ X.cell? ⟨w.heap.size, 3, none⟩ = some (.bool false))
    (first
      | exact k1
      | exact HS.out _ (HB.out.mono (by rw [← HZ.out]; exact Nat.le_refl _))
      | fail)
    ((first
      | (
          go_at_call 84
          (with_reducible refine (vnum_any _ _).mono ?_)
          rintro e w3 ⟨rfl, hb⟩
          have h3 := HB.out.trans (hb.mono HB.out.size)
          have HB := Lib.hid h3
          clear hb h3)))
  have HF := Lib.hid (HW.out.trans (HB.out.mono (by rw [← HZ.out]; omega)))
  clear k1 HS HB HW
  go_wp2
  go_ret
  exact ⟨rfl, HF.out⟩
set_option maxHeartbeats 2000000 in
theorem may_n3 (i : Int) (s : ByteArray) (w : World) : Calls Tryd.prog 64 #[.agg #[.int .i64 2, .int .i64 i, .string s, .bool true]] w fun e w' => e = .returned (.bool false) ∧ Below w.heap.size w w' := by
  have hS : ∀ X, Below (w.heap.size + 1) (w.alloc (.cells #[.int .i64 2, .int .i64 i, .string s, .bool true] 33)) X → X.cell? ⟨w.heap.size, 0, none⟩ = some (.int .i64 2) ∧ X.cell? ⟨w.heap.size, 1, none⟩ = some (.int .i64 i) ∧ X.cell? ⟨w.heap.size, 2, none⟩ = some (.string s) ∧ X.cell? ⟨w.heap.size, 3, none⟩ = some (.bool true) := fun X h => v4_box w (2) (i) s true h
  obtain ⟨k0, k1, k2, k3⟩ := hS _ (Below.refl _ _)
  have HS := Lib.hid hS
  have HZ : Hid (w.heap.size + 1 = (w.alloc (.cells #[.int .i64 2, .int .i64 i, .string s, .bool true] 33)).heap.size) := by show w.heap.size + 1 = _; simp
  have HW : Hid (Below w.heap.size w (w.alloc (.cells #[.int .i64 2, .int .i64 i, .string s, .bool true] 33))) := (Below.refl _ w).alloc (Nat.le_refl _) _
  clear hS
  go_enter Tryd.func64, Tryd.ntmps64
  go_wp2
  generalize (w.alloc (.cells #[.int .i64 2, .int .i64 i, .string s, .bool true] 33)) = W at HS k0 k1 k2 k3 HW HZ ⊢
  first | go_region_law (
    (go_simp
     go_at_call 85
     refine (vtext_any _ _).mono ?_
     rintro e w3 ⟨rfl, hb⟩
     have h3 := (Below.refl _ W).drew.trans (hb.mono (Nat.le_refl _))
     obtain ⟨j0, j1, j2, j3⟩ := HS.out _ (h3.mono (by show w.heap.size + 1 ≤ W.heap.size; rw [← HZ.out]; exact Nat.le_refl _))
     have HF := Lib.hid (HW.out.trans (h3.mono (by show w.heap.size ≤ W.heap.size; have := HZ.out; omega)))
     clear hb h3)) | fail
  all_goals
    go_wp2
    go_ret
    exact ⟨rfl, HF.out⟩
set_option maxHeartbeats 2000000 in
theorem may_n4 (i : Int) (s : ByteArray) (hi : ¬ i = 0) (w : World) : Calls Tryd.prog 64 #[.agg #[.int .i64 2, .int .i64 i, .string s, .bool false]] w fun e w' => e = .returned (.bool false) ∧ Below w.heap.size w w' := by
  have hS : ∀ X, Below (w.heap.size + 1) (w.alloc (.cells #[.int .i64 2, .int .i64 i, .string s, .bool false] 33)) X → X.cell? ⟨w.heap.size, 0, none⟩ = some (.int .i64 2) ∧ X.cell? ⟨w.heap.size, 1, none⟩ = some (.int .i64 i) ∧ X.cell? ⟨w.heap.size, 2, none⟩ = some (.string s) ∧ X.cell? ⟨w.heap.size, 3, none⟩ = some (.bool false) := fun X h => v4_box w (2) (i) s false h
  obtain ⟨k0, k1, k2, k3⟩ := hS _ (Below.refl _ _)
  have HS := Lib.hid hS
  have HZ : Hid (w.heap.size + 1 = (w.alloc (.cells #[.int .i64 2, .int .i64 i, .string s, .bool false] 33)).heap.size) := by show w.heap.size + 1 = _; simp
  have HW : Hid (Below w.heap.size w (w.alloc (.cells #[.int .i64 2, .int .i64 i, .string s, .bool false] 33))) := (Below.refl _ w).alloc (Nat.le_refl _) _
  clear hS
  go_enter Tryd.func64, Tryd.ntmps64
  go_wp2
  generalize (w.alloc (.cells #[.int .i64 2, .int .i64 i, .string s, .bool false] 33)) = W at HS k0 k1 k2 k3 HW HZ ⊢
  first | go_region_law (
    (go_simp
     go_at_call 85
     refine (vtext_any _ _).mono ?_
     rintro e w3 ⟨rfl, hb⟩
     have h3 := (Below.refl _ W).drew.trans (hb.mono (Nat.le_refl _))
     obtain ⟨j0, j1, j2, j3⟩ := HS.out _ (h3.mono (by show w.heap.size + 1 ≤ W.heap.size; rw [← HZ.out]; exact Nat.le_refl _))
     have HF := Lib.hid (HW.out.trans (h3.mono (by show w.heap.size ≤ W.heap.size; have := HZ.out; omega)))
     clear hb h3)) | fail
  all_goals
    go_wp2
    go_ret
    exact ⟨rfl, HF.out⟩
set_option maxHeartbeats 2000000 in
theorem may_n5 (s : ByteArray) (hz : ¬ s.size ≤ 64) (w : World) : Calls Tryd.prog 64 #[.agg #[.int .i64 2, .int .i64 0, .string s, .bool false]] w fun e w' => e = .returned (.bool false) ∧ Below w.heap.size w w' := by
  have hS : ∀ X, Below (w.heap.size + 1) (w.alloc (.cells #[.int .i64 2, .int .i64 0, .string s, .bool false] 33)) X → X.cell? ⟨w.heap.size, 0, none⟩ = some (.int .i64 2) ∧ X.cell? ⟨w.heap.size, 1, none⟩ = some (.int .i64 0) ∧ X.cell? ⟨w.heap.size, 2, none⟩ = some (.string s) ∧ X.cell? ⟨w.heap.size, 3, none⟩ = some (.bool false) := fun X h => v4_box w (2) (0) s false h
  have k1 := hS _ (Below.refl _ _)
  have hd64 : decide ((s.size : Int) ≤ 64) = false := decide_eq_false (by omega)
  clear hz
  have HS := Lib.hid hS
  have HZ : Hid (w.heap.size + 1 = (w.alloc (.cells #[.int .i64 2, .int .i64 0, .string s, .bool false] 33)).heap.size) := by show w.heap.size + 1 = _; simp
  have HW : Hid (Below w.heap.size w (w.alloc (.cells #[.int .i64 2, .int .i64 0, .string s, .bool false] 33))) := (Below.refl _ w).alloc (Nat.le_refl _) _
  clear hS
  go_enter Tryd.func64, Tryd.ntmps64
  go_wp2
  generalize (w.alloc (.cells #[.int .i64 2, .int .i64 0, .string s, .bool false] 33)) = W at HS k1 HW HZ ⊢
  have HB : Hid (Below W.heap.size W W.drew) := (Below.refl _ W).drew
  go_region_held3 (fun X => X.cell? ⟨w.heap.size, 0, none⟩ = some (.int .i64 2) ∧ X.cell? ⟨w.heap.size, 1, none⟩ = some (.int .i64 0) ∧ X.cell? ⟨w.heap.size, 2, none⟩ = some (.string s) ∧ X.cell? ⟨w.heap.size, 3, none⟩ = some (.bool false))
    (first
      | exact k1
      | exact HS.out _ (HB.out.mono (by rw [← HZ.out]; exact Nat.le_refl _))
      | fail)
    ((first
      | (
          go_at_call 85
          (with_reducible refine (vtext_any _ _).mono ?_)
          rintro e w3 ⟨rfl, hb⟩
          have h3 := HB.out.trans (hb.mono HB.out.size)
          have HB := Lib.hid h3
          clear hb h3)))
  have HF := Lib.hid (HW.out.trans (HB.out.mono (by rw [← HZ.out]; omega)))
  clear k1 HS HB HW
  go_wp2
  go_ret
  exact ⟨rfl, HF.out⟩
set_option maxHeartbeats 2000000 in
theorem may_n6 (i : Int) (s : ByteArray) (b : Bool) (hi : ¬ i = 0) (w : World) : Calls Tryd.prog 64 #[.agg #[.int .i64 3, .int .i64 i, .string s, .bool b]] w fun e w' => e = .returned (.bool false) ∧ Below w.heap.size w w' := by
  have hS : ∀ X, Below (w.heap.size + 1) (w.alloc (.cells #[.int .i64 3, .int .i64 i, .string s, .bool b] 33)) X → X.cell? ⟨w.heap.size, 0, none⟩ = some (.int .i64 3) ∧ X.cell? ⟨w.heap.size, 1, none⟩ = some (.int .i64 i) ∧ X.cell? ⟨w.heap.size, 2, none⟩ = some (.string s) ∧ X.cell? ⟨w.heap.size, 3, none⟩ = some (.bool b) := fun X h => v4_box w (3) (i) s b h
  have k1 := hS _ (Below.refl _ _)
  have HS := Lib.hid hS
  have HZ : Hid (w.heap.size + 1 = (w.alloc (.cells #[.int .i64 3, .int .i64 i, .string s, .bool b] 33)).heap.size) := by show w.heap.size + 1 = _; simp
  have HW : Hid (Below w.heap.size w (w.alloc (.cells #[.int .i64 3, .int .i64 i, .string s, .bool b] 33))) := (Below.refl _ w).alloc (Nat.le_refl _) _
  clear hS
  go_enter Tryd.func64, Tryd.ntmps64
  go_wp2
  generalize (w.alloc (.cells #[.int .i64 3, .int .i64 i, .string s, .bool b] 33)) = W at HS k1 HW HZ ⊢
  have HB : Hid (Below W.heap.size W W.drew) := (Below.refl _ W).drew
  go_region_held3 (fun X => X.cell? ⟨w.heap.size, 0, none⟩ = some (.int .i64 3) ∧ X.cell? ⟨w.heap.size, 1, none⟩ = some (.int .i64 i) ∧ X.cell? ⟨w.heap.size, 2, none⟩ = some (.string s) ∧ X.cell? ⟨w.heap.size, 3, none⟩ = some (.bool b))
    (first
      | exact k1
      | exact HS.out _ (HB.out.mono (by rw [← HZ.out]; exact Nat.le_refl _))
      | fail)
    ((first
      | (
          go_at_call 86
          (with_reducible refine (vtruth_any _ _).mono ?_)
          rintro e w3 ⟨rfl, hb⟩
          have h3 := HB.out.trans (hb.mono HB.out.size)
          have HB := Lib.hid h3
          clear hb h3)))
  have HF := Lib.hid (HW.out.trans (HB.out.mono (by rw [← HZ.out]; omega)))
  clear k1 HS HB HW
  go_wp2
  go_ret
  exact ⟨rfl, HF.out⟩
set_option maxHeartbeats 2000000 in
theorem may_n7 (s : ByteArray) (b : Bool) (hs : ¬ s.toList = []) (w : World) : Calls Tryd.prog 64 #[.agg #[.int .i64 3, .int .i64 0, .string s, .bool b]] w fun e w' => e = .returned (.bool false) ∧ Below w.heap.size w w' := by
  have hS : ∀ X, Below (w.heap.size + 1) (w.alloc (.cells #[.int .i64 3, .int .i64 0, .string s, .bool b] 33)) X → X.cell? ⟨w.heap.size, 0, none⟩ = some (.int .i64 3) ∧ X.cell? ⟨w.heap.size, 1, none⟩ = some (.int .i64 0) ∧ X.cell? ⟨w.heap.size, 2, none⟩ = some (.string s) ∧ X.cell? ⟨w.heap.size, 3, none⟩ = some (.bool b) := fun X h => v4_box w (3) (0) s b h
  have k1 := hS _ (Below.refl _ _)
  have HS := Lib.hid hS
  have HZ : Hid (w.heap.size + 1 = (w.alloc (.cells #[.int .i64 3, .int .i64 0, .string s, .bool b] 33)).heap.size) := by show w.heap.size + 1 = _; simp
  have HW : Hid (Below w.heap.size w (w.alloc (.cells #[.int .i64 3, .int .i64 0, .string s, .bool b] 33))) := (Below.refl _ w).alloc (Nat.le_refl _) _
  clear hS
  go_enter Tryd.func64, Tryd.ntmps64
  go_wp2
  generalize (w.alloc (.cells #[.int .i64 3, .int .i64 0, .string s, .bool b] 33)) = W at HS k1 HW HZ ⊢
  have HB : Hid (Below W.heap.size W W.drew) := (Below.refl _ W).drew
  go_region_held3 (fun X => X.cell? ⟨w.heap.size, 0, none⟩ = some (.int .i64 3) ∧ X.cell? ⟨w.heap.size, 1, none⟩ = some (.int .i64 0) ∧ X.cell? ⟨w.heap.size, 2, none⟩ = some (.string s) ∧ X.cell? ⟨w.heap.size, 3, none⟩ = some (.bool b))
    (first
      | exact k1
      | exact HS.out _ (HB.out.mono (by rw [← HZ.out]; exact Nat.le_refl _))
      | fail)
    ((first
      | (
          go_at_call 86
          (with_reducible refine (vtruth_any _ _).mono ?_)
          rintro e w3 ⟨rfl, hb⟩
          have h3 := HB.out.trans (hb.mono HB.out.size)
          have HB := Lib.hid h3
          clear hb h3)))
  have HF := Lib.hid (HW.out.trans (HB.out.mono (by rw [← HZ.out]; omega)))
  clear k1 HS HB HW
  go_wp2
  go_ret
  exact ⟨rfl, HF.out⟩
theorem may_n8 (k i : Int) (s : ByteArray) (b : Bool) (h1 : (k == 1) = false) (h2 : (k == 2) = false) (h3 : (k == 3) = false) (w : World) : Calls Tryd.prog 64 #[.agg #[.int .i64 k, .int .i64 i, .string s, .bool b]] w fun e w' => e = .returned (.bool false) ∧ Below w.heap.size w w' := by
  go_enter Tryd.func64, Tryd.ntmps64
  go_wp2
  go_ret
  exact ⟨rfl, by go_grown⟩
def OkM (k i : Int) (s : ByteArray) (b : Bool) : Prop := (k = 1 ∧ s = ⟨#[]⟩ ∧ b = false) ∨ (k = 2 ∧ i = 0 ∧ b = false ∧ s.size ≤ 64) ∨ (k = 3 ∧ i = 0 ∧ s = ⟨#[]⟩)
theorem vmay_q (k i : Int) (s : ByteArray) (b : Bool) (w : World) : Calls Tryd.prog 64 #[.agg #[.int .i64 k, .int .i64 i, .string s, .bool b]] w (QPost (OkM k i s b) w) := by
  have no : ∀ {e : Ending} {w' : World}, (e = .returned (.bool false) ∧ Below w.heap.size w w') → QPost (OkM k i s b) w e w' := fun ⟨h, hb⟩ => by subst h; exact qpost_no hb
  have yes : OkM k i s b → ∀ {e : Ending} {w' : World}, (e = .returned (.bool true) ∧ Below w.heap.size w w') → QPost (OkM k i s b) w e w' := fun ho _ _ ⟨h, hb⟩ => by subst h; exact qpost (fun _ => ho) hb
  by_cases h1 : k = 1
  · subst h1
    cases b with
    | true => exact (may_n1 i s w).mono fun _ _ h => no h
    | false =>
      by_cases hs : s.toList = []
      · obtain rfl := bytes_nil hs
        exact (may_1 i w).mono fun _ _ h => yes (.inl ⟨rfl, rfl, rfl⟩) h
      · exact (may_n2 i s hs w).mono fun _ _ h => no h
  · by_cases h2 : k = 2
    · subst h2
      cases b with
      | true => exact (may_n3 i s w).mono fun _ _ h => no h
      | false =>
        by_cases hi : i = 0
        · subst hi
          by_cases hz : s.size ≤ 64
          · exact (may_2 s hz w).mono fun _ _ h => yes (.inr (.inl ⟨rfl, rfl, rfl, hz⟩)) h
          · exact (may_n5 s hz w).mono fun _ _ h => no h
        · exact (may_n4 i s hi w).mono fun _ _ h => no h
    · by_cases h3 : k = 3
      · subst h3
        by_cases hi : i = 0
        · subst hi
          by_cases hs : s.toList = []
          · obtain rfl := bytes_nil hs
            exact (may_3 b w).mono fun _ _ h => yes (.inr (.inr ⟨rfl, rfl, rfl⟩)) h
          · exact (may_n7 s b hs w).mono fun _ _ h => no h
        · exact (may_n6 i s b hi w).mono fun _ _ h => no h
      · exact (may_n8 k i s b (by simpa using h1) (by simpa using h2) (by simpa using h3) w).mono fun _ _ h => no h
end Go.Proofs.YtookojgemipakaaDoor.Evl

