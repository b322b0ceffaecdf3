/- What variables stand for; a field of an event. -/
import Derived.Test.YtookojgemipakaaDoorEvlC
import Derived.Test.YtookojgemipakaaDoorTyG
namespace Go.Proofs.YtookojgemipakaaDoor.Evl
open Go.RowKit Go.Proofs.YtookojgemipakaaDoor Go.Proofs.YtookojgemipakaaDoor.Ev Go.Proofs.YtookojgemipakaaDoor.Sch Go.Proofs.YtookojgemipakaaDoor.Ty
set_option linter.unusedVariables false
set_option maxRecDepth 100000
/-- An event, by its contents. -/
structure Evt where
  ty : ByteArray
  key : ByteArray
  t : Int
  q : Int
  vs : List VV
/-- A variable and what it stands for. -/
structure Bn where
  nm : ByteArray
  ev : Evt
def En (w : World) (B : Nat) (v : Value) (es : List Bn) : Prop :=
  ∃ A c, v = .slice A es.length c ∧ es.length ≤ c ∧ c ≤ 9223372036854775807 ∧
    ∀ k (h : k < es.length), ∃ g o vv, A = some ⟨g, o, none⟩ ∧ g < B ∧ w.cell? ⟨g, o + k * 6, none⟩ = some (.string es[k].nm) ∧ w.cell? ⟨g, o + k * 6 + 1, none⟩ = some (.string es[k].ev.ty) ∧ w.cell? ⟨g, o + k * 6 + 2, none⟩ = some (.string es[k].ev.key) ∧ w.cell? ⟨g, o + k * 6 + 3, none⟩ = some (.int .i64 es[k].ev.t) ∧ w.cell? ⟨g, o + k * 6 + 4, none⟩ = some (.int .i64 es[k].ev.q) ∧ w.cell? ⟨g, o + k * 6 + 5, none⟩ = some vv ∧ VL w B vv es[k].ev.vs
theorem En.below {w w' : World} {B B' : Nat} {v : Value} {es : List Bn} (h : En w B v es) (hb : Below B w w') (hB : B ≤ B') : En w' B' v es := by
  obtain ⟨A, c, rfl, h1, h2, h3⟩ := h
  refine ⟨A, c, rfl, h1, h2, fun k hk => ?_⟩
  obtain ⟨g, o, vv, e, hg, c0, c1, c2, c3, c4, c5, hs⟩ := h3 k hk
  exact ⟨g, o, vv, e, by omega, (hb.cell (p := ⟨g, _, none⟩) hg).trans c0, (hb.cell (p := ⟨g, _, none⟩) hg).trans c1, (hb.cell (p := ⟨g, _, none⟩) hg).trans c2, (hb.cell (p := ⟨g, _, none⟩) hg).trans c3, (hb.cell (p := ⟨g, _, none⟩) hg).trans c4, (hb.cell (p := ⟨g, _, none⟩) hg).trans c5, hs.below hb hB⟩
theorem En.zero (w : World) (B : Nat) : En w B (.slice none 0 0) [] := ⟨none, 0, rfl, by simp, by omega, fun k hk => by simp at hk⟩
/-- An event's field. -/
def getM (ts : List Ty) (e : Evt) (f : ByteArray) : Option VV := if (fieldS ts e.ty f).1 < 0 then none else e.vs[(fieldS ts e.ty f).1.toNat]?
theorem res_ev {w X : World} {ev : Array Value} (h : Below (w.heap.size + 1 + 1) ((w.alloc (.cells ev 24)).alloc (.cells #[.int .i64 0, .int .i64 0, .string ⟨#[]⟩, .bool false] 33)) X) : Rz X (w.heap.size + 1) ∧ Row X w.heap.size 24 ev :=
  ⟨Row.below (by simpa using Row.made (w.alloc (.cells ev 24)) 33 #[.int .i64 0, .int .i64 0, .string ⟨#[]⟩, .bool false]) h (by omega), Row.below ((Row.made w _ _).alloc _) h (by omega)⟩
set_option maxHeartbeats 4000000 in
theorem get_any (p : Option Addr) (ts : List Ty) (ty key : ByteArray) (t q : Int) (vs : List VV) (vv : Value) (f : ByteArray) (w : World) (hs : Sc w w.heap.size p ts) (hv : VL w w.heap.size vv vs) :
    Calls Tryd.prog 22 #[.pointer p, .agg #[.string ty, .string key, .int .i64 t, .int .i64 q, vv], .string f] w (RPost w (getM ts ⟨ty, key, t, q, vs⟩ f)) := by
  have HV := Lib.hid hv
  obtain ⟨A, c, rfl, h1, h2, h3⟩ := hv
  have hX : Below w.heap.size w ((w.alloc (.cells #[.string ty, .string key, .int .i64 t, .int .i64 q, .slice A vs.length c] 24)).alloc (.cells #[.int .i64 0, .int .i64 0, .string ⟨#[]⟩, .bool false] 33)) := ((Below.refl _ w).alloc (Nat.le_refl _) _).alloc (by simp) _
  have HX := Lib.hid hX
  obtain ⟨x, hx⟩ : ∃ x, fieldS ts ty f = x := ⟨_, rfl⟩
  have HF := Lib.hid (fieldS_any p ts ty f _ (hs.below hX hX.size))
  rw [hx] at HF
  obtain ⟨px, kx⟩ := x
  obtain ⟨r, hr⟩ : ∃ r, getM ts ⟨ty, key, t, q, vs⟩ f = r := ⟨_, rfl⟩
  rw [hr]
  unfold getM at hr
  dsimp only at hr HF
  rw [hx] at hr
  dsimp only at hr
  have HR := Lib.hid hr
  have HZ : Hid (∀ X, Below ((w.alloc (.cells #[.string ty, .string key, .int .i64 t, .int .i64 q, .slice A vs.length c] 24)).alloc (.cells #[.int .i64 0, .int .i64 0, .string ⟨#[]⟩, .bool false] 33)).heap.size ((w.alloc (.cells #[.string ty, .string key, .int .i64 t, .int .i64 q, .slice A vs.length c] 24)).alloc (.cells #[.int .i64 0, .int .i64 0, .string ⟨#[]⟩, .bool false] 33)) X → Rz X (w.heap.size + 1) ∧ Row X w.heap.size 24 #[.string ty, .string key, .int .i64 t, .int .i64 q, .slice A vs.length c]) := Lib.hid (fun X h => res_ev (h.mono (by simp)))
  have HH3 := Lib.hid h3
  clear hs hX hr hx h3
  go_enter Tryd.func22, Tryd.ntmps22
  go_wp2_with fail
  refine HF.out.mono ?_
  rintro e w1 ⟨rfl, hb1⟩
  have HB := Lib.hid (HX.out.trans (hb1.mono HX.out.size))
  have HZ1 := Lib.hid (HZ.out _ hb1).1
  have HE1 := (HZ.out _ hb1).2
  have e4 : w1.cell? ⟨w.heap.size, 4, none⟩ = some (.slice A vs.length c) := (HE1.cell 4).trans rfl
  obtain ⟨hlt1, p10, p11, p12, p13, f10, f11, f12, f13⟩ := HZ1.out.facts
  clear hb1 HX HZ HF HE1
  by_cases hp : px < 0
  · have hno : r = none := by rw [← HR.out, if_pos hp]
    go_wp2
    obtain ⟨k0, k1, k2, k3⟩ := four (put4 HZ1.out (.int .i64 0) (.int .i64 0) (.string ⟨#[]⟩) (.bool false))
    exact bodyPost_ret (v := .tuple #[.agg #[.int .i64 0, .int .i64 0, .string ⟨#[]⟩, .bool false], .bool false]) (by simp [results, Tryd.results22, go_sem, k0, k1, k2, k3]; try rfl) rfl (rpost_no hno (below4 HB.out (w.heap.size + 1) (by omega) _ _ _ _))
  · obtain ⟨k, rfl⟩ : ∃ k : Nat, px = k := ⟨px.toNat, by omega⟩
    have hy := HR.out
    rw [if_neg hp, Int.toNat_natCast] at hy
    by_cases hk : k < vs.length
    · obtain ⟨g, o, rfl, hg, hc⟩ := HH3.out k hk
      have hki : (k : Int) < (vs.length : Int) := by omega
      rw [List.getElem?_eq_getElem hk] at hy
      obtain ⟨⟨yk, yi, ys, yb⟩, hyy⟩ : ∃ y, vs[k] = y := ⟨_, rfl⟩
      rw [hyy] at hy hc
      have c0 := (HB.out.cell (p := ⟨g, o + k * 4 + 0, none⟩) hg).trans (hc 0 _ rfl)
      have c1 := (HB.out.cell (p := ⟨g, o + k * 4 + 1, none⟩) hg).trans (hc 1 _ rfl)
      have c2 := (HB.out.cell (p := ⟨g, o + k * 4 + 2, none⟩) hg).trans (hc 2 _ rfl)
      have c3 := (HB.out.cell (p := ⟨g, o + k * 4 + 3, none⟩) hg).trans (hc 3 _ rfl)
      simp only [Nat.add_zero] at c0
      dsimp only at c0 c1 c2 c3
      have hyes : r = some ⟨yk, yi, ys, yb⟩ := hy.symm
      have hk9 : k ≤ 9223372036854775807 := by omega
      clear hc hy hyy
      go_wp2
      obtain ⟨k0, k1, k2, k3⟩ := four (put4 HZ1.out (.int .i64 yk) (.int .i64 yi) (.string ys) (.bool yb))
      exact bodyPost_ret (v := .tuple #[.agg #[.int .i64 yk, .int .i64 yi, .string ys, .bool yb], .bool true]) (by simp [results, Tryd.results22, go_sem, k0, k1, k2, k3]; try rfl) rfl (rpost_yes hyes (below4 HB.out (w.heap.size + 1) (by omega) _ _ _ _))
    · have hki : ¬ (k : Int) < (vs.length : Int) := by omega
      rw [List.getElem?_eq_none (by omega)] at hy
      have hno : r = none := hy.symm
      clear hy
      go_wp2
      obtain ⟨k0, k1, k2, k3⟩ := four (put4 HZ1.out (.int .i64 0) (.int .i64 0) (.string ⟨#[]⟩) (.bool false))
      exact bodyPost_ret (v := .tuple #[.agg #[.int .i64 0, .int .i64 0, .string ⟨#[]⟩, .bool false], .bool false]) (by simp [results, Tryd.results22, go_sem, k0, k1, k2, k3]; try rfl) rfl (rpost_no hno (below4 HB.out (w.heap.size + 1) (by omega) _ _ _ _))
end Go.Proofs.YtookojgemipakaaDoor.Evl
