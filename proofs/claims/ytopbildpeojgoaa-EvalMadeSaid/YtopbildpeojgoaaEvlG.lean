/- Texts put together: EvlF, EvlG. -/
import Derived.Test.YtopbildpeojgoaaEvlD
import Derived.Test.YtopbildpeojgoaaTyI
import Derived.Deep.RegionLaw
section
namespace Go.Proofs.Ytopbildpeojgoaa.Evl
open Go.RowKit Go.Proofs.Ytopbildpeojgoaa Go.Proofs.Ytopbildpeojgoaa.Ev Go.Proofs.Ytopbildpeojgoaa.Sch Go.Proofs.Ytopbildpeojgoaa.Ty Go.Proofs.Ytopbildpeojgoaa.Num
set_option linter.unusedVariables false
set_option maxRecDepth 100000
/-- An event, by its contents. -/
structure Evt where
  ty : ByteArray
  key : ByteArray
  t : Int
  q : Int
  vs : List VV
/-- A variable and what it stands for. -/
structure Bn where
  nm : ByteArray
  ev : Evt
def En (w : World) (B : Nat) (v : Value) (es : List Bn) : Prop :=
  ∃ A c, v = .slice A es.length c ∧ es.length ≤ c ∧ c ≤ 9223372036854775807 ∧
    ∀ k (h : k < es.length), ∃ g o vv, A = some ⟨g, o, none⟩ ∧ g < B ∧ w.cell? ⟨g, o + k * 6, none⟩ = some (.string es[k].nm) ∧ w.cell? ⟨g, o + k * 6 + 1, none⟩ = some (.string es[k].ev.ty) ∧ w.cell? ⟨g, o + k * 6 + 2, none⟩ = some (.string es[k].ev.key) ∧ w.cell? ⟨g, o + k * 6 + 3, none⟩ = some (.int .i64 es[k].ev.t) ∧ w.cell? ⟨g, o + k * 6 + 4, none⟩ = some (.int .i64 es[k].ev.q) ∧ w.cell? ⟨g, o + k * 6 + 5, none⟩ = some vv ∧ VL w B vv es[k].ev.vs
theorem En.below {w w' : World} {B B' : Nat} {v : Value} {es : List Bn} (h : En w B v es) (hb : Below B w w') (hB : B ≤ B') : En w' B' v es := by
  obtain ⟨A, c, rfl, h1, h2, h3⟩ := h
  refine ⟨A, c, rfl, h1, h2, fun k hk => ?_⟩
  obtain ⟨g, o, vv, e, hg, c0, c1, c2, c3, c4, c5, hs⟩ := h3 k hk
  exact ⟨g, o, vv, e, by omega, (hb.cell (p := ⟨g, _, none⟩) hg).trans c0, (hb.cell (p := ⟨g, _, none⟩) hg).trans c1, (hb.cell (p := ⟨g, _, none⟩) hg).trans c2, (hb.cell (p := ⟨g, _, none⟩) hg).trans c3, (hb.cell (p := ⟨g, _, none⟩) hg).trans c4, (hb.cell (p := ⟨g, _, none⟩) hg).trans c5, hs.below hb hB⟩
theorem En.zero (w : World) (B : Nat) : En w B (.slice none 0 0) [] := ⟨none, 0, rfl, by simp, by omega, fun k hk => by simp at hk⟩
theorem varEq_any (n ty key : ByteArray) (t q : Int) (vv : Value) (nm : ByteArray) (B : Nat) (w : World) (hc : w.cell? ⟨B, 5, none⟩ = some (.string nm)) (r : Bool) (hr : (n.toList == nm.toList) = r) :
    Calls Try.prog 192 #[.agg #[.string n, .string ty, .string key, .int .i64 t, .int .i64 q, vv], .pointer (some ⟨B, 0, none⟩)] w fun e w' => e = .returned (.bool r) ∧ Below w.heap.size w w' := by
  have hB : B < w.heap.size := World.block_lt_of_cell? w ⟨B, 5, none⟩ hc
  have hne : B ≠ w.heap.size := by omega
  go_enter Try.func192, Try.ntmps192
  go_wp2
  all_goals
    go_ret
    exact ⟨rfl, (Below.refl _ w).alloc (Nat.le_refl _) _⟩
set_option maxHeartbeats 2000000 in
theorem idxB_any (v : Value) (fs : List Bn) (nm : ByteArray) (B : Nat) (w : World) (hf : En w w.heap.size v fs) (hc : w.cell? ⟨B, 5, none⟩ = some (.string nm)) :
    Calls Try.prog 191 #[v, .func (.func 192) #[] #[.pointer (some ⟨B, 0, none⟩)]] w fun e w' => e = .returned (.int .i64 (idx (fs.map Bn.nm) nm)) ∧ Below w.heap.size w w' := by
  have hB : B < w.heap.size := World.block_lt_of_cell? w ⟨B, 5, none⟩ hc
  have HF := Lib.hid hf
  obtain ⟨A, c, rfl, hn, hcm, _⟩ := hf
  have hlen : (fs.map Bn.nm).length = fs.length := by simp
  have HLN := Lib.hid hlen
  have HC := Lib.hid hc
  clear hc hlen
  go_enter Try.func191, Try.ntmps191
  go_wp2
  go_loopw [8] (fun s wr => ∃ k : Nat, k ≤ fs.length ∧ s = .int .i64 k ∧ Hid (Below w.heap.size w wr) ∧ Hid (NoF (fs.map Bn.nm) nm k)) (fun s _ => fs.length - (intOf s).toNat)
  case atStart => exact ⟨0, by omega, rfl, Below.refl _ _, fun _ _ h => absurd h (by omega)⟩
  case round =>
    obtain ⟨k, hk, rfl, hb, hno⟩ := hrel
    by_cases hlt : k < fs.length
    · obtain ⟨A', c', e1, _, _, h3⟩ := HF.out.below hb.out (Nat.le_refl _)
      injection e1 with e1 _ e3
      subst e1 e3
      obtain ⟨g, o, y, rfl, hg, c0, c1, c2, c3, c4, c5, hsl⟩ := h3 k hlt
      obtain ⟨yA, yc, rfl, _, _, _⟩ := hsl
      have hcB : wr.cell? ⟨B, 5, none⟩ = some (.string nm) := (hb.out.cell (p := ⟨B, 5, none⟩) hB).trans HC.out
      have HCB := Lib.hid hcB
      clear hcB h3
      obtain ⟨r, hr⟩ : ∃ r, (fs[k].nm.toList == nm.toList) = r := ⟨_, rfl⟩
      have HR := Lib.hid hr
      have hkl : k < (fs.map Bn.nm).length := by rw [HLN.out]; exact hlt
      have hget : (fs.map Bn.nm)[k]'hkl = fs[k].nm := by simp
      have HG := Lib.hid hget
      clear hr hget
      obtain ⟨x, hx⟩ : ∃ x, fs[k] = x := ⟨_, rfl⟩
      rw [hx] at c0 c1 c2 c3 c4 c5 HR HG
      obtain ⟨xn, xt, xk, xtt, xq, xv⟩ := x
      dsimp only at c0 c1 c2 c3 c4 c5 HR HG
      obtain ⟨yl, hyl⟩ : ∃ yl, yl = xv.length := ⟨_, rfl⟩
      rw [← hyl] at c5
      clear hx hyl
      cases r with
      | true =>
        go_wp2_with (go_at_call 192; refine (varEq_any _ _ _ _ _ _ nm B _ HCB.out true HR.out).mono ?_; rintro e w' ⟨rfl, hb'⟩)
        go_ret
        exact ⟨by rw [idx_hit hkl (by rw [HG.out]; simpa using HR.out) hno.out]; rfl, hb.out.trans (hb'.mono hb.out.size)⟩
      | false =>
        go_wp2_with (go_at_call 192; refine (varEq_any _ _ _ _ _ _ nm B _ HCB.out false HR.out).mono ?_; rintro e w' ⟨rfl, hb'⟩)
        go_roundw
        case rel => exact ⟨k + 1, by omega, by go_num, hb.out.trans (hb'.mono hb.out.size), hno.out.succ hkl (by rw [HG.out]; exact HR.out)⟩
        case measure => simp [intOf]; omega
    · have hk' : k = fs.length := by omega
      subst hk'
      clear hlt
      go_wp2
      go_ret
      exact ⟨by rw [idx_miss (fun j hj => hno.out j hj (by rw [HLN.out] at hj; exact hj))]; rfl, hb.out⟩
/-- An event's field. -/
def getM (ts : List Ty) (e : Evt) (f : ByteArray) : Option VV := if (fieldS ts e.ty f).1 < 0 then none else e.vs[(fieldS ts e.ty f).1.toNat]?
theorem res_ev {w X : World} {ev : Array Value} (h : Below (w.heap.size + 1 + 1) ((w.alloc (.cells ev 42)).alloc (.cells #[.int .i64 0, .int .i64 0, .string ⟨#[]⟩, .bool false] 57)) X) : Rz X (w.heap.size + 1) ∧ Row X w.heap.size 42 ev :=
  ⟨Row.below (by simpa using Row.made (w.alloc (.cells ev 42)) 57 #[.int .i64 0, .int .i64 0, .string ⟨#[]⟩, .bool false]) h (by omega), Row.below ((Row.made w _ _).alloc _) h (by omega)⟩
set_option maxHeartbeats 4000000 in
theorem get_any (p : Option Addr) (ts : List Ty) (ty key : ByteArray) (t q : Int) (vs : List VV) (vv : Value) (f : ByteArray) (w : World) (hs : Sc w w.heap.size p ts) (hv : VL w w.heap.size vv vs) :
    Calls Try.prog 193 #[.pointer p, .agg #[.string ty, .string key, .int .i64 t, .int .i64 q, vv], .string f] w (RPost w (getM ts ⟨ty, key, t, q, vs⟩ f)) := by
  have HV := Lib.hid hv
  obtain ⟨A, c, rfl, h1, h2, h3⟩ := hv
  have hX : Below w.heap.size w ((w.alloc (.cells #[.string ty, .string key, .int .i64 t, .int .i64 q, .slice A vs.length c] 42)).alloc (.cells #[.int .i64 0, .int .i64 0, .string ⟨#[]⟩, .bool false] 57)) := ((Below.refl _ w).alloc (Nat.le_refl _) _).alloc (by simp) _
  have HX := Lib.hid hX
  obtain ⟨x, hx⟩ : ∃ x, fieldS ts ty f = x := ⟨_, rfl⟩
  have HF := Lib.hid (fieldS_any p ts ty f _ (hs.below hX hX.size))
  rw [hx] at HF
  obtain ⟨px, kx⟩ := x
  obtain ⟨r, hr⟩ : ∃ r, getM ts ⟨ty, key, t, q, vs⟩ f = r := ⟨_, rfl⟩
  rw [hr]
  unfold getM at hr
  dsimp only at hr HF
  rw [hx] at hr
  dsimp only at hr
  have HR := Lib.hid hr
  have HZ : Hid (∀ X, Below ((w.alloc (.cells #[.string ty, .string key, .int .i64 t, .int .i64 q, .slice A vs.length c] 42)).alloc (.cells #[.int .i64 0, .int .i64 0, .string ⟨#[]⟩, .bool false] 57)).heap.size ((w.alloc (.cells #[.string ty, .string key, .int .i64 t, .int .i64 q, .slice A vs.length c] 42)).alloc (.cells #[.int .i64 0, .int .i64 0, .string ⟨#[]⟩, .bool false] 57)) X → Rz X (w.heap.size + 1) ∧ Row X w.heap.size 42 #[.string ty, .string key, .int .i64 t, .int .i64 q, .slice A vs.length c]) := Lib.hid (fun X h => res_ev (h.mono (by simp)))
  have HH3 := Lib.hid h3
  clear hs hX hr hx h3
  go_enter Try.func193, Try.ntmps193
  go_wp2_with fail
  refine HF.out.mono ?_
  rintro e w1 ⟨rfl, hb1⟩
  have HB := Lib.hid (HX.out.trans (hb1.mono HX.out.size))
  have HZ1 := Lib.hid (HZ.out _ hb1).1
  have HE1 := (HZ.out _ hb1).2
  have e4 : w1.cell? ⟨w.heap.size, 4, none⟩ = some (.slice A vs.length c) := (HE1.cell 4).trans rfl
  obtain ⟨hlt1, p10, p11, p12, p13, f10, f11, f12, f13⟩ := HZ1.out.facts
  clear hb1 HX HZ HF HE1
  by_cases hp : px < 0
  · have hno : r = none := by rw [← HR.out, if_pos hp]
    go_wp2
    obtain ⟨k0, k1, k2, k3⟩ := four (put4 HZ1.out (.int .i64 0) (.int .i64 0) (.string ⟨#[]⟩) (.bool false))
    exact bodyPost_ret (v := .tuple #[.agg #[.int .i64 0, .int .i64 0, .string ⟨#[]⟩, .bool false], .bool false]) (by simp [results, Try.results193, go_sem, k0, k1, k2, k3]; try rfl) rfl (rpost_no hno (below4 HB.out (w.heap.size + 1) (by omega) _ _ _ _))
  · obtain ⟨k, rfl⟩ : ∃ k : Nat, px = k := ⟨px.toNat, by omega⟩
    have hy := HR.out
    rw [if_neg hp, Int.toNat_natCast] at hy
    by_cases hk : k < vs.length
    · obtain ⟨g, o, rfl, hg, hc⟩ := HH3.out k hk
      have hki : (k : Int) < (vs.length : Int) := by omega
      rw [List.getElem?_eq_getElem hk] at hy
      obtain ⟨⟨yk, yi, ys, yb⟩, hyy⟩ : ∃ y, vs[k] = y := ⟨_, rfl⟩
      rw [hyy] at hy hc
      have c0 := (HB.out.cell (p := ⟨g, o + k * 4 + 0, none⟩) hg).trans (hc 0 _ rfl)
      have c1 := (HB.out.cell (p := ⟨g, o + k * 4 + 1, none⟩) hg).trans (hc 1 _ rfl)
      have c2 := (HB.out.cell (p := ⟨g, o + k * 4 + 2, none⟩) hg).trans (hc 2 _ rfl)
      have c3 := (HB.out.cell (p := ⟨g, o + k * 4 + 3, none⟩) hg).trans (hc 3 _ rfl)
      simp only [Nat.add_zero] at c0
      dsimp only at c0 c1 c2 c3
      have hyes : r = some ⟨yk, yi, ys, yb⟩ := hy.symm
      have hk9 : k ≤ 9223372036854775807 := by omega
      clear hc hy hyy
      go_wp2
      obtain ⟨k0, k1, k2, k3⟩ := four (put4 HZ1.out (.int .i64 yk) (.int .i64 yi) (.string ys) (.bool yb))
      exact bodyPost_ret (v := .tuple #[.agg #[.int .i64 yk, .int .i64 yi, .string ys, .bool yb], .bool true]) (by simp [results, Try.results193, go_sem, k0, k1, k2, k3]; try rfl) rfl (rpost_yes hyes (below4 HB.out (w.heap.size + 1) (by omega) _ _ _ _))
    · have hki : ¬ (k : Int) < (vs.length : Int) := by omega
      rw [List.getElem?_eq_none (by omega)] at hy
      have hno : r = none := hy.symm
      clear hy
      go_wp2
      obtain ⟨k0, k1, k2, k3⟩ := four (put4 HZ1.out (.int .i64 0) (.int .i64 0) (.string ⟨#[]⟩) (.bool false))
      exact bodyPost_ret (v := .tuple #[.agg #[.int .i64 0, .int .i64 0, .string ⟨#[]⟩, .bool false], .bool false]) (by simp [results, Try.results193, go_sem, k0, k1, k2, k3]; try rfl) rfl (rpost_no hno (below4 HB.out (w.heap.size + 1) (by omega) _ _ _ _))
end Go.Proofs.Ytopbildpeojgoaa.Evl
end

section
namespace Go.Proofs.Ytopbildpeojgoaa.Evl
open Go.RowKit Go.Proofs.Ytopbildpeojgoaa Go.Proofs.Ytopbildpeojgoaa.Ev Go.Proofs.Ytopbildpeojgoaa.Sch Go.Proofs.Ytopbildpeojgoaa.Ty Go.Proofs.Ytopbildpeojgoaa.Num
set_option linter.unusedVariables false
set_option maxRecDepth 100000
def fldM (ts : List Ty) (es : List Bn) (v f : ByteArray) : Option VV := match es[(idx (es.map Bn.nm) v).toNat]? with
  | none => none
  | some b => if idx (es.map Bn.nm) v < 0 then none else getM ts b.ev f
theorem fldM_no {ts : List Ty} {es : List Bn} {v f : ByteArray} (h : idx (es.map Bn.nm) v < 0) : fldM ts es v f = none := by
  unfold fldM
  split
  · rfl
  · rw [if_pos h]
theorem fldM_at {ts : List Ty} {es : List Bn} {v f : ByteArray} {i : Nat} {b : Bn} (h : idx (es.map Bn.nm) v = i) (hb : es[i]? = some b) : fldM ts es v f = getM ts b.ev f := by
  unfold fldM
  rw [h, Int.toNat_natCast, hb]
  dsimp only
  rw [if_neg (by omega)]
set_option maxHeartbeats 4000000 in
theorem field_any (p : Option Addr) (ts : List Ty) (en : Value) (es : List Bn) (v f : ByteArray) (w : World) (hs : Sc w w.heap.size p ts) (he : En w w.heap.size en es) :
    Calls Try.prog 152 #[.pointer p, en, .agg #[.int .i64 2, .int .i64 0, .int .i64 0, .string ⟨#[]⟩, .bool false, .string v, .string f]] w (RPost w (fldM ts es v f)) := by
  have hX : Below w.heap.size w ((w.alloc (.cells #[.int .i64 2, .int .i64 0, .int .i64 0, .string ⟨#[]⟩, .bool false, .string v, .string f] 86)).alloc (.cells #[.int .i64 0, .int .i64 0, .string ⟨#[]⟩, .bool false] 57)) := ((Below.refl _ w).alloc (Nat.le_refl _) _).alloc (by simp) _
  have hrow : Row ((w.alloc (.cells #[.int .i64 2, .int .i64 0, .int .i64 0, .string ⟨#[]⟩, .bool false, .string v, .string f] 86)).alloc (.cells #[.int .i64 0, .int .i64 0, .string ⟨#[]⟩, .bool false] 57)) w.heap.size 86 #[.int .i64 2, .int .i64 0, .int .i64 0, .string ⟨#[]⟩, .bool false, .string v, .string f] := (Row.made w _ _).alloc _
  obtain ⟨q, hq⟩ : ∃ q, idx (es.map Bn.nm) v = q := ⟨_, rfl⟩
  have HI := Lib.hid (idxB_any en es v w.heap.size _ (he.below hX hX.size) ((hrow.cell 5).trans rfl))
  rw [hq] at HI
  have HX := Lib.hid hX
  have HZ : Hid (∀ X, Below ((w.alloc (.cells #[.int .i64 2, .int .i64 0, .int .i64 0, .string ⟨#[]⟩, .bool false, .string v, .string f] 86)).alloc (.cells #[.int .i64 0, .int .i64 0, .string ⟨#[]⟩, .bool false] 57)).heap.size ((w.alloc (.cells #[.int .i64 2, .int .i64 0, .int .i64 0, .string ⟨#[]⟩, .bool false, .string v, .string f] 86)).alloc (.cells #[.int .i64 0, .int .i64 0, .string ⟨#[]⟩, .bool false] 57)) X → Rz X (w.heap.size + 1)) := Lib.hid (fun X h => res_any (h.mono (by simp)))
  have HRow := Lib.hid hrow
  have HS := Lib.hid hs
  have HQ := Lib.hid hq
  obtain ⟨r, hr⟩ : ∃ r, fldM ts es v f = r := ⟨_, rfl⟩
  rw [hr]
  have HR := Lib.hid hr
  obtain ⟨A, c, rfl, hn, hcm, h3⟩ := he
  have HH3 := Lib.hid h3
  clear hX hrow hs hq hr h3
  go_enter Try.func152, Try.ntmps152
  go_wp2_with fail
  refine HI.out.mono ?_
  rintro e w1 ⟨rfl, hb1⟩
  have HB := Lib.hid (HX.out.trans (hb1.mono HX.out.size))
  have HZ1 := Lib.hid (HZ.out _ hb1)
  have HR1 := Lib.hid (HRow.out.below hb1 HRow.out.lt)
  clear hb1 HX HZ HI HRow
  by_cases hq0 : q < 0
  · have hno : r = none := by rw [← HR.out]; exact fldM_no (by rw [HQ.out]; exact hq0)
    obtain ⟨hlt1, p10, p11, p12, p13, f10, f11, f12, f13⟩ := HZ1.out.facts
    go_wp2
    obtain ⟨k0, k1, k2, k3⟩ := four (put4 HZ1.out (.int .i64 0) (.int .i64 0) (.string ⟨#[]⟩) (.bool false))
    exact bodyPost_ret (v := .tuple #[.agg #[.int .i64 0, .int .i64 0, .string ⟨#[]⟩, .bool false], .bool false]) (by simp [results, Try.results152, go_sem, k0, k1, k2, k3]; try rfl) rfl (rpost_no hno (below4 HB.out (w.heap.size + 1) (by omega) _ _ _ _))
  · obtain ⟨i, rfl⟩ : ∃ i : Nat, q = i := ⟨q.toNat, by omega⟩
    have hil : i < es.length := by have := (idx_lt (l := es.map Bn.nm) (nm := v)).1; rw [HQ.out, List.length_map] at this; omega
    have hy : getM ts (es[i]).ev f = r := by rw [← HR.out]; exact (fldM_at HQ.out (List.getElem?_eq_getElem hil)).symm
    obtain ⟨g, o, vv, rfl, hg, c0, c1, c2, c3, c4, c5, hvl⟩ := HH3.out i hil
    obtain ⟨⟨en, ety, ek, et, eq, ev⟩, hx⟩ : ∃ x, es[i] = x := ⟨_, rfl⟩
    rw [hx] at hy c1 c2 c3 c4 hvl
    dsimp only at hy c1 c2 c3 c4 hvl
    have k1 := (HB.out.cell (p := ⟨g, o + i * 6 + 1, none⟩) hg).trans c1
    have k2 := (HB.out.cell (p := ⟨g, o + i * 6 + 1 + 1, none⟩) hg).trans c2
    have k3 := (HB.out.cell (p := ⟨g, o + i * 6 + 1 + 2, none⟩) hg).trans c3
    have k4 := (HB.out.cell (p := ⟨g, o + i * 6 + 1 + 3, none⟩) hg).trans c4
    have k5 := (HB.out.cell (p := ⟨g, o + i * 6 + 1 + 4, none⟩) hg).trans c5
    have k6 : w1.cell? ⟨w.heap.size, 6, none⟩ = some (.string f) := (HR1.out.cell 6).trans rfl
    have hilz : (i : Int) < (es.length : Int) := by omega
    have hi63 : i ≤ 9223372036854775807 := by omega
    have HG : Hid (∀ X, Below w1.heap.size w1 X → Calls Try.prog 193 #[.pointer p, .agg #[.string ety, .string ek, .int .i64 et, .int .i64 eq, vv], .string f] X (RPost X r)) := Lib.hid (fun X hX => by
      have hw : Below w.heap.size w X := HB.out.trans (hX.mono HB.out.size)
      rw [← hy]
      exact get_any p ts ety ek et eq ev vv f X (HS.out.below hw hw.size) (hvl.below hw hw.size))
    obtain ⟨⟨rk, ri, rs, rb⟩, hq⟩ : ∃ x, r.getD zeroV = x := ⟨_, rfl⟩
    obtain ⟨ro, hro⟩ : ∃ x, r.isSome = x := ⟨_, rfl⟩
    have HP : Hid (∀ X, Below w.heap.size w X → RPost w r (.returned (.tuple #[.agg #[.int .i64 rk, .int .i64 ri, .string rs, .bool rb], .bool ro])) X) := Lib.hid (fun X h => ⟨by rw [hq, hro]; rfl, h⟩)
    unfold RPost at HG
    rw [hq, hro] at HG
    obtain ⟨vA, vc, rfl, hv1, hv2, hv3⟩ := hvl
    clear hv1 hv2 hv3 c0 c1 c2 c3 c4 c5 hx hy hq hro
    go_upto_region 4 with fail
    go_region_law (
      (go_simp
       go_at_call 193
       refine (HG.out _ (by go_grown)).mono ?_
       rintro e w2 ⟨rfl, hb2⟩
       have hb3 : Below w1.heap.size w1 w2 := (show Below w1.heap.size w1 _ from by go_grown).trans (hb2.mono (show Below w1.heap.size w1 _ from by go_grown).size)
       have HB2 := Lib.hid (HB.out.trans (hb3.mono HB.out.size))
       have HZ2 : Hid (Rz w2 (w.heap.size + 1)) := Lib.hid (Row.below HZ1.out hb3 HZ1.out.lt)
       obtain ⟨hlt1, p10, p11, p12, p13, f10, f11, f12, f13⟩ := HZ2.out.facts
       unfold VV.agg
       dsimp only
       clear hb2 hb3))
    all_goals
      go_wp2
      obtain ⟨k0, k1, k2, k3⟩ := four (put4 HZ2.out (.int .i64 rk) (.int .i64 ri) (.string rs) (.bool rb))
      exact bodyPost_ret (v := .tuple #[.agg #[.int .i64 rk, .int .i64 ri, .string rs, .bool rb], .bool ro]) (by simp [results, Try.results152, go_sem, k0, k1, k2, k3]; try rfl) rfl (HP.out _ (below4 HB2.out (w.heap.size + 1) (by omega) _ _ _ _))
set_option maxHeartbeats 4000000 in
theorem part_fld (p : Option Addr) (ts : List Ty) (en : Value) (es : List Bn) (v f : ByteArray) (of : Value) (w : World) (hs : Sc w w.heap.size p ts) (he : En w w.heap.size en es) :
    Calls Try.prog 93 #[.pointer p, en, .agg #[.int .i64 2, .int .i64 0, .int .i64 0, .string ⟨#[]⟩, .bool false, .string v, .string f], of] w (RPost w (fldM ts es v f)) := by
  have hX : Below w.heap.size w ((w.alloc (.cells #[.int .i64 2, .int .i64 0, .int .i64 0, .string ⟨#[]⟩, .bool false, .string v, .string f] 86)).alloc (.cells #[.int .i64 0, .int .i64 0, .string ⟨#[]⟩, .bool false] 57)) := ((Below.refl _ w).alloc (Nat.le_refl _) _).alloc (by simp) _
  have HX := Lib.hid hX
  have HC := Lib.hid (field_any p ts en es v f _ (hs.below hX hX.size) (he.below hX hX.size))
  have HZ : Hid (∀ X, Below ((w.alloc (.cells #[.int .i64 2, .int .i64 0, .int .i64 0, .string ⟨#[]⟩, .bool false, .string v, .string f] 86)).alloc (.cells #[.int .i64 0, .int .i64 0, .string ⟨#[]⟩, .bool false] 57)).heap.size ((w.alloc (.cells #[.int .i64 2, .int .i64 0, .int .i64 0, .string ⟨#[]⟩, .bool false, .string v, .string f] 86)).alloc (.cells #[.int .i64 0, .int .i64 0, .string ⟨#[]⟩, .bool false] 57)) X → Rz X (w.heap.size + 1)) := Lib.hid (fun X h => res_any (h.mono (by simp)))
  obtain ⟨r, hr⟩ : ∃ r, fldM ts es v f = r := ⟨_, rfl⟩
  rw [hr] at HC ⊢
  obtain ⟨⟨rk, ri, rs, rb⟩, hq⟩ : ∃ x, r.getD zeroV = x := ⟨_, rfl⟩
  obtain ⟨ro, hro⟩ : ∃ x, r.isSome = x := ⟨_, rfl⟩
  have HR : Hid (∀ X, Below w.heap.size w X → RPost w r (.returned (.tuple #[.agg #[.int .i64 rk, .int .i64 ri, .string rs, .bool rb], .bool ro])) X) := Lib.hid (fun X h => ⟨by rw [hq, hro]; rfl, h⟩)
  unfold RPost at HC
  rw [hq, hro] at HC
  obtain ⟨A, c, rfl, hx1, hx2, hx3⟩ := he
  clear hx1 hx2 hx3 hX hr hq hro hs
  go_enter Try.func93, Try.ntmps93
  go_wp2_with fail
  refine HC.out.mono ?_
  rintro e w1 ⟨rfl, hb1⟩
  have HB := Lib.hid (HX.out.trans (hb1.mono HX.out.size))
  have HZ1 := Lib.hid (HZ.out _ hb1)
  obtain ⟨hlt1, p10, p11, p12, p13, f10, f11, f12, f13⟩ := HZ1.out.facts
  unfold VV.agg
  dsimp only
  clear hb1 HX HZ HC
  go_wp2
  obtain ⟨k0, k1, k2, k3⟩ := four (put4 HZ1.out (.int .i64 rk) (.int .i64 ri) (.string rs) (.bool rb))
  exact bodyPost_ret (v := .tuple #[.agg #[.int .i64 rk, .int .i64 ri, .string rs, .bool rb], .bool ro]) (by simp [results, Try.results93, go_sem, k0, k1, k2, k3]; try rfl) rfl (HR.out _ (below4 HB.out (w.heap.size + 1) (by omega) _ _ _ _))
set_option maxHeartbeats 2000000 in
theorem part_con (p : Option Addr) (en : Value) (k i : Int) (s : ByteArray) (b : Bool) (of : Value) (w : World) :
    Calls Try.prog 93 #[.pointer p, en, .agg #[.int .i64 1, .int .i64 k, .int .i64 i, .string s, .bool b, .string ⟨#[]⟩, .string ⟨#[]⟩], of] w (RPost w (some ⟨k, i, s, b⟩)) := by
  go_enter Try.func93, Try.ntmps93
  go_wp2
  exact bodyPost_ret (v := .tuple #[.agg #[.int .i64 k, .int .i64 i, .string s, .bool b], .bool true]) (by simp [results, Try.results93, go_sem]; try rfl) rfl (rpost_yes rfl (((Below.refl _ w).alloc (Nat.le_refl _) _).alloc (by simp) _))
end Go.Proofs.Ytopbildpeojgoaa.Evl
end
