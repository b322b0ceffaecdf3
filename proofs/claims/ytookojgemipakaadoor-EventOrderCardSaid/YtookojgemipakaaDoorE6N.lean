/- Lists of events by their contents; ref03.SameAll. -/
import Derived.Test.YtookojgemipakaaDoorE6M
namespace Go.Proofs.YtookojgemipakaaDoor.E6
open Go.RowKit Go.Proofs.YtookojgemipakaaDoor Go.Proofs.YtookojgemipakaaDoor.Ev Go.Proofs.YtookojgemipakaaDoor.Evl Go.Proofs.YtookojgemipakaaDoor.E4
set_option linter.unusedVariables false
set_option maxRecDepth 100000
/-- Events as they lie in memory, by their contents. -/
def EL (w : World) (v : Value) (C : List Ec) : Prop := ∃ A c, v = .slice A C.length c ∧ C.length ≤ c ∧ c ≤ 9223372036854775807 ∧ ∀ k x, C[k]? = some x → ∃ g o Av nv cv, A = some ⟨g, o, none⟩ ∧ g < w.heap.size ∧
  (w.cell? ⟨g, o + k * 5, none⟩ = some (.string x.ty) ∧ w.cell? ⟨g, o + k * 5 + 1, none⟩ = some (.string x.key) ∧ w.cell? ⟨g, o + k * 5 + 2, none⟩ = some (.int .i64 x.t) ∧ w.cell? ⟨g, o + k * 5 + 3, none⟩ = some (.int .i64 x.q) ∧ w.cell? ⟨g, o + k * 5 + 4, none⟩ = some (.slice Av nv cv)) ∧ VL w w.heap.size (.slice Av nv cv) x.vs
theorem EL.below {w w' : World} {v : Value} {C : List Ec} (h : EL w v C) (hb : Below w.heap.size w w') : EL w' v C := by
  obtain ⟨A, c, rfl, h1, h2, h3⟩ := h
  refine ⟨A, c, rfl, h1, h2, fun k x hx => ?_⟩
  obtain ⟨g, o, Av, nv, cv, e, hg, ⟨c0, c1, c2, c3, c4⟩, hv⟩ := h3 k x hx
  exact ⟨g, o, Av, nv, cv, e, Nat.lt_of_lt_of_le hg hb.size, ⟨(hb.cell (p := ⟨g, _, none⟩) hg).trans c0, (hb.cell (p := ⟨g, _, none⟩) hg).trans c1, (hb.cell (p := ⟨g, _, none⟩) hg).trans c2, (hb.cell (p := ⟨g, _, none⟩) hg).trans c3, (hb.cell (p := ⟨g, _, none⟩) hg).trans c4⟩, hv.below hb hb.size⟩
/-- What a thing in memory is by its contents. -/
def Cr (w : World) (r : Rc) (c : Ec) : Prop := (r.ty = c.ty ∧ r.key = c.key ∧ r.t = c.t ∧ r.q = c.q) ∧ VL w w.heap.size (.slice r.A r.n r.c) c.vs
theorem cr_bef {w : World} {x y : Rc} {a c : Ec} (h : Cr w x a) (g : Cr w y c) : x.bef y = a.bef c := by
  unfold Rc.bef Ec.bef
  rw [h.1.2.2.1, h.1.2.2.2, g.1.2.2.1, g.1.2.2.2]
theorem el_dl {w : World} {g o n c : Nat} {R : List Rc} {C : List Ec} (h : DL w g o R) (hg : g < w.heap.size) (hn : R.length = n) (hc : n ≤ c) (hc9 : c ≤ 9223372036854775807) (ha : Alike (Cr w) R C) : EL w (.slice (some ⟨g, o, none⟩) n c) C := by
  have hl : C.length = n := by rw [← ha.len]; exact hn
  refine ⟨_, c, by rw [hl], by rw [hl]; exact hc, hc9, fun k x hx => ?_⟩
  have hk : k < R.length := by rw [ha.len]; exact (List.getElem?_eq_some_iff.1 hx).1
  have hr : R[k]? = some R[k] := List.getElem?_eq_getElem hk
  obtain ⟨⟨e1, e2, e3, e4⟩, hv⟩ := ha.get k _ _ hr hx
  obtain ⟨c0, c1, c2, c3, c4⟩ := h.at hr
  rw [e1] at c0
  rw [e2] at c1
  rw [e3] at c2
  rw [e4] at c3
  exact ⟨g, o, _, _, _, rfl, hg, ⟨c0, c1, c2, c3, c4⟩, hv⟩
theorem el_nil {w : World} {A : Option Addr} {c : Nat} (hc : c ≤ 9223372036854775807) : EL w (.slice A 0 c) [] := ⟨A, c, rfl, Nat.zero_le _, hc, fun k x hx => by simp at hx⟩
/-- What was made, as it lies, by its contents. -/
theorem evs_cr {w0 w : World} {v : Value} {es : List EM} (h : EVS w0 w v es) : Alike (Cr w) (es.map rcE) (es.map conE) := by
  have all : ∀ e ∈ es, Cr w (rcE e) (conE e) := fun e he => by
    obtain ⟨k, hk, rfl⟩ := List.getElem_of_mem he
    obtain ⟨_, _, _, _, _, _, _, _, hr, hl⟩ := EVS.elem h hk rfl
    exact ⟨⟨rfl, rfl, rfl, rfl⟩, vl_row (L := es[k].vs) (n := es[k].vs.length) hr (by simp) rfl (by omega)⟩
  clear h
  induction es with
  | nil => exact .nil
  | cons e r ih => exact .cons (all e (by simp)) (ih fun e he => all e (by simp [he]))
theorem Cr.below {w w' : World} {r : Rc} {c : Ec} (h : Cr w r c) (hb : Below w.heap.size w w') : Cr w' r c := ⟨h.1, h.2.below hb hb.size⟩
/-- What was made, as a list by its contents. -/
theorem evs_el {w0 w : World} {v : Value} {es : List EM} (h : EVS w0 w v es) : EL w v (es.map conE) := by
  obtain ⟨ob, hs, _, _⟩ := h.sg
  obtain ⟨A, c, rfl, hc1, hc2⟩ := hs.form
  refine ⟨A, c, by rw [List.length_map], by rw [List.length_map]; exact hc1, by unfold maxLen at hc2; omega, fun k x hx => ?_⟩
  have hk : k < es.length := by have := (List.getElem?_eq_some_iff.1 hx).1; rwa [List.length_map] at this
  obtain ⟨g, o, c', e, _, _, hg, hcs, hr, hl⟩ := EVS.elem h hk rfl
  injection e with e _ _
  subst e
  rw [List.getElem?_map, List.getElem?_eq_getElem hk] at hx
  cases hx
  exact ⟨g, o, _, _, _, rfl, hg, hcs, vl_row (L := es[k].vs) (n := es[k].vs.length) hr (by simp) rfl (by omega)⟩
/-- Both sorts come to one. -/
theorem srt_el {w w' : World} {es : List EM} {n : Nat} {e : Ending} (hn : es.length = n) (h : SrtEnd w es n e w') : ∃ v, e = .returned v ∧ EL w' v (isortG Ec.bef (es.map conE)) ∧ Below w.heap.size w w' := by
  obtain ⟨g, o, c, R, rfl, h1, h2, hd, hl, ha, hb, hg, _⟩ := h
  exact ⟨_, rfl, el_dl hd hg hl h1 h2 (ha.mono fun x y h => ⟨h.1, h.vl⟩), hb⟩
theorem rs_el {w0 w w' : World} {v : Value} {es : List EM} {n : Nat} {e : Ending} (hv : EVS w0 w v es) (hn : es.length = n) (h : RsEnd w (es.map rcE) n e w') : ∃ v, e = .returned v ∧ EL w' v (isortG Ec.bef (es.map conE)) ∧ Below w.heap.size w w' := by
  obtain ⟨v3, rfl, hb, ob, hs, _⟩ := h
  refine ⟨v3, rfl, ?_, hb⟩
  have hcr := (evs_cr hv).mono (fun x y h => h.below hb)
  have ha := isortG_alike (R := Cr w') (b := Rc.bef) (b' := Ec.bef) (fun x y x' y' h1 h2 => cr_bef h1 h2) hcr
  rw [List.take_of_length_le (by rw [List.length_map]; omega), isort_eq] at hs
  have hL : (isortG Rc.bef (es.map rcE)).length = n := by rw [← isort_eq, isort_len, List.length_map]; exact hn
  rcases Nat.eq_zero_or_pos n with h0 | h0
  · obtain ⟨A, c, rfl, _, hc⟩ := hs.form
    have hz : isortG Ec.bef (es.map conE) = [] := List.length_eq_zero_iff.1 (by rw [← ha.len, hL]; exact h0)
    rw [hz, h0]
    exact el_nil (by unfold maxLen at hc; omega)
  · obtain ⟨g, o, c, rfl, rfl, h1, h2, hd⟩ := seg_at hs h0
    exact el_dl hd (hs.lt g rfl) hL h1 h2 ha
theorem eqVs_refl : ∀ L : List VV, eqVs L L = true
  | [] => rfl
  | x :: r => by unfold eqVs; rw [eqVs_refl r]; simp [eqV]
theorem sameE_refl (ty key : ByteArray) (t q : Int) (L : List VV) : sameE ty key t q L ty key t q L = true := by unfold sameE; simp [eqVs_refl]
set_option maxHeartbeats 4000000 in
theorem sameall_yes (v1 v2 : Value) (C : List Ec) (w : World) (h : EL w v1 C) (g : EL w v2 C) :
    Calls Tryd.prog 14 #[v1, v2] w fun e w' => e = .returned (.bool true) ∧ Below w.heap.size w w' := by
  have H := Lib.hid h
  have G := Lib.hid g
  obtain ⟨A, c, rfl, hc1, hc2, _⟩ := h
  obtain ⟨B, d, rfl, hd1, hd2, _⟩ := g
  obtain ⟨n, hn⟩ : ∃ n, C.length = n := ⟨_, rfl⟩
  rw [hn] at H G hc1 hd1 ⊢
  have HN := Lib.hid hn
  clear hn
  have hnn2 : ((n : Int) != (n : Int)) = false := by simp
  go_enter Tryd.func14, Tryd.ntmps14
  go_wp2
  go_loopw [5, 4] (fun v s4 wr => ∃ k : Nat, k ≤ n ∧ v = .int .i64 k ∧ Hid (Below w.heap.size w wr)) (fun v _ _ => n - (intOf v).toNat)
  case atStart => exact ⟨0, by omega, rfl, Below.refl _ _⟩
  case round =>
    obtain ⟨k, hk, rfl, hb⟩ := hrel
    by_cases hlt : k < n
    · have hki : (k : Int) < (n : Int) := by omega
      have hkC : k < C.length := by rw [HN.out]; exact hlt
      obtain ⟨x, hx⟩ : ∃ x, C[k]? = some x := ⟨C[k], List.getElem?_eq_getElem hkC⟩
      obtain ⟨A', c', e1, _, _, h3⟩ := H.out.below hb.out
      injection e1 with e1 em e1'
      subst e1 e1'
      clear em
      obtain ⟨B', d', e2, _, _, g3⟩ := G.out.below hb.out
      injection e2 with e2 em e2'
      subst e2 e2'
      clear em
      obtain ⟨g1, o1, A1, n1, c1, rfl, hg1, ⟨p0, p1, p2, p3, p4⟩, hv1⟩ := h3 k x hx
      obtain ⟨g2, o2, A2, n2, c2, rfl, hg2, ⟨q0, q1, q2, q3, q4⟩, hv2⟩ := g3 k x hx
      have hS : ∀ X, Below wr.heap.size wr X → X.cell? ⟨g1, o1 + k * 5, none⟩ = some (.string x.ty) ∧ X.cell? ⟨g1, o1 + k * 5 + 1, none⟩ = some (.string x.key) ∧ X.cell? ⟨g1, o1 + k * 5 + 2, none⟩ = some (.int .i64 x.t) ∧ X.cell? ⟨g1, o1 + k * 5 + 3, none⟩ = some (.int .i64 x.q) ∧ X.cell? ⟨g1, o1 + k * 5 + 4, none⟩ = some (.slice A1 n1 c1) ∧ X.cell? ⟨g2, o2 + k * 5, none⟩ = some (.string x.ty) ∧ X.cell? ⟨g2, o2 + k * 5 + 1, none⟩ = some (.string x.key) ∧ X.cell? ⟨g2, o2 + k * 5 + 2, none⟩ = some (.int .i64 x.t) ∧ X.cell? ⟨g2, o2 + k * 5 + 3, none⟩ = some (.int .i64 x.q) ∧ X.cell? ⟨g2, o2 + k * 5 + 4, none⟩ = some (.slice A2 n2 c2) := fun X hX =>
        ⟨(hX.cell (p := ⟨g1, _, none⟩) hg1).trans p0, (hX.cell (p := ⟨g1, _, none⟩) hg1).trans p1, (hX.cell (p := ⟨g1, _, none⟩) hg1).trans p2, (hX.cell (p := ⟨g1, _, none⟩) hg1).trans p3, (hX.cell (p := ⟨g1, _, none⟩) hg1).trans p4, (hX.cell (p := ⟨g2, _, none⟩) hg2).trans q0, (hX.cell (p := ⟨g2, _, none⟩) hg2).trans q1, (hX.cell (p := ⟨g2, _, none⟩) hg2).trans q2, (hX.cell (p := ⟨g2, _, none⟩) hg2).trans q3, (hX.cell (p := ⟨g2, _, none⟩) hg2).trans q4⟩
      have HS := Lib.hid hS
      have HSM := Lib.hid (fun (X : World) (hX : Below wr.heap.size wr X) => ref_same x.ty x.key x.ty x.key x.t x.q x.t x.q A1 A2 n1 n2 c1 c2 x.vs x.vs X (hv1.below hX hX.size) (hv2.below hX hX.size))
      rw [sameE_refl] at HSM
      have HB : Hid (Below wr.heap.size wr wr.drew) := (Below.refl _ wr).drew
      clear hx hkC h3 g3 hv1 hv2 hS
      go_upto_region 6 with fail
      go_region_held3 (fun X => X.cell? ⟨g1, o1 + k * 5, none⟩ = some (.string x.ty) ∧ X.cell? ⟨g1, o1 + k * 5 + 1, none⟩ = some (.string x.key) ∧ X.cell? ⟨g1, o1 + k * 5 + 2, none⟩ = some (.int .i64 x.t) ∧ X.cell? ⟨g1, o1 + k * 5 + 3, none⟩ = some (.int .i64 x.q) ∧ X.cell? ⟨g1, o1 + k * 5 + 4, none⟩ = some (.slice A1 n1 c1) ∧ X.cell? ⟨g2, o2 + k * 5, none⟩ = some (.string x.ty) ∧ X.cell? ⟨g2, o2 + k * 5 + 1, none⟩ = some (.string x.key) ∧ X.cell? ⟨g2, o2 + k * 5 + 2, none⟩ = some (.int .i64 x.t) ∧ X.cell? ⟨g2, o2 + k * 5 + 3, none⟩ = some (.int .i64 x.q) ∧ X.cell? ⟨g2, o2 + k * 5 + 4, none⟩ = some (.slice A2 n2 c2))
        (first
          | with_reducible exact ⟨p0, p1, p2, p3, p4, q0, q1, q2, q3, q4⟩
          | with_reducible exact HS.out _ HB.out
          | fail)
        ((first
          | (go_at_call 20
             (with_reducible refine (HSM.out _ HB.out).mono ?_)
             rintro e w3 ⟨rfl, hb⟩
             have h3 := HB.out.trans (hb.mono HB.out.size)
             have HB := Lib.hid h3
             clear hb h3)
          | fail))
      have HB3 := Lib.hid (hb.out.trans (HB.out.mono hb.out.size))
      clear p0 p1 p2 p3 p4 q0 q1 q2 q3 q4 HS HSM
      go_wp2
      go_roundw
      case rel => exact ⟨k + 1, by omega, by go_num, HB3⟩
      case measure => simp [intOf]; omega
    · have hki : ¬ (k : Int) < (n : Int) := by omega
      go_wp2
      go_ret
      exact ⟨rfl, hb.out⟩
end Go.Proofs.YtookojgemipakaaDoor.E6
