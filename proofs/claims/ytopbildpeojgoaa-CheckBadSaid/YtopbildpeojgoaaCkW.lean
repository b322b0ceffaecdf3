/- Texts put together: CkT, CkS, CkU, CkW. -/
import Derived.Test.YtopbildpeojgoaaCkR
section
namespace Go.Proofs.Ytopbildpeojgoaa.Ck
open Go.RowKit Go.Proofs.Ytopbildpeojgoaa Go.Proofs.Ytopbildpeojgoaa.Sch Go.Proofs.Ytopbildpeojgoaa.Ty
set_option linter.unusedVariables false
set_option maxRecDepth 100000
/-- An element ahead of which, and at which, all is as it was: nothing is wrong with it. -/
theorem elem_zero' {es : List Pq.El} {n : Nat} (hg : Pq.Good n es) (hl : es.length ≤ 4) {q : List Qe} {i : Nat} {e : Pq.El} (he : es[i]? = some e) (hag : ∀ j, j ≤ i → q[j]? = (es.map toQ)[j]?) : elemM typesL q i (toQ e) = 0 := by
  have h0 := elem_zero hg hl he
  obtain ⟨hil, hie⟩ := List.getElem?_eq_some_iff.1 he
  have hsc : scopeM q i = scopeM (es.map toQ) i := by
    have key : ∀ m, m ≤ i + 1 → scopeK q i m = scopeK (es.map toQ) i m := by
      intro m
      induction m with
      | zero => intro _; rfl
      | succ m ih =>
        intro hm
        rw [scopeK_succ, scopeK_succ, ih (by omega)]
        unfold scP
        rw [hag m (by omega)]
    have past : ∀ (l : List Qe) d, scopeK l i (i + 1 + d) = scopeK l i (i + 1) := by
      intro l d
      induction d with
      | zero => rfl
      | succ d ih =>
        rw [← Nat.add_assoc, scopeK_succ, ih]
        unfold scP
        split
        · rw [if_neg (by omega), List.append_nil]
        · rw [List.append_nil]
    have hq : i < q.length := by
      have := hag i (Nat.le_refl _)
      rw [List.getElem?_map, he] at this
      exact (List.getElem?_eq_some_iff.1 this).1
    unfold scopeM
    rw [show q.length = i + 1 + (q.length - (i + 1)) by omega, past, show (es.map toQ).length = i + 1 + ((es.map toQ).length - (i + 1)) by simp; omega, past]
    exact key _ (Nat.le_refl _)
  have hlo := hg.lo e (by rw [← hie]; exact List.getElem_mem hil)
  obtain ⟨⟨k, hk⟩, _⟩ := hg.con i e he
  have htl := Pq.tyL_len k
  have hv := hg.var i e he
  have hvn : nameB e.v.data.toList = true := by rw [hv]; exact name_var i
  have hnm : ∀ j (hj : j < (q.map Qe.v).length), j < i → (q.map Qe.v)[j] = Pq.varOf j := fun j hj hji => by
    have hjq : j < q.length := by simpa using hj
    have hje : j < es.length := by omega
    have := hag j (by omega)
    rw [List.getElem?_eq_getElem hjq, List.getElem?_map, List.getElem?_eq_getElem hje] at this
    injection this with this
    rw [List.getElem_map, this]
    exact hg.var j _ (List.getElem?_eq_getElem hje)
  have hge : ¬ idx (q.map Qe.v) e.v < (i : Int) := by
    rw [hv]
    have hin : Pq.varOf i ∈ q.map Qe.v := by
      have := hag i (Nat.le_refl _)
      rw [List.getElem?_map, he] at this
      obtain ⟨hq1, hq2⟩ := List.getElem?_eq_some_iff.1 this
      rw [← hv, show e.v = (q[i]'hq1).v from by rw [hq2]; rfl]
      exact List.mem_map_of_mem (List.getElem_mem hq1)
    obtain ⟨j, hj, hjl⟩ := idx_mem hin
    rcases idx_ge (l := q.map Qe.v) (i := i) (by omega) hnm with h | h
    · exact h
    · rw [hj] at h; omega
  have hof : oftenM e.neg e.mn e.mx = true := by
    unfold oftenM
    cases hb : e.neg with
    | true => simp [hlo.2.2.2 hb]
    | false => simp; omega
  have hty : typesM typesL [] e.ts = 0 := by rw [hk]; exact ty_l k
  have e1 := elem_ok (T := typesL) (es := q) (at' := i) (e := toQ e) hvn (by show 0 < e.ts.length; rw [hk]; omega) (by show e.ts.length ≤ 16; rw [hk]; omega) hge hty hof
  have hnames : (es.map toQ).map Qe.v = es.map Pq.El.v := by rw [List.map_map]; rfl
  have e2 : predM typesL (scopeM (es.map toQ) i) (toQ e).pr = 0 := by
    have hge2 : ¬ idx ((es.map toQ).map Qe.v) e.v < (i : Int) := by
      rw [hv]
      obtain ⟨j, hj, hjl⟩ := idx_mem (l := (es.map toQ).map Qe.v) (nm := Pq.varOf i) (by rw [hnames, ← hv, ← hie]; exact List.mem_map_of_mem (List.getElem_mem hil))
      rcases idx_ge (l := (es.map toQ).map Qe.v) (i := i) (by omega) (fun j hj hji => by
        have hjl : j < es.length := by simpa using hj
        rw [List.getElem_map, List.getElem_map]
        exact hg.var j _ (List.getElem?_eq_getElem hjl)) with h | h
      · exact h
      · rw [hj] at h; omega
    have e3 := elem_ok (T := typesL) (es := es.map toQ) (at' := i) (e := toQ e) hvn (by show 0 < e.ts.length; rw [hk]; omega) (by show e.ts.length ≤ 16; rw [hk]; omega) hge2 hty hof
    rw [← e3]
    exact h0
  rw [e1, hsc, e2]
/-- An element that is not as it was, and what is wrong with it. -/
theorem elems_bad {T : List Ty} {q : List Qe} {k : Nat} {e : Qe} {r : Int} (hk : q[k]? = some e) (hr : elemM T q k e = r) (h0 : ¬ r = 0) (hz : ∀ j x, j < k → q[j]? = some x → elemM T q j x = 0) : elemsM T q q.length 0 = r := by
  have hkl : k < q.length := (List.getElem?_eq_some_iff.1 hk).1
  have key : ∀ m, m ≤ k → elemsM T q q.length 0 = elemsM T q (q.length - m) m := by
    intro m
    induction m with
    | zero => intro _; rfl
    | succ m ih =>
      intro hm
      have hml : m < q.length := by omega
      rw [ih (by omega), show q.length - m = (q.length - (m + 1)) + 1 by omega]
      exact elemsM_ok (List.getElem?_eq_getElem hml) (hz m _ (by omega) (List.getElem?_eq_getElem hml))
  rw [key k (Nat.le_refl _), show q.length - k = (q.length - (k + 1)) + 1 by omega, elemsM_no hk (by rw [hr]; exact h0), hr]
theorem query_bad {es : List Pq.El} (hg : Pq.Good es.length es) (h1 : 1 ≤ es.length) (hl : es.length ≤ 4) {k : Nat} {e : Pq.El} (he : es[k]? = some e) (e' : Qe) (hn : e'.neg = e.neg) (r : Int) (h0 : ¬ r = 0) (hr : elemM typesL ((es.map toQ).set k e') k e' = r) (win cap : Int) : queryM typesL ((es.map toQ).set k e') win cap = r := by
  have hkl : k < es.length := (List.getElem?_eq_some_iff.1 he).1
  have hlen : ((es.map toQ).set k e').length = es.length := by simp
  have hat : ∀ j, j ≠ k → ((es.map toQ).set k e')[j]? = (es.map toQ)[j]? := fun j hj => List.getElem?_set_ne (fun x => hj x.symm)
  have hks : ((es.map toQ).set k e')[k]? = some e' := by rw [List.getElem?_set_self (by simpa using hkl)]
  have hE := elems_bad hks hr h0 (fun j x hj hx => by
    rw [hat j (by omega)] at hx
    obtain ⟨y, hy, rfl⟩ := map_get hx
    exact elem_zero' hg hl hy (fun i hi => hat i (by omega)))
  have hneg : ∀ j y, es[j]? = some y → negAt ((es.map toQ).set k e') j = y.neg := fun j y hy => by
    unfold negAt
    by_cases hjk : j = k
    · subst hjk
      rw [hks]
      rw [he] at hy
      injection hy with hy
      subst hy
      exact hn
    · rw [hat j hjk, List.getElem?_map, hy]
      rfl
  have n0 : negAt ((es.map toQ).set k e') 0 = false := by
    rw [hneg 0 _ (List.getElem?_eq_getElem (by omega))]
    cases hb : es[0].neg with
    | false => rfl
    | true => exact absurd (hg.neg 0 _ (List.getElem?_eq_getElem (by omega)) hb).1 (by omega)
  have nl : negAt ((es.map toQ).set k e') (es.length - 1) = false := by
    rw [hneg (es.length - 1) _ (List.getElem?_eq_getElem (by omega))]
    cases hb : es[es.length - 1].neg with
    | false => rfl
    | true => exact absurd (hg.neg (es.length - 1) _ (List.getElem?_eq_getElem (by omega)) hb).2 (by omega)
  unfold queryM
  rw [hE, hlen, if_neg (by omega), if_neg (fun h => h.elim (fun h => by omega) (fun h => h.elim (fun h => by rw [n0] at h; cases h) (fun h => by rw [nl] at h; cases h))), if_pos h0]
end Go.Proofs.Ytopbildpeojgoaa.Ck
end

section
namespace Go.Proofs.Ytopbildpeojgoaa.Ck
open Go.RowKit Go.Proofs.Ytopbildpeojgoaa Go.Proofs.Ytopbildpeojgoaa.Sch Go.Proofs.Ytopbildpeojgoaa.Ty
set_option linter.unusedVariables false
set_option maxRecDepth 100000
/-- Nodes in blocks of P. -/
def NSp (w : World) (P : Nat → Prop) (v : Value) (l : List Nd) : Prop :=
  ∃ A c, v = .slice A l.length c ∧ l.length ≤ c ∧ c ≤ 9223372036854775807 ∧ ∀ k (h : k < l.length), ∃ g o, A = some ⟨g, o, none⟩ ∧ P g ∧ g < w.heap.size ∧ ∀ j u, (l[k].cells)[j]? = some u → w.cell? ⟨g, o + k * 7 + j, none⟩ = some u
theorem NSp.turns {w w' : World} {P P' S : Nat → Prop} {v : Value} {l : List Nd} (h : NSp w P v l) (t : Turns w w' S) (hs : ∀ g, g < w.heap.size → P g → ¬ S g ∧ P' g) : NSp w' P' v l := by
  obtain ⟨A, c, rfl, h1, h2, h3⟩ := h
  refine ⟨A, c, rfl, h1, h2, fun k hk => ?_⟩
  obtain ⟨g, o, e, hp, hl, hc⟩ := h3 k hk
  refine ⟨g, o, e, (hs g hl hp).2, Nat.lt_of_lt_of_le hl t.size, fun j u hj => ?_⟩
  rw [← hc j u hj]
  unfold World.cell?
  rw [t.block g hl (hs g hl hp).1]
theorem NSp.ns {w : World} {P : Nat → Prop} {v : Value} {l : List Nd} (h : NSp w P v l) : Ns w w.heap.size v l := by
  obtain ⟨A, c, rfl, h1, h2, h3⟩ := h
  refine ⟨A, c, rfl, h1, h2, fun k hk => ?_⟩
  obtain ⟨g, o, e, hp, hl, hc⟩ := h3 k hk
  exact ⟨g, o, e, hl, hc⟩
/-- Elements that lie from ⟨g, o⟩ on; their lists lie in other blocks. -/
def QP (w : World) (g o : Nat) (es : List Qe) : Prop :=
  ∃ cs, Row w g 73 cs ∧ ∀ k (h : k < es.length), ∃ tv pv, cs[o + k * 6]? = some (.string es[k].v) ∧ cs[o + k * 6 + 1]? = some tv ∧ cs[o + k * 6 + 2]? = some (.bool es[k].neg) ∧ cs[o + k * 6 + 3]? = some (.int .i64 es[k].mn) ∧ cs[o + k * 6 + 4]? = some (.int .i64 es[k].mx) ∧ cs[o + k * 6 + 5]? = some pv ∧ SLp w (fun b => b ≠ g) tv es[k].ts ∧ NSp w (fun b => b ≠ g) pv es[k].pr
theorem QP.qs {w : World} {g o c : Nat} {es : List Qe} (h : QP w g o es) (hc : es.length ≤ c) (hm : c ≤ 9223372036854775807) : Qs w w.heap.size (.slice (some ⟨g, o, none⟩) es.length c) es := by
  obtain ⟨cs, hr, h3⟩ := h
  refine ⟨_, c, rfl, hc, hm, fun k hk => ?_⟩
  obtain ⟨tv, pv, c0, c1, c2, c3, c4, c5, hs, hn⟩ := h3 k hk
  exact ⟨g, o, tv, pv, rfl, hr.lt, (hr.cell _).trans c0, (hr.cell _).trans c1, (hr.cell _).trans c2, (hr.cell _).trans c3, (hr.cell _).trans c4, (hr.cell _).trans c5, hs.sl, hn.ns⟩
theorem QP.call {w w' : World} {g o : Nat} {es : List Qe} (h : QP w g o es) (hb : Below w.heap.size w w') : QP w' g o es := by
  obtain ⟨cs, hr, h3⟩ := h
  refine ⟨cs, hr.below hb hr.lt, fun k hk => ?_⟩
  obtain ⟨tv, pv, c0, c1, c2, c3, c4, c5, hs, hn⟩ := h3 k hk
  exact ⟨tv, pv, c0, c1, c2, c3, c4, c5, hs.turns (Turns.of_below hb) (fun _ _ x => ⟨fun y => y, x⟩), hn.turns (Turns.of_below hb) (fun _ _ x => ⟨fun y => y, x⟩)⟩
theorem QP.past {w : World} {g o b i : Nat} {es : List Qe} (h : QP w g o es) (hb : b ≠ g) (u : Value) (hbl : ∀ k (hk : k < es.length) L tv, SLp w (fun x => x ≠ g) tv L → SLp (w.setCell ⟨b, i, none⟩ u) (fun x => x ≠ g) tv L) (hbn : ∀ k (hk : k < es.length) L tv, NSp w (fun x => x ≠ g) tv L → NSp (w.setCell ⟨b, i, none⟩ u) (fun x => x ≠ g) tv L) : QP (w.setCell ⟨b, i, none⟩ u) g o es := by
  obtain ⟨cs, hr, h3⟩ := h
  refine ⟨cs, hr.past (fun e => hb e.symm) u, fun k hk => ?_⟩
  obtain ⟨tv, pv, c0, c1, c2, c3, c4, c5, hs, hn⟩ := h3 k hk
  exact ⟨tv, pv, c0, c1, c2, c3, c4, c5, hbl k hk _ _ hs, hbn k hk _ _ hn⟩
/-- What is known of an element's cells, ahead of a store. -/
theorem QP.facts {w : World} {g o : Nat} {es : List Qe} (h : QP w g o es) {k : Nat} (hk : k < es.length) : (∀ i, w.frozen? ⟨g, i, none⟩ = false) ∧ ∃ tv pv, w.cell? ⟨g, o + k * 6, none⟩ = some (.string es[k].v) ∧ w.cell? ⟨g, o + k * 6 + 1, none⟩ = some tv ∧ w.cell? ⟨g, o + k * 6 + 2, none⟩ = some (.bool es[k].neg) ∧ w.cell? ⟨g, o + k * 6 + 3, none⟩ = some (.int .i64 es[k].mn) ∧ w.cell? ⟨g, o + k * 6 + 4, none⟩ = some (.int .i64 es[k].mx) ∧ w.cell? ⟨g, o + k * 6 + 5, none⟩ = some pv := by
  obtain ⟨cs, hr, h3⟩ := h
  obtain ⟨tv, pv, c0, c1, c2, c3, c4, c5, hs, hn⟩ := h3 k hk
  exact ⟨fun i => hr.free i, tv, pv, (hr.cell _).trans c0, (hr.cell _).trans c1, (hr.cell _).trans c2, (hr.cell _).trans c3, (hr.cell _).trans c4, (hr.cell _).trans c5⟩
theorem put_turns (w : World) (g i : Nat) (u : Value) : Turns w (w.setCell ⟨g, i, none⟩ u) (fun b => b = g) := (Turns.refl w _).put g i u (fun _ => rfl)
theorem QP.putV {w : World} {g o : Nat} {es : List Qe} (h : QP w g o es) {k : Nat} (hk : k < es.length) (x : ByteArray) : QP (w.setCell ⟨g, o + k * 6, none⟩ (.string x)) g o (es.set k { es[k] with v := x }) := by
  obtain ⟨cs, hr, h3⟩ := h
  refine ⟨cs.setIfInBounds (o + k * 6) (.string x), hr.put _ _, fun i hi => ?_⟩
  have hi' : i < es.length := by simpa using hi
  by_cases e : i = k
  · subst e
    obtain ⟨tv, pv, c0, c1, c2, c3, c4, c5, hs, hn⟩ := h3 i hi'
    rw [List.getElem_set_self]
    exact ⟨tv, pv, by rw [Array.getElem?_setIfInBounds_self_of_lt (Array.getElem?_eq_some_iff.1 c0).1], by rw [Array.getElem?_setIfInBounds_ne (by omega)]; exact c1, by rw [Array.getElem?_setIfInBounds_ne (by omega)]; exact c2, by rw [Array.getElem?_setIfInBounds_ne (by omega)]; exact c3, by rw [Array.getElem?_setIfInBounds_ne (by omega)]; exact c4, by rw [Array.getElem?_setIfInBounds_ne (by omega)]; exact c5, hs.turns (put_turns w g _ _) (fun _ _ x => ⟨x, x⟩), hn.turns (put_turns w g _ _) (fun _ _ x => ⟨x, x⟩)⟩
  · obtain ⟨tv, pv, c0, c1, c2, c3, c4, c5, hs, hn⟩ := h3 i hi'
    rw [List.getElem_set_ne (fun x => e x.symm)]
    exact ⟨tv, pv, by rw [Array.getElem?_setIfInBounds_ne (by omega)]; exact c0, by rw [Array.getElem?_setIfInBounds_ne (by omega)]; exact c1, by rw [Array.getElem?_setIfInBounds_ne (by omega)]; exact c2, by rw [Array.getElem?_setIfInBounds_ne (by omega)]; exact c3, by rw [Array.getElem?_setIfInBounds_ne (by omega)]; exact c4, by rw [Array.getElem?_setIfInBounds_ne (by omega)]; exact c5, hs.turns (put_turns w g _ _) (fun _ _ x => ⟨x, x⟩), hn.turns (put_turns w g _ _) (fun _ _ x => ⟨x, x⟩)⟩
theorem QP.putT {w : World} {g o : Nat} {es : List Qe} (h : QP w g o es) {k : Nat} (hk : k < es.length) (u : Value) (x : List ByteArray) (hx : SLp w (fun b => b ≠ g) u x) : QP (w.setCell ⟨g, o + k * 6 + 1, none⟩ (u)) g o (es.set k { es[k] with ts := x }) := by
  obtain ⟨cs, hr, h3⟩ := h
  refine ⟨cs.setIfInBounds (o + k * 6 + 1) (u), hr.put _ _, fun i hi => ?_⟩
  have hi' : i < es.length := by simpa using hi
  by_cases e : i = k
  · subst e
    obtain ⟨tv, pv, c0, c1, c2, c3, c4, c5, hs, hn⟩ := h3 i hi'
    rw [List.getElem_set_self]
    exact ⟨u, pv, by rw [Array.getElem?_setIfInBounds_ne (by omega)]; exact c0, by rw [Array.getElem?_setIfInBounds_self_of_lt (Array.getElem?_eq_some_iff.1 c1).1], by rw [Array.getElem?_setIfInBounds_ne (by omega)]; exact c2, by rw [Array.getElem?_setIfInBounds_ne (by omega)]; exact c3, by rw [Array.getElem?_setIfInBounds_ne (by omega)]; exact c4, by rw [Array.getElem?_setIfInBounds_ne (by omega)]; exact c5, hx.turns (put_turns w g _ _) (fun _ _ x => ⟨x, x⟩), hn.turns (put_turns w g _ _) (fun _ _ x => ⟨x, x⟩)⟩
  · obtain ⟨tv, pv, c0, c1, c2, c3, c4, c5, hs, hn⟩ := h3 i hi'
    rw [List.getElem_set_ne (fun x => e x.symm)]
    exact ⟨tv, pv, by rw [Array.getElem?_setIfInBounds_ne (by omega)]; exact c0, by rw [Array.getElem?_setIfInBounds_ne (by omega)]; exact c1, by rw [Array.getElem?_setIfInBounds_ne (by omega)]; exact c2, by rw [Array.getElem?_setIfInBounds_ne (by omega)]; exact c3, by rw [Array.getElem?_setIfInBounds_ne (by omega)]; exact c4, by rw [Array.getElem?_setIfInBounds_ne (by omega)]; exact c5, hs.turns (put_turns w g _ _) (fun _ _ x => ⟨x, x⟩), hn.turns (put_turns w g _ _) (fun _ _ x => ⟨x, x⟩)⟩
theorem QP.putN {w : World} {g o : Nat} {es : List Qe} (h : QP w g o es) {k : Nat} (hk : k < es.length) (x : Bool) : QP (w.setCell ⟨g, o + k * 6 + 2, none⟩ (.bool x)) g o (es.set k { es[k] with neg := x }) := by
  obtain ⟨cs, hr, h3⟩ := h
  refine ⟨cs.setIfInBounds (o + k * 6 + 2) (.bool x), hr.put _ _, fun i hi => ?_⟩
  have hi' : i < es.length := by simpa using hi
  by_cases e : i = k
  · subst e
    obtain ⟨tv, pv, c0, c1, c2, c3, c4, c5, hs, hn⟩ := h3 i hi'
    rw [List.getElem_set_self]
    exact ⟨tv, pv, by rw [Array.getElem?_setIfInBounds_ne (by omega)]; exact c0, by rw [Array.getElem?_setIfInBounds_ne (by omega)]; exact c1, by rw [Array.getElem?_setIfInBounds_self_of_lt (Array.getElem?_eq_some_iff.1 c2).1], by rw [Array.getElem?_setIfInBounds_ne (by omega)]; exact c3, by rw [Array.getElem?_setIfInBounds_ne (by omega)]; exact c4, by rw [Array.getElem?_setIfInBounds_ne (by omega)]; exact c5, hs.turns (put_turns w g _ _) (fun _ _ x => ⟨x, x⟩), hn.turns (put_turns w g _ _) (fun _ _ x => ⟨x, x⟩)⟩
  · obtain ⟨tv, pv, c0, c1, c2, c3, c4, c5, hs, hn⟩ := h3 i hi'
    rw [List.getElem_set_ne (fun x => e x.symm)]
    exact ⟨tv, pv, by rw [Array.getElem?_setIfInBounds_ne (by omega)]; exact c0, by rw [Array.getElem?_setIfInBounds_ne (by omega)]; exact c1, by rw [Array.getElem?_setIfInBounds_ne (by omega)]; exact c2, by rw [Array.getElem?_setIfInBounds_ne (by omega)]; exact c3, by rw [Array.getElem?_setIfInBounds_ne (by omega)]; exact c4, by rw [Array.getElem?_setIfInBounds_ne (by omega)]; exact c5, hs.turns (put_turns w g _ _) (fun _ _ x => ⟨x, x⟩), hn.turns (put_turns w g _ _) (fun _ _ x => ⟨x, x⟩)⟩
theorem QP.putMn {w : World} {g o : Nat} {es : List Qe} (h : QP w g o es) {k : Nat} (hk : k < es.length) (x : Int) : QP (w.setCell ⟨g, o + k * 6 + 3, none⟩ (.int .i64 x)) g o (es.set k { es[k] with mn := x }) := by
  obtain ⟨cs, hr, h3⟩ := h
  refine ⟨cs.setIfInBounds (o + k * 6 + 3) (.int .i64 x), hr.put _ _, fun i hi => ?_⟩
  have hi' : i < es.length := by simpa using hi
  by_cases e : i = k
  · subst e
    obtain ⟨tv, pv, c0, c1, c2, c3, c4, c5, hs, hn⟩ := h3 i hi'
    rw [List.getElem_set_self]
    exact ⟨tv, pv, by rw [Array.getElem?_setIfInBounds_ne (by omega)]; exact c0, by rw [Array.getElem?_setIfInBounds_ne (by omega)]; exact c1, by rw [Array.getElem?_setIfInBounds_ne (by omega)]; exact c2, by rw [Array.getElem?_setIfInBounds_self_of_lt (Array.getElem?_eq_some_iff.1 c3).1], by rw [Array.getElem?_setIfInBounds_ne (by omega)]; exact c4, by rw [Array.getElem?_setIfInBounds_ne (by omega)]; exact c5, hs.turns (put_turns w g _ _) (fun _ _ x => ⟨x, x⟩), hn.turns (put_turns w g _ _) (fun _ _ x => ⟨x, x⟩)⟩
  · obtain ⟨tv, pv, c0, c1, c2, c3, c4, c5, hs, hn⟩ := h3 i hi'
    rw [List.getElem_set_ne (fun x => e x.symm)]
    exact ⟨tv, pv, by rw [Array.getElem?_setIfInBounds_ne (by omega)]; exact c0, by rw [Array.getElem?_setIfInBounds_ne (by omega)]; exact c1, by rw [Array.getElem?_setIfInBounds_ne (by omega)]; exact c2, by rw [Array.getElem?_setIfInBounds_ne (by omega)]; exact c3, by rw [Array.getElem?_setIfInBounds_ne (by omega)]; exact c4, by rw [Array.getElem?_setIfInBounds_ne (by omega)]; exact c5, hs.turns (put_turns w g _ _) (fun _ _ x => ⟨x, x⟩), hn.turns (put_turns w g _ _) (fun _ _ x => ⟨x, x⟩)⟩
theorem QP.putMx {w : World} {g o : Nat} {es : List Qe} (h : QP w g o es) {k : Nat} (hk : k < es.length) (x : Int) : QP (w.setCell ⟨g, o + k * 6 + 4, none⟩ (.int .i64 x)) g o (es.set k { es[k] with mx := x }) := by
  obtain ⟨cs, hr, h3⟩ := h
  refine ⟨cs.setIfInBounds (o + k * 6 + 4) (.int .i64 x), hr.put _ _, fun i hi => ?_⟩
  have hi' : i < es.length := by simpa using hi
  by_cases e : i = k
  · subst e
    obtain ⟨tv, pv, c0, c1, c2, c3, c4, c5, hs, hn⟩ := h3 i hi'
    rw [List.getElem_set_self]
    exact ⟨tv, pv, by rw [Array.getElem?_setIfInBounds_ne (by omega)]; exact c0, by rw [Array.getElem?_setIfInBounds_ne (by omega)]; exact c1, by rw [Array.getElem?_setIfInBounds_ne (by omega)]; exact c2, by rw [Array.getElem?_setIfInBounds_ne (by omega)]; exact c3, by rw [Array.getElem?_setIfInBounds_self_of_lt (Array.getElem?_eq_some_iff.1 c4).1], by rw [Array.getElem?_setIfInBounds_ne (by omega)]; exact c5, hs.turns (put_turns w g _ _) (fun _ _ x => ⟨x, x⟩), hn.turns (put_turns w g _ _) (fun _ _ x => ⟨x, x⟩)⟩
  · obtain ⟨tv, pv, c0, c1, c2, c3, c4, c5, hs, hn⟩ := h3 i hi'
    rw [List.getElem_set_ne (fun x => e x.symm)]
    exact ⟨tv, pv, by rw [Array.getElem?_setIfInBounds_ne (by omega)]; exact c0, by rw [Array.getElem?_setIfInBounds_ne (by omega)]; exact c1, by rw [Array.getElem?_setIfInBounds_ne (by omega)]; exact c2, by rw [Array.getElem?_setIfInBounds_ne (by omega)]; exact c3, by rw [Array.getElem?_setIfInBounds_ne (by omega)]; exact c4, by rw [Array.getElem?_setIfInBounds_ne (by omega)]; exact c5, hs.turns (put_turns w g _ _) (fun _ _ x => ⟨x, x⟩), hn.turns (put_turns w g _ _) (fun _ _ x => ⟨x, x⟩)⟩
theorem slp_ts {w : World} {B : Nat} {P : Nat → Prop} {e : Pq.El} {g : Nat} (h : Pq.ElOk w B P e) (hp : P g) : SLp w (fun b => b ≠ g) (.slice (some ⟨e.tb, 0, none⟩) e.ts.length e.ts.length) e.ts :=
  ⟨_, _, rfl, Nat.le_refl _, by have := h.ln; omega, fun k hk => ⟨e.tb, 0, rfl, fun x => h.ts.2.2 (by rw [x]; exact hp), h.ts.1.lt, by
    rw [Nat.zero_add]
    exact (h.ts.1.cell k).trans (by simp [hk])⟩⟩
theorem nsp_pr {w : World} {B : Nat} {P : Nat → Prop} {e : Pq.El} {g : Nat} (h : Pq.ElOk w B P e) (hp : P g) : NSp w (fun b => b ≠ g) e.pv (e.nds.map toN) := by
  cases hb : e.pb with
  | none =>
    rw [show e.pv = .slice none 0 0 from by unfold Pq.El.pv; rw [hb], h.no.1 hb]
    exact ⟨none, 0, rfl, by simp, by omega, fun k hk => by simp at hk⟩
  | some b =>
    rw [show e.pv = .slice (some ⟨b, 0, none⟩) e.nds.length e.nds.length from by unfold Pq.El.pv; rw [hb]]
    obtain ⟨A, c, e1, h1, h2, h3⟩ := ns_row (h.pr b hb).1 (l := e.nds.map toN) (n := e.nds.length) (by rw [ncells_map]) (by simp) (by have := h.ln; omega)
    injection e1 with a1 a2 a3
    subst a1 a3
    refine ⟨some ⟨b, 0, none⟩, e.nds.length, by simp, h1, h2, fun k hk => ?_⟩
    obtain ⟨g', o', e2, hl, hc⟩ := h3 k hk
    injection e2 with e2
    injection e2 with b1 b2
    subst b1 b2
    exact ⟨b, 0, rfl, fun x => (h.pr b hb).2.2 (by rw [x]; exact hp), hl, hc⟩
theorem qp_qi {w0 w : World} {qb : Nat} {v : Value} {win cap : Int} {es : List Pq.El} (h : Pq.QI w0 w qb v win cap es) (hn : 0 < es.length) : ∃ g o c, v = .slice (some ⟨g, o, none⟩) es.length c ∧ es.length ≤ c ∧ c ≤ 9223372036854775807 ∧ QP w g o (es.map toQ) ∧ w0.heap.size ≤ g ∧ ∃ cs, Row w g 73 cs ∧ o + c * 6 ≤ cs.size := by
  obtain ⟨ob, hs, ho, h3⟩ := h.sg
  obtain ⟨h0, A, cap', rfl, h1, h2, h4⟩ := hs
  rcases h4 with ⟨h4, _⟩ | ⟨g, o, cur, a1, a2, a3, a4, a5⟩
  · omega
  · subst a1 a2
    refine ⟨g, o, cap', rfl, h1, by unfold maxLen at h2; omega, ⟨cur, a3, fun k hk => ?_⟩, (ho g rfl).1, cur, a3, a4⟩
    have hk' : k < es.length := by simpa using hk
    have hcell : ∀ j u, (es[k].cells)[j]? = some u → cur[o + k * 6 + j]? = some u := fun j u hj => by
      have := flat_get es k hk' j u hj
      have hl : k * 6 + j < es.length * 6 := by
        have := (List.getElem?_eq_some_iff.1 hj).1
        simp [Pq.El.cells] at this
        omega
      rw [← a5, List.getElem?_take, if_pos hl, List.getElem?_drop] at this
      rw [Nat.add_assoc]
      simpa using this
    have hm := h3 _ (List.getElem_mem hk')
    rw [List.getElem_map]
    exact ⟨_, _, hcell 0 _ rfl, hcell 1 _ rfl, hcell 2 _ rfl, hcell 3 _ rfl, hcell 4 _ rfl, hcell 5 _ rfl, slp_ts hm (.inl rfl), nsp_pr hm (.inl rfl)⟩
end Go.Proofs.Ytopbildpeojgoaa.Ck
end

section
namespace Go.Proofs.Ytopbildpeojgoaa.Ck
open Go.RowKit Go.Proofs.Ytopbildpeojgoaa Go.Proofs.Ytopbildpeojgoaa.Sch Go.Proofs.Ytopbildpeojgoaa.Ty
set_option linter.unusedVariables false
set_option linter.unusedSectionVars false
set_option maxRecDepth 100000
theorem el_name {T : List Ty} {q : List Qe} {k : Nat} {e : Qe} (h : nameB e.v.data.toList = false) : elemM T q k e = 1 := by
  unfold elemM
  exact if_pos (.inl h)
theorem el_none {T : List Ty} {q : List Qe} {k : Nat} {e : Qe} (h : e.ts.length = 0) : elemM T q k e = 1 := by
  unfold elemM
  exact if_pos (.inr (.inl h))
theorem el_types {T : List Ty} {q : List Qe} {k : Nat} {e : Qe} (h1 : nameB e.v.data.toList = true) (h2 : 0 < e.ts.length) (h3 : e.ts.length ≤ 16) (h4 : ¬ idx (q.map Qe.v) e.v < (k : Int)) {r : Int} (h5 : typesM T [] e.ts = r) (h6 : ¬ r = 0) : elemM T q k e = r := by
  unfold elemM
  rw [if_neg (fun h => h.elim (fun h => by rw [h1] at h; cases h) (fun h => h.elim (fun h => by omega) (fun h => by omega))), if_neg h4, h5, if_pos h6]
theorem el_often {T : List Ty} {q : List Qe} {k : Nat} {e : Qe} (h1 : nameB e.v.data.toList = true) (h2 : 0 < e.ts.length) (h3 : e.ts.length ≤ 16) (h4 : ¬ idx (q.map Qe.v) e.v < (k : Int)) (h5 : typesM T [] e.ts = 0) (h6 : oftenM e.neg e.mn e.mx = false) : elemM T q k e = 1 := by
  unfold elemM
  rw [if_neg (fun h => h.elim (fun h => by rw [h1] at h; cases h) (fun h => h.elim (fun h => by omega) (fun h => by omega))), if_neg h4, if_neg (by rw [h5]; decide), if_pos h6]
theorem set_names {es : List Pq.El} {k : Nat} {e : Pq.El} (he : es[k]? = some e) {e' : Qe} (hv : e'.v = e.v) : ((es.map toQ).set k e').map Qe.v = es.map Pq.El.v := by
  rw [List.map_set, List.map_map, hv]
  have : (List.map (Qe.v ∘ toQ) es) = es.map Pq.El.v := rfl
  rw [this]
  obtain ⟨hk, hke⟩ := List.getElem?_eq_some_iff.1 he
  have : e.v = (es.map Pq.El.v)[k]'(by simpa using hk) := by simp [hke]
  rw [this, List.set_getElem_self]
theorem first_idx {es : List Pq.El} {n : Nat} (hg : Pq.Good n es) (hl : es.length ≤ 4) {k : Nat} {e : Pq.El} (he : es[k]? = some e) : ¬ idx (es.map Pq.El.v) e.v < (k : Int) := by
  obtain ⟨hil, hie⟩ := List.getElem?_eq_some_iff.1 he
  have hv := hg.var k e he
  rw [hv]
  obtain ⟨j, hj, hjl⟩ := idx_mem (l := es.map Pq.El.v) (nm := Pq.varOf k) (by rw [← hv, ← hie]; exact List.mem_map_of_mem (List.getElem_mem hil))
  rcases idx_ge (l := es.map Pq.El.v) (i := k) (by omega) (fun j hj hji => by
    have hjl : j < es.length := by simpa using hj
    rw [List.getElem_map]
    exact hg.var j _ (List.getElem?_eq_getElem hjl)) with h | h
  · exact h
  · rw [hj] at h; omega
section
variable {es : List Pq.El} (hg : Pq.Good es.length es) (h1 : 1 ≤ es.length) (hl : es.length ≤ 4) {k : Nat} {e : Pq.El} (he : es[k]? = some e) (win cap : Int)
include hg h1 hl he
theorem nm_ok : nameB e.v.data.toList = true := by rw [hg.var k e he]; exact name_var k
theorem bad_0 : queryM typesL ((es.map toQ).set k { toQ e with ts := [⟨#[68]⟩] }) win cap = 10 :=
  query_bad hg h1 hl he _ rfl 10 (by decide) (el_types (e := { toQ e with ts := [⟨#[68]⟩] }) (nm_ok hg h1 hl he) (show 0 < 1 by decide) (show 1 ≤ 16 by decide) (by rw [set_names he rfl]; exact first_idx hg hl he) (by
    show typesM typesL [] [⟨#[68]⟩] = 10
    unfold typesM
    exact if_pos (by rw [idx_data]; decide)) (by decide)) win cap
theorem bad_1 : queryM typesL ((es.map toQ).set k { toQ e with ts := [⟨#[65]⟩, ⟨#[65]⟩] }) win cap = 4 :=
  query_bad hg h1 hl he _ rfl 4 (by decide) (el_types (e := { toQ e with ts := [⟨#[65]⟩, ⟨#[65]⟩] }) (nm_ok hg h1 hl he) (show 0 < 2 by decide) (show 2 ≤ 16 by decide) (by rw [set_names he rfl]; exact first_idx hg hl he) (by
    show typesM typesL [] [⟨#[65]⟩, ⟨#[65]⟩] = 4
    have iA : idx (typesL.map Prod.fst) ⟨#[65]⟩ = (0 : Nat) := by rw [idx_data]; rfl
    have h0 : hasB [] ⟨#[65]⟩ = false := by unfold hasB; rw [idx_data]; rfl
    have h2 : hasB [⟨#[65]⟩] ⟨#[65]⟩ = true := by unfold hasB; rw [idx_data]; rfl
    simp [typesM, iA, h0, h2]) (by decide)) win cap
theorem bad_2 : queryM typesL ((es.map toQ).set k { toQ e with ts := [] }) win cap = 1 :=
  query_bad hg h1 hl he _ rfl 1 (by decide) (el_none (e := { toQ e with ts := [] }) rfl) win cap
theorem bad_3 : queryM typesL ((es.map toQ).set k { toQ e with v := ⟨#[110, 111, 116]⟩ }) win cap = 1 :=
  query_bad hg h1 hl he _ rfl 1 (by decide) (el_name (e := { toQ e with v := ⟨#[110, 111, 116]⟩ }) rfl) win cap
theorem bad_often (e' : Qe) (hv : e'.v = e.v) (ht : e'.ts = e.ts) (hn : e'.neg = e.neg) (ho : oftenM e'.neg e'.mn e'.mx = false) : queryM typesL ((es.map toQ).set k e') win cap = 1 := by
  obtain ⟨⟨j, hj⟩, _⟩ := hg.con k e he
  have htl := Pq.tyL_len j
  exact query_bad hg h1 hl he e' hn 1 (by decide) (el_often (by rw [hv]; exact nm_ok hg h1 hl he) (by rw [ht, hj]; omega) (by rw [ht, hj]; omega) (by rw [set_names he hv, hv]; exact first_idx hg hl he) (by rw [ht, hj]; exact ty_l j) ho) win cap
theorem bad_4 : queryM typesL ((es.map toQ).set k { toQ e with mn := 0 }) win cap = 1 :=
  bad_often hg h1 hl he win cap _ rfl rfl rfl (by
    show oftenM e.neg 0 e.mx = false
    unfold oftenM
    cases e.neg <;> simp)
theorem bad_5n (h : e.neg = true) : queryM typesL ((es.map toQ).set k { toQ e with mx := 2 }) win cap = 1 :=
  bad_often hg h1 hl he win cap _ rfl rfl rfl (by
    show oftenM e.neg e.mn 2 = false
    unfold oftenM
    rw [h]; simp)
theorem bad_5p (h : e.neg = false) : queryM typesL ((es.map toQ).set k { toQ e with mx := 5 }) win cap = 1 :=
  bad_often hg h1 hl he win cap _ rfl rfl rfl (by
    show oftenM e.neg e.mn 5 = false
    unfold oftenM
    rw [h]; simp)
theorem bad_6 : queryM typesL ((es.map toQ).set k { toQ e with mn := 2, mx := 1 }) win cap = 1 :=
  bad_often hg h1 hl he win cap _ rfl rfl rfl (by
    show oftenM e.neg 2 1 = false
    unfold oftenM
    cases e.neg <;> simp)
end
theorem neg_set {q : List Qe} {k : Nat} {e' : Qe} (hk : k < q.length) (h : e'.neg = true) : negAt (q.set k e') k = true := by
  unfold negAt
  rw [List.getElem?_set_self hk]
  exact h
theorem bad_7 {q : List Qe} {e' : Qe} (h1 : 1 ≤ q.length) (hl : q.length ≤ 4) (h : e'.neg = true) (win cap : Int) : queryM typesL (q.set 0 e') win cap = 1 := by
  unfold queryM
  rw [List.length_set, if_neg (by omega), if_pos (.inr (.inl (neg_set (by omega) h)))]
theorem bad_8 {q : List Qe} {e' : Qe} (h1 : 1 ≤ q.length) (hl : q.length ≤ 4) (h : e'.neg = true) (win cap : Int) : queryM typesL (q.set (q.length - 1) e') win cap = 1 := by
  unfold queryM
  rw [List.length_set, if_neg (by omega), if_pos (.inr (.inr (neg_set (by omega) h)))]
theorem bad_big {q : List Qe} (h : 8 < q.length) (win cap : Int) : queryM typesL q win cap = 5 := by
  unfold queryM
  exact if_pos h
theorem bad_none (win cap : Int) : queryM typesL [] win cap = 1 := by
  unfold queryM
  rw [if_neg (by decide), if_pos (.inl rfl)]
theorem bad_tail {es : List Pq.El} (hg : Pq.Good es.length es) (h1 : 1 ≤ es.length) (hl : es.length ≤ 4) (win cap : Int) : queryM typesL (es.map toQ) win cap = if win < 1 ∨ 4294967296 < win then 13 else if cap < 1 ∨ 1000 < cap then 5 else 0 := by
  have hE := elemsM_zero (T := typesL) (es := es.map toQ) (fun k q hq => by
    obtain ⟨e, he, rfl⟩ := map_get hq
    exact elem_zero hg hl he) (es.map toQ).length 0
  have h0 := query_ok (win := 1) (cap := 1) hg h1 hl (by decide) (by decide) (by decide)
  have hlen : (es.map toQ).length = es.length := by simp
  unfold queryM at h0 ⊢
  rw [if_neg (by omega)] at h0 ⊢
  by_cases hc : (es.map toQ).length = 0 ∨ negAt (es.map toQ) 0 = true ∨ negAt (es.map toQ) ((es.map toQ).length - 1) = true
  · rw [if_pos hc] at h0
    exact absurd h0 (by decide)
  · rw [if_neg hc, if_neg (by rw [hE]; decide)]
end Go.Proofs.Ytopbildpeojgoaa.Ck
end

section
namespace Go.Proofs.Ytopbildpeojgoaa.Ck
open Go.RowKit Go.Proofs.Ytopbildpeojgoaa Go.Proofs.Ytopbildpeojgoaa.Sch Go.Proofs.Ytopbildpeojgoaa.Ty
set_option linter.unusedVariables false
set_option maxRecDepth 100000
theorem and255c (a : Int) : bits .and .i64 a 255 = a % 256 := by
  have hm : (BitVec.ofInt 64 255).toNat = 2 ^ 8 - 1 := by decide
  have key : (BitVec.ofInt 64 a &&& BitVec.ofInt 64 255).toNat = (a % ((2 ^ 64 : Nat) : Int)).toNat % 2 ^ 8 := by
    rw [BitVec.toNat_and, BitVec.toNat_ofInt, hm, Nat.and_two_pow_sub_one_eq_mod]
  show IntKind.i64.wrap ((BitVec.ofInt 64 a &&& BitVec.ofInt 64 255).toNat : Nat) = a % 256
  rw [key, IntKind.wrap_i64]
  omega
/-- What is known when a query was made and its k-th element is looked at. -/
structure Bad (w W : World) (p : Option Addr) (bq g o m c k : Nat) (win cap : Int) (es : List Pq.El) (e : Pq.El) : Prop where
  sc : Sc w w.heap.size p typesL
  be : Below w.heap.size w W
  row : Row W bq 67 #[.slice (some ⟨g, o, none⟩) m c, .int .i64 win, .int .i64 cap]
  qp : QP W g o (es.map toQ)
  ne : bq ≠ g
  gg : Pq.Good es.length es
  len : es.length = m
  l1 : 1 ≤ m
  l4 : m ≤ 4
  mc : m ≤ c
  cm : c ≤ 9223372036854775807
  wn : 1 ≤ win ∧ win ≤ 16
  cp : 1 ≤ cap ∧ cap ≤ 1000
  km : k < m
  ek : es[k]? = some e
  past : ∀ i u, QP (W.setCell ⟨bq, i, none⟩ u) g o (es.map toQ)
  room : ∃ cs, Row W g 73 cs ∧ o + c * 6 ≤ cs.size
  bg : w.heap.size ≤ g
  bb : w.heap.size ≤ bq
theorem slp_new {w : World} {b g : Nat} {L : List ByteArray} {n : Nat} {cs : Array Value} (h : Row w b 9 cs) (hc : cs.toList = L.map Value.string) (hne : b ≠ g) (hn : L.length = n := by rfl) (h9 : n ≤ 1000 := by decide) : SLp w (fun x => x ≠ g) (.slice (some ⟨b, 0, none⟩) n n) L := by
  subst hn
  refine ⟨_, _, rfl, Nat.le_refl _, by omega, fun k hk => ⟨b, 0, rfl, hne, h.lt, ?_⟩⟩
  rw [Nat.zero_add, h.cell]
  have : cs[k]? = cs.toList[k]? := by simp
  rw [this, hc]
  simp [hk]
section
variable {w W W1 : World} {p : Option Addr} {bq g o m c k : Nat} {win cap : Int} {es : List Pq.El} {e : Pq.El}
theorem Bad.fin (h : Bad w W p bq g o m c k win cap es e) {q : List Qe} (hq : QP W1 g o q) (hlen : q.length = m) (hb : Below w.heap.size w W1) (win' cap' r : Int) (hr : queryM typesL q win' cap' = r) :
    Calls Try.prog 46 #[.pointer p, .agg #[.slice (some ⟨g, o, none⟩) m c, .int .i64 win', .int .i64 cap']] W1 fun e w' => e = .returned (.int .i64 r) ∧ Below w.heap.size w w' := by
  have h1 := query_any p typesL _ win' cap' q W1 (h.sc.below hb hb.size) typesL_len (hq.qs (c := c) (by rw [hlen]; exact h.mc) h.cm)
  rw [hr, hlen] at h1
  exact h1.mono fun _ _ x => ⟨x.1, hb.trans (x.2.mono hb.size)⟩
theorem Bad.len' (h : Bad w W p bq g o m c k win cap es e) (e' : Qe) : ((es.map toQ).set k e').length = m := by
  rw [List.length_set, List.length_map]; exact h.len
theorem Bad.kl (h : Bad w W p bq g o m c k win cap es e) : k < (es.map toQ).length := by
  rw [List.length_map, h.len]; exact h.km
theorem Bad.at (h : Bad w W p bq g o m c k win cap es e) : (es.map toQ)[k]'h.kl = toQ e := by
  have := h.ek
  obtain ⟨h1, h2⟩ := List.getElem?_eq_some_iff.1 this
  rw [List.getElem_map, h2]
theorem Bad.putb (h : Bad w W p bq g o m c k win cap es e) (i : Nat) (u : Value) : Below w.heap.size w (W.setCell ⟨g, i, none⟩ u) := h.be.setCell (p := ⟨g, i, none⟩) h.bg u
theorem Bad.lt (h : Bad w W p bq g o m c k win cap es e) : g < W.heap.size := by obtain ⟨cs, hr, _⟩ := h.qp; exact hr.lt
theorem Bad.l1' (h : Bad w W p bq g o m c k win cap es e) : 1 ≤ es.length := by rw [h.len]; exact h.l1
theorem Bad.l4' (h : Bad w W p bq g o m c k win cap es e) : es.length ≤ 4 := by rw [h.len]; exact h.l4
end
end Go.Proofs.Ytopbildpeojgoaa.Ck
end
