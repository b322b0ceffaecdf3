/- Texts put together: PsF, PsG, PsH. -/
import Derived.Test.YtopbildpeojgoaaPcC
import Derived.Test.YtopbildpeojgoaaPsE
import Derived.Test.YtopbildpeojgoaaPqD
import Derived.Test.YtopbildpeojgoaaTyK
import Derived.Test.YtopbildpeojgoaaCkD
section
namespace Go.Proofs.Ytopbildpeojgoaa.Ps
open Go.RowKit Go.Proofs.Ytopbildpeojgoaa Go.Proofs.Ytopbildpeojgoaa.Sch Go.Proofs.Ytopbildpeojgoaa.Ty Go.Proofs.Ytopbildpeojgoaa.Ck Go.Proofs.Ytopbildpeojgoaa.Pc
set_option linter.unusedVariables false
set_option maxRecDepth 100000
def toN (n : Pq.Nd) : Nd := ⟨n.op, n.kind, n.i, n.s, n.b, n.var, n.field⟩
def toQ (e : Pq.El) : Qe := ⟨e.v, e.ts, e.neg, e.mn, e.mx, e.nds.map toN⟩
theorem lies_mono {w : World} {B B' : Nat} {A : Option Addr} {n : Nat} {v : Nat → Value} (h : Lies w B A n v) (hB : B ≤ B') : Lies w B' A n v := fun k hk => by
  obtain ⟨g, o, e, hg, hc⟩ := h k hk
  exact ⟨g, o, e, Nat.lt_of_lt_of_le hg hB, hc⟩
theorem flat_get (es : List Pq.El) : ∀ (k : Nat) (h : k < es.length) (j : Nat) (u : Value), (es[k].cells)[j]? = some u → (es.flatMap Pq.El.cells)[k * 6 + j]? = some u := by
  induction es with
  | nil => intro k h; simp at h
  | cons p ps ih =>
    intro k h j u hj
    rw [List.flatMap_cons]
    cases k with
    | zero =>
      have hl : j < p.cells.length := (List.getElem?_eq_some_iff.1 hj).1
      rw [Nat.zero_mul, Nat.zero_add, List.getElem?_append_left hl]
      exact hj
    | succ k =>
      rw [List.getElem?_append_right (by simp [Pq.El.cells]; omega)]
      have e : (k + 1) * 6 + j - p.cells.length = k * 6 + j := by simp [Pq.El.cells]; omega
      rw [e]
      exact ih k (by simpa using h) j u hj
theorem ncells_map (l : List Pq.Nd) : ncells (l.map toN) = l.flatMap Pq.Nd.cells := by
  induction l with
  | nil => rfl
  | cons a l ih =>
    unfold ncells at ih ⊢
    rw [List.map_cons, List.flatMap_cons, List.flatMap_cons, ih]
    rfl
theorem ns_zero (w : World) (B : Nat) (A : Option Addr) : Ns w B (.slice A 0 0) [] := ⟨A, 0, rfl, by simp, by omega, fun k hk => by simp at hk⟩
theorem el_ts {w : World} {B : Nat} {P : Nat → Prop} {e : Pq.El} (h : Pq.ElOk w B P e) : SL w w.heap.size (.slice (some ⟨e.tb, 0, none⟩) e.ts.length e.ts.length) e.ts :=
  ⟨_, _, rfl, Nat.le_refl _, by have := h.ln; omega, fun k hk => ⟨e.tb, 0, rfl, h.ts.1.lt, by
    rw [Nat.zero_add]
    exact (h.ts.1.cell k).trans (by simp [hk])⟩⟩
theorem el_pr {w : World} {B : Nat} {P : Nat → Prop} {e : Pq.El} (h : Pq.ElOk w B P e) : Ns w w.heap.size e.pv (e.nds.map toN) := by
  cases hp : e.pb with
  | none =>
    rw [show e.pv = .slice none 0 0 from by unfold Pq.El.pv; rw [hp], h.no.1 hp]
    exact ns_zero _ _ _
  | some b =>
    rw [show e.pv = .slice (some ⟨b, 0, none⟩) e.nds.length e.nds.length from by unfold Pq.El.pv; rw [hp]]
    exact ns_row (h.pr b hp).1 (by rw [ncells_map]) (by simp) (by have := h.ln; omega)
theorem qs_qi {w0 w : World} {qb : Nat} {v : Value} {win cap : Int} {es : List Pq.El} (h : Pq.QI w0 w qb v win cap es) : Qs w w.heap.size v (es.map toQ) := by
  obtain ⟨ob, hs, _, h3⟩ := h.sg
  obtain ⟨A, c', rfl, h1, h2⟩ := hs.form
  have hlen : (es.map toQ).length = es.length := by simp
  refine ⟨_, c', by rw [hlen], by rw [hlen]; exact h1, by unfold maxLen at h2; omega, fun k hk => ?_⟩
  have hk' : k < es.length := by rw [← hlen]; exact hk
  obtain ⟨g, o, cap, e, ho, _, _, hc, _⟩ := hs.shape (by omega)
  injection e with e1 e2 e3
  subst e1
  have hcell : ∀ j u, (es[k].cells)[j]? = some u → w.cell? ⟨g, o + k * 6 + j, none⟩ = some u := fun j u hj => by
    rw [Nat.add_assoc]
    exact hc _ _ (flat_get es k hk' j u hj)
  have hm := h3 _ (List.getElem_mem hk')
  rw [List.getElem_map]
  exact ⟨g, o, _, _, rfl, hs.lt g ho, hcell 0 _ rfl, hcell 1 _ rfl, hcell 2 _ rfl, hcell 3 _ rfl, hcell 4 _ rfl, hcell 5 _ rfl, el_ts hm, el_pr hm⟩
def dEl : Pq.El := ⟨⟨#[]⟩, 0, [], false, 0, 0, none, []⟩
def tF (e : Pq.El) (j : Nat) : Value := (e.ts.map Value.string).getD j (.bool false)
def nF (e : Pq.El) (j : Nat) : Value := (e.nds.flatMap Pq.Nd.cells).getD j (.bool false)
theorem getD_in {l : List Value} {j : Nat} {u : Value} (h : l[j]? = some u) : l.getD j (.bool false) = u := by rw [List.getD_eq_getElem?_getD, h]; rfl
theorem one_t (e : Pq.El) (j : Nat) : (tF e j).oneCell' = true := by
  unfold tF
  cases h : (e.ts.map Value.string)[j]? with
  | none => rw [List.getD_eq_getElem?_getD, h]; rfl
  | some u =>
    rw [getD_in h]
    obtain ⟨s, _, rfl⟩ := List.mem_map.1 (List.mem_of_getElem? h)
    rfl
theorem one_n (e : Pq.El) (j : Nat) : (nF e j).oneCell' = true := by
  unfold nF
  cases h : (e.nds.flatMap Pq.Nd.cells)[j]? with
  | none => rw [List.getD_eq_getElem?_getD, h]; rfl
  | some u =>
    rw [getD_in h]
    obtain ⟨x, _, hx⟩ := List.mem_flatMap.1 (List.mem_of_getElem? h)
    simp [Pq.Nd.cells] at hx
    rcases hx with rfl | rfl | rfl | rfl | rfl | rfl | rfl <;> rfl
def evOf (e : Pq.El) : Pa.ElV := ⟨e.v, some ⟨e.tb, 0, none⟩, e.ts.length, e.ts.length, e.neg, e.mn, e.mx, (match e.pb with | none => none | some b => some ⟨b, 0, none⟩), (match e.pb with | none => 0 | some _ => e.nds.length), (match e.pb with | none => 0 | some _ => e.nds.length)⟩
theorem evOf_cells (e : Pq.El) (j : Nat) (hj : j < 6) : e.cells[j]? = some ((evOf e).val j) := by
  obtain ⟨v, tb, ts, neg, mn, mx, pb, nds⟩ := e
  rcases (show j = 0 ∨ j = 1 ∨ j = 2 ∨ j = 3 ∨ j = 4 ∨ j = 5 from by omega) with rfl | rfl | rfl | rfl | rfl | rfl <;> cases pb <;> rfl
def elAt (es : List Pq.El) (k : Nat) : Pa.ElV := evOf (es.getD k dEl)
theorem get_at {es : List Pq.El} {k : Nat} (h : k < es.length) : es.getD k dEl = es[k] := by rw [List.getD_eq_getElem?_getD, List.getElem?_eq_getElem h]; rfl
theorem len_nds (l : List Pq.Nd) : (l.flatMap Pq.Nd.cells).length = l.length * 7 := by
  induction l with
  | nil => rfl
  | cons a l ih => rw [List.flatMap_cons, List.length_append, ih, List.length_cons]; simp [Pq.Nd.cells]; omega
theorem co_of {w : World} {B : Nat} {P : Nat → Prop} {e : Pq.El} (h : Pq.ElOk w B P e) : Co w (fun _ => True) (evOf e) (tF e) (nF e) := by
  have hl := h.ln
  refine ⟨.inr ⟨fun j hj => ⟨e.tb, 0, _, rfl, trivial, h.ts.1, ?_⟩, ?_⟩, ?_⟩
  · have hj' : j < e.ts.length := hj
    have : (e.ts.map Value.string)[j]? = some (.string e.ts[j]) := by simp [hj']
    unfold tF
    rw [getD_in this, Nat.zero_add]
    simp [hj']
  · show 0 < e.ts.length ∧ e.ts.length ≤ 100 ∧ e.ts.length ≤ e.ts.length ∧ e.ts.length ≤ maxLen
    unfold maxLen
    omega
  · cases hb : e.pb with
    | none => exact .inl ⟨by simp [evOf, hb], by simp [evOf, hb], by simp [evOf, hb]⟩
    | some b =>
      have hpos : 0 < e.nds.length := by
        rcases Nat.eq_zero_or_pos e.nds.length with h0 | h0
        · have := h.no.2 (List.eq_nil_of_length_eq_zero h0)
          rw [hb] at this; cases this
        · exact h0
      refine .inr ⟨?_, ?_⟩
      · have hA : (evOf e).pA = some ⟨b, 0, none⟩ := by simp [evOf, hb]
        have hN : (evOf e).pn = e.nds.length := by simp [evOf, hb]
        rw [hA, hN]
        intro j hj
        refine ⟨b, 0, _, rfl, trivial, (h.pr b hb).1, ?_⟩
        have hj2 : j < (e.nds.flatMap Pq.Nd.cells).length := by rw [len_nds]; exact hj
        unfold nF
        rw [getD_in (List.getElem?_eq_getElem hj2), Nat.zero_add]
        simp
      · have hN : (evOf e).pn = e.nds.length := by simp [evOf, hb]
        have hC : (evOf e).pc = e.nds.length := by simp [evOf, hb]
        rw [hN, hC]
        unfold maxLen
        omega
theorem qi_le {w0 w : World} {qb : Nat} {v : Value} {win cap : Int} {es : List Pq.El} (h : Pq.QI w0 w qb v win cap es) (hn : 0 < es.length) :
    ∃ g o c, v = .slice (some ⟨g, o, none⟩) es.length c ∧ Pa.LE w g o es.length (elAt es) ∧ (∀ k, k < es.length → Co w (fun _ => True) (elAt es k) (tF (es.getD k dEl)) (nF (es.getD k dEl))) ∧ es.length ≤ c ∧ c ≤ maxLen := by
  obtain ⟨ob, hs, hob, h3'⟩ := h.sg
  obtain ⟨h0, A, cap', hv, h1, h2, h3⟩ := hs
  rcases h3 with ⟨h3, _⟩ | ⟨g, o, cur, a1, a2, a3, a4, a5⟩
  · omega
  · refine ⟨g, o, cap', by rw [hv, a1], ⟨cur, a3, fun k hk j hj => ?_⟩, fun k hk => ?_, h1, h2⟩
    · unfold elAt
      rw [get_at hk]
      have hf := flat_get es k hk j _ (evOf_cells es[k] j hj)
      rw [← a5, List.getElem?_take, if_pos (by omega), List.getElem?_drop] at hf
      rw [Nat.add_assoc]
      simpa using hf
    · unfold elAt
      rw [get_at hk]
      exact co_of (h3' _ (List.getElem_mem hk))
end Go.Proofs.Ytopbildpeojgoaa.Ps
end

section
namespace Go.Proofs.Ytopbildpeojgoaa.Ps
open Go.RowKit Go.Proofs.Ytopbildpeojgoaa Go.Proofs.Ytopbildpeojgoaa.Sch Go.Proofs.Ytopbildpeojgoaa.Ty Go.Proofs.Ytopbildpeojgoaa.Ck Go.Proofs.Ytopbildpeojgoaa.Pc
set_option linter.unusedVariables false
set_option maxRecDepth 100000
theorem tF_at {e : Pq.El} {j : Nat} (h : j < e.ts.length) : tF e j = .string e.ts[j] := by
  unfold tF
  exact getD_in (by simp [h])
theorem sl_r {w : World} {P : Nat → Prop} {A : Option Addr} {c : Nat} {e : Pq.El} (h : RCell w 9 P A e.ts.length (tF e)) (h1 : e.ts.length ≤ c) (h2 : c ≤ maxLen) : SL w w.heap.size (.slice A e.ts.length c) e.ts :=
  ⟨A, c, rfl, h1, by unfold maxLen at h2; omega, fun k hk => by
    obtain ⟨g, o, cs, e1, _, hr, hc⟩ := h k hk
    refine ⟨g, o, e1, hr.lt, ?_⟩
    rw [hr.cell, hc, tF_at hk]⟩
theorem nF_cells {e : Pq.El} {k j : Nat} {u : Value} (hk : k < e.nds.length) (hu : ((toN e.nds[k]).cells)[j]? = some u) : nF e (k * 7 + j) = u := by
  unfold nF
  rw [← ncells_map]
  exact getD_in (ncells_get (e.nds.map toN) k (by simpa using hk) j u (by simpa using hu))
theorem cells_lt (n : Nd) {j : Nat} {u : Value} (h : (n.cells)[j]? = some u) : j < 7 := by
  have := (List.getElem?_eq_some_iff.1 h).1
  simpa [Nd.cells] using this
theorem ns_r {w : World} {P : Nat → Prop} {A : Option Addr} {c : Nat} {e : Pq.El} (h0 : 0 < e.nds.length) (h : RCell w 86 P A (e.nds.length * 7) (nF e)) (h1 : e.nds.length ≤ c) (h2 : c ≤ maxLen) : Ns w w.heap.size (.slice A e.nds.length c) (e.nds.map toN) := by
  refine ⟨A, c, by simp, by simpa using h1, by unfold maxLen at h2; omega, fun k hk => ?_⟩
  have hk' : k < e.nds.length := by simpa using hk
  obtain ⟨g, o, cs, e1, _, hr, hc⟩ := h (k * 7) (by omega)
  refine ⟨g, o, e1, hr.lt, fun j u hj => ?_⟩
  rw [List.getElem_map] at hj
  have hj7 := cells_lt _ hj
  obtain ⟨g', o', cs', e2, _, hr', hc'⟩ := h (k * 7 + j) (by omega)
  rw [e1] at e2
  injection e2 with e2
  injection e2 with a1 a2
  subst a1 a2
  rw [Nat.add_assoc, hr'.cell, hc', nF_cells hk' hj]
/-- A copy: its elements at ⟨g, o⟩, their lists in rows of their kinds. -/
structure CQ (w : World) (B g o : Nat) (es : List Pq.El) (E : Nat → Pa.ElV) : Prop where
  le : Pa.LE w g o es.length E
  al : ∀ k (h : k < es.length), (E k).v = es[k].v ∧ (E k).neg = es[k].neg ∧ (E k).mn = es[k].mn ∧ (E k).mx = es[k].mx ∧ (E k).tn = es[k].ts.length ∧ (E k).pn = es[k].nds.length
  ts : ∀ k (h : k < es.length), RCell w 9 (fun b => B ≤ b ∧ b ≠ g) (E k).tA es[k].ts.length (tF es[k]) ∧ es[k].ts.length ≤ (E k).tc ∧ (E k).tc ≤ maxLen
  ps : ∀ k (h : k < es.length), (es[k].nds = [] ∧ (E k).pc = 0) ∨ (RCell w 86 (fun b => B ≤ b ∧ b ≠ g) (E k).pA (es[k].nds.length * 7) (nF es[k]) ∧ 0 < es[k].nds.length ∧ es[k].nds.length ≤ (E k).pc ∧ (E k).pc ≤ maxLen)
  ge : B ≤ g
theorem CQ.call {w w' : World} {B g o : Nat} {es : List Pq.El} {E : Nat → Pa.ElV} (h : CQ w B g o es E) (hb : Below w.heap.size w w') : CQ w' B g o es E :=
  ⟨h.le.call hb, h.al, fun k hk => ⟨(h.ts k hk).1.call hb, (h.ts k hk).2⟩, fun k hk => (h.ps k hk).imp id (fun x => ⟨x.1.call hb, x.2⟩), h.ge⟩
theorem cq_of {w w' : World} {g o : Nat} {es : List Pq.El} {E : Nat → Pa.ElV} (h : Copied w w' g o es.length (elAt es) E (fun k => tF (es.getD k dEl)) (fun k => nF (es.getD k dEl))) (hts : ∀ k (h : k < es.length), 0 < es[k].ts.length) (hpn : ∀ k (hk : k < es.length), (evOf es[k]).pn = es[k].nds.length) : CQ w' (w.heap.size + 2) g o es E := by
  have hal : ∀ k (hk : k < es.length), (E k).v = es[k].v ∧ (E k).neg = es[k].neg ∧ (E k).mn = es[k].mn ∧ (E k).mx = es[k].mx ∧ (E k).tn = es[k].ts.length ∧ (E k).pn = es[k].nds.length := fun k hk => by
    have := h.al k hk
    unfold elAt at this
    rw [get_at hk] at this
    obtain ⟨a, b, c, d, e, f⟩ := this
    exact ⟨a, b, c, d, e, f.trans (hpn k hk)⟩
  refine ⟨h.le, hal, fun k hk => ?_, fun k hk => ?_, h.ge⟩
  · have := (h.co k hk).ts
    rw [get_at hk] at this
    obtain ⟨_, _, _, _, ht, _⟩ := hal k hk
    rcases this with ⟨_, x, _⟩ | ⟨x, _, _, y, z⟩
    · have := hts k hk; omega
    · rw [ht] at x y; exact ⟨x, y, z⟩
  · have := (h.co k hk).ps
    rw [get_at hk] at this
    obtain ⟨_, _, _, _, _, hp⟩ := hal k hk
    rcases this with ⟨_, x, xc⟩ | ⟨x, x0, _, y, z⟩
    · exact .inl ⟨List.eq_nil_of_length_eq_zero (by omega), xc⟩
    · rw [hp] at x x0 y; exact .inr ⟨x, x0, y, z⟩
theorem CQ.qs {w : World} {B g o c : Nat} {es : List Pq.El} {E : Nat → Pa.ElV} (h : CQ w B g o es E) (h1 : es.length ≤ c) (h2 : c ≤ maxLen) : Qs w w.heap.size (.slice (some ⟨g, o, none⟩) es.length c) (es.map toQ) := by
  refine ⟨some ⟨g, o, none⟩, c, by simp, by simpa using h1, by unfold maxLen at h2; omega, fun k hk => ?_⟩
  have hk' : k < es.length := by simpa using hk
  obtain ⟨a, b, d, e, f, f2⟩ := h.al k hk'
  have c0 := h.le.cell hk' (j := 0) (by omega)
  have c1 := h.le.cell hk' (j := 1) (by omega)
  have c2 := h.le.cell hk' (j := 2) (by omega)
  have c3 := h.le.cell hk' (j := 3) (by omega)
  have c4 := h.le.cell hk' (j := 4) (by omega)
  have c5 := h.le.cell hk' (j := 5) (by omega)
  simp only [Pa.ElV.val, a, b, d, e, f, f2] at c0 c1 c2 c3 c4 c5
  rw [List.getElem_map]
  refine ⟨g, o, _, _, rfl, h.le.lt, c0, c1, c2, c3, c4, c5, sl_r (h.ts k hk').1 (h.ts k hk').2.1 (h.ts k hk').2.2, ?_⟩
  rcases h.ps k hk' with ⟨x, xc⟩ | ⟨x, x0, y, z⟩
  · show Ns w w.heap.size (.slice (E k).pA es[k].nds.length (E k).pc) (es[k].nds.map toN)
    rw [x, xc]
    exact ns_zero _ _ _
  · exact ns_r x0 x y z
theorem row_ne {w : World} {b b' : Nat} {c c' : Array Value} (h : Row w b 9 c) (h' : Row w b' 86 c') : b' ≠ b := fun e => by
  subst e
  have h1 : w.heap[b']? = some (.cells c 9 (0, 0)) := h
  have h2 : w.heap[b']? = some (.cells c' 86 (0, 0)) := h'
  rw [h1] at h2
  injection h2 with h2
  injection h2 with _ h3 _
  exact absurd h3 (by decide)
/-- Texts, when a text is put somewhere into a row of texts. -/
theorem sl_put {w : World} {P : Nat → Prop} {A : Option Addr} {c tb off : Nat} {e : Pq.El} (h : RCell w 9 P A e.ts.length (tF e)) (h1 : e.ts.length ≤ c) (h2 : c ≤ maxLen) (z : ByteArray) (hz : ∃ cs, Row w tb 9 cs ∧ off < cs.size) :
    ∃ L, L.length = e.ts.length ∧ SL (w.setCell ⟨tb, off, none⟩ (.string z)) (w.setCell ⟨tb, off, none⟩ (.string z)).heap.size (.slice A e.ts.length c) L ∧ (A = some ⟨tb, off, none⟩ → 0 < e.ts.length → L[0]? = some z) := by
  obtain ⟨cs0, hr0, ho0⟩ := hz
  have key : ∀ k, k < e.ts.length → ∃ s, ∃ g o, A = some ⟨g, o, none⟩ ∧ g < (w.setCell ⟨tb, off, none⟩ (.string z)).heap.size ∧ (w.setCell ⟨tb, off, none⟩ (.string z)).cell? ⟨g, o + k, none⟩ = some (.string s) ∧ (g = tb → o + k = off → s = z) := fun k hk => by
    obtain ⟨g, o, cs, e1, _, hr, hc⟩ := h k hk
    rw [tF_at hk] at hc
    by_cases hg : g = tb
    · subst hg
      have hput := hr.put off (.string z)
      by_cases hk2 : o + k = off
      · refine ⟨z, g, o, e1, by simp; exact hr.lt, ?_, fun _ _ => rfl⟩
        rw [hput.cell, hk2, Array.getElem?_setIfInBounds_self_of_lt (by rw [← hk2]; exact (Array.getElem?_eq_some_iff.1 hc).1)]
      · refine ⟨e.ts[k], g, o, e1, by simp; exact hr.lt, ?_, fun _ x => absurd x hk2⟩
        rw [hput.cell, Array.getElem?_setIfInBounds_ne (fun x => hk2 x.symm), hc]
    · refine ⟨e.ts[k], g, o, e1, by simp; exact hr.lt, ?_, fun x => absurd x hg⟩
      rw [(hr.past (p := ⟨tb, off, none⟩) hg (.string z)).cell, hc]
  refine ⟨(List.range e.ts.length).pmap (fun k hk => (key k hk).choose) (fun k hk => List.mem_range.1 hk), by simp, ⟨A, c, by simp, by simpa using h1, by unfold maxLen at h2; omega, fun k hk => ?_⟩, fun hA h0 => ?_⟩
  · have hk' : k < e.ts.length := by simpa using hk
    obtain ⟨g, o, e1, e2, e3, _⟩ := (key k hk').choose_spec
    refine ⟨g, o, e1, e2, ?_⟩
    rw [e3]
    simp
  · have hz0 : ∀ k (hk : k < e.ts.length), k = 0 → (key k hk).choose = z := fun k hk ek => by
      subst ek
      obtain ⟨g, o, e1, _, _, e4⟩ := (key 0 hk).choose_spec
      rw [hA] at e1
      injection e1 with e1
      injection e1 with a1 a2
      exact e4 a1.symm (by rw [← a2]; rfl)
    rw [List.getElem?_eq_getElem (by simpa using h0), List.getElem_pmap]
    congr 1
    exact hz0 _ (List.mem_range.1 (List.getElem_mem _)) (by simp)
theorem ns_put {w : World} {P : Nat → Prop} {A : Option Addr} {c tb off : Nat} {e : Pq.El} (h : (e.nds = [] ∧ c = 0) ∨ (RCell w 86 P A (e.nds.length * 7) (nF e) ∧ 0 < e.nds.length ∧ e.nds.length ≤ c ∧ c ≤ maxLen)) (z : ByteArray) (hz : ∃ cs, Row w tb 9 cs) :
    Ns (w.setCell ⟨tb, off, none⟩ (.string z)) (w.setCell ⟨tb, off, none⟩ (.string z)).heap.size (.slice A e.nds.length c) (e.nds.map toN) := by
  obtain ⟨cs0, hr0⟩ := hz
  rcases h with ⟨x, xc⟩ | ⟨x, x0, y, y2⟩
  · rw [x, xc]; exact ns_zero _ _ _
  · refine ns_r (P := fun _ => True) x0 (fun k hk => ?_) y y2
    obtain ⟨g, o, cs, e1, _, hr, hc⟩ := x k hk
    exact ⟨g, o, cs, e1, trivial, hr.past (p := ⟨tb, off, none⟩) (row_ne hr0 hr) _, hc⟩
/-- The copy, when its k-th element's first type is put another name. -/
theorem CQ.put {w : World} {B g o c : Nat} {es : List Pq.El} {E : Nat → Pa.ElV} (h : CQ w B g o es E) (h1 : es.length ≤ c) (h2 : c ≤ maxLen) {k : Nat} (hk : k < es.length) (hts : ∀ k (h : k < es.length), 0 < es[k].ts.length) (z : ByteArray) (hz : ∀ s, es[k].ts[0]? = some s → s ≠ z) :
    ∃ tb off, (E k).tA = some ⟨tb, off, none⟩ ∧ (∃ u, w.cell? ⟨tb, off, none⟩ = some (.string u)) ∧ w.frozen? ⟨tb, off, none⟩ = false ∧ B ≤ tb ∧ tb ≠ g ∧ tb < w.heap.size ∧
      ∃ q : List Qe, q.length = es.length ∧ (∀ i (a : i < q.length) (b : i < (es.map toQ).length), Like q[i] (es.map toQ)[i]) ∧ ¬ (∀ i (a : i < q.length) (b : i < (es.map toQ).length), q[i].ts = (es.map toQ)[i].ts) ∧ Qs (w.setCell ⟨tb, off, none⟩ (.string z)) (w.setCell ⟨tb, off, none⟩ (.string z)).heap.size (.slice (some ⟨g, o, none⟩) es.length c) q := by
  obtain ⟨tb, off, cs, e1, ⟨hB, hg⟩, hr, hc⟩ := (h.ts k hk).1 0 (hts k hk)
  have hoff : off < cs.size := by have := (Array.getElem?_eq_some_iff.1 hc).1; omega
  have hrow : ∃ cs, Row w tb 9 cs ∧ off < cs.size := ⟨cs, hr, hoff⟩
  have hL : ∀ i, ∃ L : List ByteArray, ∀ (hi : i < es.length), L.length = es[i].ts.length ∧ SL (w.setCell ⟨tb, off, none⟩ (.string z)) (w.setCell ⟨tb, off, none⟩ (.string z)).heap.size (.slice (E i).tA es[i].ts.length (E i).tc) L ∧ ((E i).tA = some ⟨tb, off, none⟩ → 0 < es[i].ts.length → L[0]? = some z) := fun i => by
    by_cases hi : i < es.length
    · obtain ⟨L, a, b, c⟩ := sl_put (h.ts i hi).1 (h.ts i hi).2.1 (h.ts i hi).2.2 z hrow
      exact ⟨L, fun _ => ⟨a, b, c⟩⟩
    · exact ⟨[], fun x => absurd x hi⟩
  refine ⟨tb, off, e1, ⟨_, by have := hr.cell off; rw [this]; simpa [tF_at (hts k hk)] using hc⟩, hr.free _, hB, hg, hr.lt, (List.range es.length).pmap (fun i hi => ({ toQ (es[i]'hi) with ts := (hL i).choose } : Qe)) (fun i hi => List.mem_range.1 hi), by simp, fun i a b => ?_, fun hall => ?_, ?_⟩
  · have hi : i < es.length := by simpa using b
    obtain ⟨l1, _⟩ := (hL i).choose_spec hi
    simp only [List.getElem_pmap, List.getElem_range, List.getElem_map]
    exact ⟨rfl, rfl, rfl, rfl, rfl, l1⟩
  · have := hall k (by simpa using hk) (by simpa using hk)
    simp only [List.getElem_pmap, List.getElem_range, List.getElem_map] at this
    obtain ⟨_, _, l3⟩ := (hL k).choose_spec hk
    have h0 := l3 e1 (hts k hk)
    have ht : (hL k).choose = es[k].ts := this
    rw [ht] at h0
    exact hz _ h0 rfl
  · refine ⟨some ⟨g, o, none⟩, c, by simp, by simpa using h1, by unfold maxLen at h2; omega, fun i hi => ?_⟩
    have hi' : i < es.length := by simpa using hi
    obtain ⟨a, b, d, e, f, f2⟩ := h.al i hi'
    have hle : Pa.LE (w.setCell ⟨tb, off, none⟩ (.string z)) g o es.length E := h.le.past (p := ⟨tb, off, none⟩) (fun x => hg x.symm) _
    have c0 := hle.cell hi' (j := 0) (by omega)
    have c1 := hle.cell hi' (j := 1) (by omega)
    have c2 := hle.cell hi' (j := 2) (by omega)
    have c3 := hle.cell hi' (j := 3) (by omega)
    have c4 := hle.cell hi' (j := 4) (by omega)
    have c5 := hle.cell hi' (j := 5) (by omega)
    simp only [Pa.ElV.val, a, b, d, e, f, f2] at c0 c1 c2 c3 c4 c5
    obtain ⟨_, l2, _⟩ := (hL i).choose_spec hi'
    simp only [List.getElem_pmap, List.getElem_range]
    exact ⟨g, o, _, _, rfl, hle.lt, c0, c1, c2, c3, c4, c5, l2, ns_put (h.ps i hi') z ⟨cs, hr⟩⟩
end Go.Proofs.Ytopbildpeojgoaa.Ps
end

section
namespace Go.Proofs.Ytopbildpeojgoaa.Ps
open Go.RowKit Go.Proofs.Ytopbildpeojgoaa Go.Proofs.Ytopbildpeojgoaa.Sch Go.Proofs.Ytopbildpeojgoaa.Ty Go.Proofs.Ytopbildpeojgoaa.Ck Go.Proofs.Ytopbildpeojgoaa.Pc
set_option linter.unusedVariables false
set_option maxRecDepth 100000
theorem idx_mem {l : List ByteArray} {nm : ByteArray} (h : nm ∈ l) : ∃ j : Nat, idx l nm = j ∧ ∃ hj : j < l.length, l[j].toList = nm.toList := by
  unfold idx
  split
  · rename_i k hk
    obtain ⟨h1, h2, _⟩ := List.findIdx?_eq_some_iff_getElem.1 hk
    exact ⟨k, rfl, h1, eq_of_beq h2⟩
  · rename_i hk
    have := List.findIdx?_eq_none_iff.1 hk nm h
    simp at this
theorem var_inj : ∀ i j : Nat, i < 4 → j < 4 → (Pq.varOf j).data.toList = (Pq.varOf i).data.toList → j = i := by
  intro i j hi hj
  match i, hi, j, hj with
  | 0, _, 0, _ => intro _; rfl
  | 1, _, 1, _ => intro _; rfl
  | 2, _, 2, _ => intro _; rfl
  | 3, _, 3, _ => intro _; rfl
  | 0, _, 1, _ => intro h; exact absurd h (by decide)
  | 0, _, 2, _ => intro h; exact absurd h (by decide)
  | 0, _, 3, _ => intro h; exact absurd h (by decide)
  | 1, _, 0, _ => intro h; exact absurd h (by decide)
  | 1, _, 2, _ => intro h; exact absurd h (by decide)
  | 1, _, 3, _ => intro h; exact absurd h (by decide)
  | 2, _, 0, _ => intro h; exact absurd h (by decide)
  | 2, _, 1, _ => intro h; exact absurd h (by decide)
  | 2, _, 3, _ => intro h; exact absurd h (by decide)
  | 3, _, 0, _ => intro h; exact absurd h (by decide)
  | 3, _, 1, _ => intro h; exact absurd h (by decide)
  | 3, _, 2, _ => intro h; exact absurd h (by decide)
theorem names_eq (es : List Pq.El) : (es.map toQ).map Qe.v = es.map Pq.El.v := by rw [List.map_map]; rfl
theorem find_self {es : List Pq.El} {n : Nat} (hg : Pq.Good n es) (hl : es.length ≤ 4) {i : Nat} {e : Pq.El} (he : es[i]? = some e) : idx ((es.map toQ).map Qe.v) e.v = (i : Nat) := by
  obtain ⟨hil, hie⟩ := List.getElem?_eq_some_iff.1 he
  rw [names_eq]
  obtain ⟨j, hj, hjl, hjt⟩ := idx_mem (l := es.map Pq.El.v) (nm := e.v) (by rw [← hie]; exact List.mem_map_of_mem (List.getElem_mem hil))
  rw [hj]
  have hjl' : j < es.length := by simpa using hjl
  rw [List.getElem_map, hg.var j _ (List.getElem?_eq_getElem hjl'), hg.var i e he, toList_data, toList_data] at hjt
  rw [var_inj i j (by omega) (by omega) hjt]
theorem find_none {es : List Pq.El} {n : Nat} (hg : Pq.Good n es) : idx ((es.map toQ).map Qe.v) ⟨#[110, 111, 110, 101]⟩ = -1 := by
  rw [names_eq]
  refine idx_miss fun j hj => ?_
  have hjl : j < es.length := by simpa using hj
  rw [List.getElem_map, hg.var j _ (List.getElem?_eq_getElem hjl), toList_data, toList_data]
  unfold Pq.varOf
  split <;> decide
def Cond (es : List Qe) (at' i : Nat) (e : Qe) : Prop := i = at' ∨ (i < at' ∧ e.neg = false ∧ e.mx = 1)
theorem nS_le (es : List Qe) (at' : Nat) : ∀ i, (scopeK es at' i).length ≤ i
  | 0 => Nat.le_refl _
  | i + 1 => by
    rw [scopeK_succ, List.length_append]
    have := nS_le es at' i
    have : (scP es at' i).length ≤ 1 := by
      unfold scP
      split
      · split <;> simp
      · simp
    omega
theorem scope_pre (es : List Qe) (at' : Nat) : ∀ d i, scopeK es at' (i + d) = scopeK es at' i ++ (scopeK es at' (i + d)).drop (scopeK es at' i).length
  | 0, i => by simp
  | d + 1, i => by
    rw [← Nat.add_assoc, scopeK_succ]
    have h := scope_pre es at' d i
    rw [h]
    simp [List.append_assoc]
theorem sc_get {es : List Qe} {at' i : Nat} {e : Qe} (he : es[i]? = some e) (hc : Cond es at' i e) : (scopeM es at')[(scopeK es at' i).length]? = some (e.v, e.ts) := by
  have hil : i < es.length := (List.getElem?_eq_some_iff.1 he).1
  have h1 := scopeK_yes (at' := at') he hc
  have h2 := scope_pre es at' (es.length - (i + 1)) (i + 1)
  rw [show i + 1 + (es.length - (i + 1)) = es.length by omega] at h2
  unfold scopeM
  rw [h2, h1, List.append_assoc, List.getElem?_append_right (Nat.le_refl _), Nat.sub_self]
  rfl
theorem first_ty {es : List Pq.El} {n : Nat} (hg : Pq.Good n es) {i : Nat} {e : Pq.El} (he : es[i]? = some e) : ∃ s r, e.ts = s :: r ∧ (s = ⟨#[65]⟩ ∨ s = ⟨#[66]⟩ ∨ s = ⟨#[67]⟩) := by
  obtain ⟨⟨k, hk⟩, _⟩ := hg.con i e he
  rw [hk]
  unfold Pq.tyL
  split
  · exact ⟨_, _, rfl, .inl rfl⟩
  · exact ⟨_, _, rfl, .inr (.inl rfl)⟩
  · exact ⟨_, _, rfl, .inr (.inr rfl)⟩
  · exact ⟨_, _, rfl, .inl rfl⟩
  · exact ⟨_, _, rfl, .inr (.inl rfl)⟩
  · exact ⟨_, _, rfl, .inl rfl⟩
end Go.Proofs.Ytopbildpeojgoaa.Ps
end
