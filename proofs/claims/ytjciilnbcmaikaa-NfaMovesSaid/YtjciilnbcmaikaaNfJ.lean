/- Where beginnings may be, of a query that was made: made of the query. -/
import Derived.Test.YtjciilnbcmaikaaNfI
namespace Go.Proofs.Ytjciilnbcmaikaa.Nf
open Go.RowKit Go.Proofs.Ytjciilnbcmaikaa Go.Proofs.Ytjciilnbcmaikaa.Pa Go.Proofs.Ytjciilnbcmaikaa.Pc Go.Proofs.Ytjciilnbcmaikaa.Pq
set_option linter.unusedVariables false
set_option maxRecDepth 100000

def tT (e : El) (k : Nat) : Value := ((e.ts.map Value.string)[k]?).getD (.bool false)
def tN (e : El) (k : Nat) : Value := ((e.nds.flatMap Nd.cells)[k]?).getD (.bool false)
theorem tT_one (e : El) (k : Nat) : (tT e k).oneCell' = true := by
  unfold tT
  rw [List.getElem?_map]
  cases e.ts[k]? <;> rfl
theorem tN_one (e : El) (k : Nat) : (tN e k).oneCell' = true := by
  unfold tN
  cases h : (e.nds.flatMap Nd.cells)[k]? with
  | none => rfl
  | some v =>
    obtain ⟨n, _, hv⟩ := List.mem_flatMap.1 (List.mem_of_getElem? h)
    simp only [Nd.cells, List.mem_cons, List.not_mem_nil, or_false] at hv
    rcases hv with rfl | rfl | rfl | rfl | rfl | rfl | rfl <;> rfl
theorem nds_len (l : List Nd) : (l.flatMap Nd.cells).length = l.length * 7 := by
  induction l with
  | nil => rfl
  | cons a l ih => rw [List.flatMap_cons, List.length_append, ih]; simp [Nd.cells]; omega
theorem co_of {w : World} {B : Nat} {P : Nat → Prop} {e : El} (h : ElOk w B P e) : Co w (fun _ => True) (evOf e) (tT e) (tN e) := by
  have ln := h.ln
  refine ⟨.inr ⟨fun k hk => ⟨e.tb, 0, rfl, trivial, h.ts.1.lt, ?_⟩, by show 0 < e.ts.length; omega, by show e.ts.length ≤ 100; omega⟩, ?_⟩
  · have hk : k < e.ts.length := hk
    rw [Nat.zero_add]
    refine (h.ts.1.cell k).trans ?_
    simp [tT, hk]
  · cases hp : e.pb with
    | none => exact .inl ⟨by simp [evOf, hp], by simp [evOf, hp], by simp [evOf, hp]⟩
    | some b =>
      have hne : e.nds ≠ [] := fun x => by have := h.no.2 x; rw [hp] at this; cases this
      have hpos : 0 < e.nds.length := List.length_pos_iff.2 hne
      have e1 : (evOf e).pA = some ⟨b, 0, none⟩ := by simp [evOf, hp]
      have e2 : (evOf e).pn = e.nds.length := by simp [evOf, hp]
      refine .inr ⟨fun k hk => ⟨b, 0, e1, trivial, (h.pr b hp).1.lt, ?_⟩, by omega, by omega⟩
      rw [e2] at hk
      rw [Nat.zero_add]
      refine ((h.pr b hp).1.cell k).trans ?_
      have hk2 : k < (e.nds.flatMap Nd.cells).length := by rw [nds_len]; exact hk
      rw [List.getElem?_toArray, tN, List.getElem?_eq_getElem hk2]
      rfl
theorem keeps_of {es : List El} (hg : Pq.Good es.length es) (h : 1 ≤ es.length) : Keeps (elAt es) es.length := by
  refine ⟨?_, fun k hk => ?_⟩
  · have h0 : es[0]? = some es[0] := List.getElem?_eq_getElem (by omega)
    rw [elAt_some h0]
    show (es[0]).neg = false
    cases hn : (es[0]).neg with
    | false => rfl
    | true => have := hg.neg 0 _ h0 hn; omega
  · have h0 : es[k]? = some es[k] := List.getElem?_eq_getElem hk
    rw [elAt_some h0]
    have := hg.lo es[k] (List.getElem_mem hk)
    exact ⟨this.1, this.2.1, this.2.2.1⟩
theorem keeps_ext {E E' : Nat → ElV} {n : Nat} (hn : 0 < n) (h : Keeps E n) (ha : ∀ k, k < n → Pc.Alike (E' k) (E k)) : Keeps E' n :=
  ⟨(ha 0 hn).2.1.trans h.1, fun k hk => by rw [(ha k hk).2.2.1, (ha k hk).2.2.2.1]; exact h.2 k hk⟩
def NewR (w : World) (n : Nat) (win cap : Int) (E : Nat → ElV) (e : Ending) (w' : World) : Prop := ∃ nb g o c E' sg so sc, e = .returned (.pointer (some ⟨nb, 0, none⟩)) ∧ NR w' nb g o n c win cap E' sg so sc (sts E' n) ∧ Keeps E' n ∧ (∀ k, k < n → Pc.Alike (E' k) (E k)) ∧ w.heap.size ≤ nb ∧ Below w.heap.size w w'
theorem new_q (w0 w wx : World) (qb g0 o0 c0 : Nat) (win cap : Int) (es : List El) (hq : QI w0 w qb (.slice (some ⟨g0, o0, none⟩) es.length c0) win cap es) (hg : Pq.Good es.length es) (h1 : 1 ≤ es.length) (h4 : es.length ≤ 4) (hb : Below w.heap.size w wx) (hle : LE wx g0 o0 es.length (elAt es)) :
    Calls Try.prog 50 #[.agg #[.slice (some ⟨g0, o0, none⟩) es.length c0, .int .i64 win, .int .i64 cap]] wx (NewR wx es.length win cap (elAt es)) := by
  have hK := keeps_of hg h1
  obtain ⟨ob, _, _, hok⟩ := hq.sg
  refine (new_any g0 o0 es.length c0 win cap (elAt es) (fun k => tT (es.getD k ⟨⟨#[]⟩, 0, [], false, 0, 0, none, []⟩)) (fun k => tN (es.getD k ⟨⟨#[]⟩, 0, [], false, 0, 0, none, []⟩)) wx hle ?_ (fun k j => ⟨tT_one _ _, tN_one _ _⟩) (by omega) (by omega) (fun k hk => by have := hK.2 k hk; omega)).mono ?_
  · intro k hk
    have h0 : es[k]? = some es[k] := List.getElem?_eq_getElem hk
    have := (co_of (hok es[k] (List.getElem_mem hk))).call hb
    unfold elAt
    rw [List.getD_eq_getElem?_getD, h0]
    exact this
  · rintro e w' ⟨nb, g, o, c, E', v, rfl, hn, ha⟩
    have hl := sts_len (elAt es) es.length (fun k hk => by have := hK.2 k hk; omega) es.length (Nat.le_refl _)
    have hgn := hn.ge.1
    have hbe := hn.be
    rw [← sts_ext es.length ha] at hn hl
    obtain ⟨sg, so, sc, hr⟩ := NF.read hn (by omega)
    exact ⟨nb, g, o, c, E', sg, so, sc, rfl, hr, keeps_ext (by omega) hK ha, ha, hgn, hbe⟩
end Go.Proofs.Ytjciilnbcmaikaa.Nf
