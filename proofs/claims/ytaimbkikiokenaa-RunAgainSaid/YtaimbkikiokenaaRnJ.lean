/- The law RunOver: what it needs besides. -/
import Derived.Test.YtaimbkikiokenaaRnI
import Derived.Test.YtaimbkikiokenaaPqD
import Derived.Test.YtaimbkikiokenaaEvQ
namespace Go.Proofs.Ytaimbkikiokenaa.Rn
open Go.RowKit Go.Proofs.Ytaimbkikiokenaa Go.Proofs.Ytaimbkikiokenaa.Ev Go.Proofs.Ytaimbkikiokenaa.Pa Go.Proofs.Ytaimbkikiokenaa.Pq
set_option linter.unusedVariables false
set_option maxRecDepth 100000
/-- An element as it is read. -/
def evOf (e : El) : ElV := ⟨e.v, some ⟨e.tb, 0, none⟩, e.ts.length, e.ts.length, e.neg, e.mn, e.mx, (match e.pb with | none => none | some b => some ⟨b, 0, none⟩), (match e.pb with | none => 0 | some _ => e.nds.length), (match e.pb with | none => 0 | some _ => e.nds.length)⟩
theorem evOf_cells (e : El) (j : Nat) (hj : j < 6) : e.cells[j]? = some ((evOf e).val j) := by
  obtain ⟨v, tb, ts, neg, mn, mx, pb, nds⟩ := e
  rcases (show j = 0 ∨ j = 1 ∨ j = 2 ∨ j = 3 ∨ j = 4 ∨ j = 5 from by omega) with rfl | rfl | rfl | rfl | rfl | rfl <;> cases pb <;> rfl
def elAt (es : List El) (k : Nat) : ElV := evOf (es.getD k ⟨⟨#[]⟩, 0, [], false, 0, 0, none, []⟩)
theorem elAt_some {es : List El} {k : Nat} {e : El} (h : es[k]? = some e) : elAt es k = evOf e := by unfold elAt; rw [List.getD_eq_getElem?_getD, h]; rfl
theorem flat_at (es : List El) (k : Nat) (e : El) (h : es[k]? = some e) (j : Nat) (hj : j < 6) : (es.flatMap El.cells)[k * 6 + j]? = e.cells[j]? := by
  induction es generalizing k with
  | nil => simp at h
  | cons x es ih =>
    have hx : x.cells.length = 6 := rfl
    cases k with
    | zero =>
      simp at h
      subst h
      simp only [List.flatMap_cons, Nat.zero_mul, Nat.zero_add]
      rw [List.getElem?_append_left (by rw [hx]; exact hj)]
    | succ k =>
      simp only [List.flatMap_cons]
      rw [List.getElem?_append_right (by rw [hx]; omega), hx, show (k + 1) * 6 + j - 6 = k * 6 + j from by omega]
      exact ih k (by simpa using h)
/-- The elements of a query that was made lie in one block of the call's own. -/
theorem qi_le {w0 w : World} {qb : Nat} {v : Value} {win cap : Int} {es : List El} (h : QI w0 w qb v win cap es) (hn : 0 < es.length) :
    ∃ g o c, v = .slice (some ⟨g, o, none⟩) es.length c ∧ LE w g o es.length (elAt es) ∧ w0.heap.size ≤ g ∧ g ≠ qb ∧ es.length ≤ c := by
  obtain ⟨ob, hs, hob, _⟩ := h.sg
  obtain ⟨h0, A, cap', hv, h1, h2, h3⟩ := hs
  rcases h3 with ⟨h3, _⟩ | ⟨g, o, cur, a1, a2, a3, a4, a5⟩
  · omega
  · obtain ⟨g0, g1⟩ := hob g a2
    refine ⟨g, o, cap', by rw [hv, a1], ⟨cur, a3, fun k hk j hj => ?_⟩, g0, g1, h1⟩
    obtain ⟨e, he⟩ : ∃ e, es[k]? = some e := ⟨es[k], List.getElem?_eq_getElem hk⟩
    rw [elAt_some he, ← evOf_cells e j hj, ← flat_at es k e he j hj, ← a5, List.getElem?_take, if_pos (by omega), List.getElem?_drop]
    simp [Nat.add_assoc]
/-- An event's values, as event.Copy wants them. -/
theorem EvOk.vls {w : World} {B : Nat} {P : Nat → Prop} {e : EM} (h : EvOk w B P e) : Vls w (some ⟨e.vb, 0, none⟩) e.vs.length e.vs := .inr ⟨e.vb, rfl, rfl, by have := h.ln; omega, h.row⟩
theorem nxt_start (neg : Nat → Bool) (k : Nat) : nxt neg k (k + 1) = -1 := (Pa.early neg (k : Int) (k + 1) (fun j hj => by omega)).2.2
theorem nxt_step (neg : Nat → Bool) (k i : Nat) (hi : k < i) : decide (nxt neg k (i + 1) < 0) = (decide (nxt neg k i < 0) && neg i) := by
  have h : (k : Int) < (i : Int) := by omega
  cases hn : neg i with
  | true =>
    simp only [nxt, hn, Bool.and_true]
    simp
  | false =>
    simp only [nxt, hn, Bool.and_false]
    by_cases h0 : nxt neg k i < 0
    · rw [if_pos ⟨h0, h, trivial⟩]; simp
    · rw [if_neg (fun x => h0 x.1)]; simp; omega
/-- Where the law's own things lie: the numbers, the query, its elements, the events. -/
structure LO (w W : World) (nb qb g o N c : Nat) (win cap : Int) (E : Nat → ElV) (f : Nat → Int) (v : Value) (xs : List EM) : Prop where
  n : Row W nb 41 #[.int .i64 (f 0), .int .i64 (f 1), .int .i64 (f 2)]
  q : Row W qb 44 #[.slice (some ⟨g, o, none⟩) N c, .int .i64 win, .int .i64 cap]
  le : LE W g o N E
  ev : ∃ ob, Seg W 58 5 v xs.length (xs.flatMap EM.cells) ob ∧ (∀ j, ob = some j → w.heap.size ≤ j) ∧ ∀ e, e ∈ xs → EvOk W w.heap.size (fun j => ob = some j) e
  be : Below w.heap.size w W
  ge : w.heap.size ≤ nb ∧ w.heap.size ≤ qb ∧ w.heap.size ≤ g
theorem LO.call {w W W' : World} {nb qb g o N c : Nat} {win cap : Int} {E : Nat → ElV} {f : Nat → Int} {v : Value} {xs : List EM} (h : LO w W nb qb g o N c win cap E f v xs) (b : Below W.heap.size W W') : LO w W' nb qb g o N c win cap E f v xs := by
  obtain ⟨ob, h1, h2, h3⟩ := h.ev
  exact ⟨h.n.below b h.n.lt, h.q.below b h.q.lt, h.le.call b, ⟨ob, h1.turns (Turns.of_below b) (fun _ _ x => x), h2, fun e he => (h3 e he).call b⟩, h.be.trans (b.mono h.be.size), h.ge⟩
/-- A chain of which no thing lies in a block that turns stays: a thing that would lie there has not the cells that lie there. -/
theorem Ch.apart {K : Nat} {w w' : World} {rb : Nat} (t : Turns w w' (fun k => k = rb)) : ∀ {B : Nat} {p : Option Addr} {xs : List (List Value)}, Ch K w B p xs → (∀ x ∈ xs, ∃ (j : Nat) (u : Value), x[j]? = some u ∧ w.cell? ⟨rb, j, none⟩ ≠ some u) → Ch K w' B p xs
  | _, _, [], hl, _ => hl
  | _, _, x :: r, ⟨b, q, hp, hb, hk, h0, h1, h2, hr⟩, hx => by
    obtain ⟨j, u, hj, hu⟩ := hx x (by simp)
    have hne : ¬ b = rb := fun e => hu (by rw [← e]; exact h0 j u hj)
    have hlt : b < w.heap.size := World.block_lt_of_cell? w _ h1
    have hc : ∀ i, w'.cell? ⟨b, i, none⟩ = w.cell? ⟨b, i, none⟩ := fun i => by
      unfold World.cell?
      rw [t.block b hlt hne]
    exact ⟨b, q, hp, hb, hk, fun i v hi => (hc i).trans (h0 i v hi), (hc K).trans h1, (hc (K + 1)).trans h2, Ch.apart t hr (fun y hy => hx y (by simp [hy]))⟩
theorem row_ne {W : World} {b b' : Nat} {t t' : TypeId} {cs cs' : Array Value} (h : Row W b t cs) (h' : Row W b' t' cs') (ht : t ≠ t') : b ≠ b' := fun e => by
  subst e
  have := h.symm.trans h'
  injection this with e1
  injection e1 with _ e2
  exact ht e2
/-- A store into the run leaves the law's own things. -/
theorem LO.apart {w W W' : World} {nb qb g o N c rb : Nat} {win cap : Int} {E : Nat → ElV} {f : Nat → Int} {v : Value} {xs : List EM} {R : Array Value} (h : LO w W nb qb g o N c win cap E f v xs) (hr : Row W rb 52 R) (hrb : w.heap.size ≤ rb) (t : Turns W W' (fun k => k = rb)) : LO w W' nb qb g o N c win cap E f v xs := by
  obtain ⟨ob, h1, h2, h3⟩ := h.ev
  have hg : g ≠ rb := by
    obtain ⟨cs, k1, _⟩ := h.le.row
    exact row_ne k1 hr (by decide)
  have hob : ∀ b, ob = some b → ¬ b = rb := fun b e => by
    obtain ⟨_, A, cap', _, _, _, h5⟩ := h1
    rcases h5 with ⟨_, h6, _⟩ | ⟨g', o', cur, _, a2, a3, _⟩
    · rw [h6] at e; cases e
    · rw [a2] at e; injection e with e; subst e
      exact row_ne a3 hr (by decide)
  exact ⟨h.n.turns t (row_ne h.n hr (by decide)), h.q.turns t (row_ne h.q hr (by decide)), h.le.turns t hg, ⟨ob, h1.turns t hob, h2, fun e he =>
    ⟨(h3 e he).row.turns t (row_ne (h3 e he).row hr (by decide)), (h3 e he).ge, (h3 e he).ap, (h3 e he).tb, (h3 e he).ln⟩⟩, t.below h.be h.be.size (fun j hj e => by omega), h.ge⟩
end Go.Proofs.Ytaimbkikiokenaa.Rn
