/- The reference's queries: elements in memory. -/
import Derived.Test.YtaimbkikiokenaaPqB
namespace Go.Proofs.Ytaimbkikiokenaa.Pq
open Go.RowKit Go.Proofs.Ytaimbkikiokenaa
set_option linter.unusedVariables false
set_option maxRecDepth 100000

/-- An element: its types lie at tb, its predicate at pb (none: it has none). -/
structure El where
  v : ByteArray
  tb : Nat
  ts : List ByteArray
  neg : Bool
  mn : Int
  mx : Int
  pb : Option Nat
  nds : List Nd
def El.pv (e : El) : Value := match e.pb with
  | none => .slice none 0 0
  | some b => .slice (some ⟨b, 0, none⟩) e.nds.length e.nds.length
def El.cells (e : El) : List Value := [.string e.v, .slice (some ⟨e.tb, 0, none⟩) e.ts.length e.ts.length, .bool e.neg, .int .i64 e.mn, .int .i64 e.mx, e.pv]
/-- An element's lists lie apart from what may be written: no block of P is one of theirs. -/
structure ElOk (w : World) (B : Nat) (P : Nat → Prop) (e : El) : Prop where
  ts : Row w e.tb 9 (e.ts.map Value.string).toArray ∧ B ≤ e.tb ∧ ¬ P e.tb
  pr : ∀ b, e.pb = some b → Row w b 154 (e.nds.flatMap Nd.cells).toArray ∧ B ≤ b ∧ ¬ P b
  no : e.pb = none ↔ e.nds = []
  ln : 1 ≤ e.ts.length ∧ e.ts.length ≤ 3 ∧ e.nds.length ≤ 7
section
variable {w w' wx : World} {B B' : Nat} {P P' : Nat → Prop} {e : El}
theorem ElOk.turns {S : Nat → Prop} (h : ElOk w B P e) (g : Turns w w' S) (hs : ∀ k, k < w.heap.size → B ≤ k → S k → P k) : ElOk w' B P e :=
  ⟨⟨h.ts.1.turns g (fun x => h.ts.2.2 (hs _ h.ts.1.lt h.ts.2.1 x)), h.ts.2⟩, fun b hb => ⟨(h.pr b hb).1.turns g (fun x => (h.pr b hb).2.2 (hs _ (h.pr b hb).1.lt (h.pr b hb).2.1 x)), (h.pr b hb).2⟩, h.no, h.ln⟩
theorem ElOk.call (h : ElOk w B P e) (g : Below w.heap.size w w') : ElOk w' B P e := h.turns (Turns.of_below g) (fun _ _ _ x => x.elim)
theorem ElOk.mono (h : ElOk w B P e) (hB : B' ≤ B) (hp : ∀ k, k < w.heap.size → B ≤ k → P' k → P k) : ElOk w B' P' e :=
  ⟨⟨h.ts.1, by have := h.ts.2.1; omega, fun x => h.ts.2.2 (hp _ h.ts.1.lt h.ts.2.1 x)⟩, fun b hb => ⟨(h.pr b hb).1, by have := (h.pr b hb).2.1; omega, fun x => (h.pr b hb).2.2 (hp _ (h.pr b hb).1.lt (h.pr b hb).2.1 x)⟩, h.no, h.ln⟩
theorem ElOk.put (h : ElOk w B P e) {p : Addr} (hp : P p.block) (u : Value) : ElOk (w.setCell p u) B P e :=
  ⟨⟨h.ts.1.past (fun x => h.ts.2.2 (by rw [x]; exact hp)) u, h.ts.2⟩, fun b hb => ⟨(h.pr b hb).1.past (fun x => (h.pr b hb).2.2 (by rw [x]; exact hp)) u, (h.pr b hb).2⟩, h.no, h.ln⟩
/-- An element that is being made, at eb; what was there at w has not turned. -/
structure EI (w wx : World) (eb : Nat) (e : El) : Prop where
  be : Below w.heap.size w wx
  row : Row wx eb 62 e.cells.toArray
  ge : w.heap.size ≤ eb
  ok : ElOk wx w.heap.size (fun k => k = eb) e
theorem EI.call {eb : Nat} (h : EI w wx eb e) (g : Below wx.heap.size wx w') : EI w w' eb e := ⟨h.be.trans (g.mono h.be.size), h.row.below g h.row.lt, h.ge, h.ok.call g⟩
theorem EI.putNeg {eb : Nat} (h : EI w wx eb e) (b : Bool) : EI w (wx.setCell ⟨eb, 2, none⟩ (.bool b)) eb { e with neg := b } :=
  ⟨h.be.setCell (p := ⟨eb, 2, none⟩) h.ge _, h.row.put 2 (.bool b), h.ge, let k := h.ok.put (p := ⟨eb, 2, none⟩) rfl (.bool b); ⟨k.ts, k.pr, k.no, k.ln⟩⟩
theorem EI.putMin {eb : Nat} (h : EI w wx eb e) (b : Int) : EI w (wx.setCell ⟨eb, 3, none⟩ (.int .i64 b)) eb { e with mn := b } :=
  ⟨h.be.setCell (p := ⟨eb, 3, none⟩) h.ge _, h.row.put 3 (.int .i64 b), h.ge, let k := h.ok.put (p := ⟨eb, 3, none⟩) rfl (.int .i64 b); ⟨k.ts, k.pr, k.no, k.ln⟩⟩
theorem EI.putMax {eb : Nat} (h : EI w wx eb e) (b : Int) : EI w (wx.setCell ⟨eb, 4, none⟩ (.int .i64 b)) eb { e with mx := b } :=
  ⟨h.be.setCell (p := ⟨eb, 4, none⟩) h.ge _, h.row.put 4 (.int .i64 b), h.ge, let k := h.ok.put (p := ⟨eb, 4, none⟩) rfl (.int .i64 b); ⟨k.ts, k.pr, k.no, k.ln⟩⟩
theorem EI.putPred {eb : Nat} {u : Value} {L : List Nd} (h : EI w wx eb e) (hp : Preds wx w' u L) (hl : L.length ≤ 7) : ∃ pb, EI w (w'.setCell ⟨eb, 5, none⟩ u) eb { e with pb := pb, nds := L } := by
  have h1 := h.call hp.be
  have he : eb < wx.heap.size := h.row.lt
  have hz := h.be.size
  rcases hp.is with ⟨rfl, rfl⟩ | ⟨b, rfl, hb, hr, hnn⟩
  · refine ⟨none, h1.be.setCell (p := ⟨eb, 5, none⟩) h.ge _, h1.row.put 5 (.slice none 0 0), h.ge, ?_⟩
    have k := h1.ok.put (p := ⟨eb, 5, none⟩) rfl (.slice none 0 0)
    exact ⟨k.ts, fun b hb => (by cases hb), ⟨fun _ => rfl, fun _ => rfl⟩, ⟨k.ln.1, k.ln.2.1, by simp⟩⟩
  · refine ⟨some b, h1.be.setCell (p := ⟨eb, 5, none⟩) h.ge _, h1.row.put 5 _, h.ge, ?_⟩
    have k := h1.ok.put (p := ⟨eb, 5, none⟩) rfl (.slice (some ⟨b, 0, none⟩) L.length L.length)
    exact ⟨k.ts, fun b' hb' => (by cases hb'; exact ⟨hr.past (by show b ≠ eb; omega) _, by omega, by omega⟩), ⟨fun hx => (by cases hx), fun hx => absurd hx hnn⟩, ⟨k.ln.1, k.ln.2.1, hl⟩⟩
end
def varOf (i : Nat) : ByteArray := match i with
  | 0 => ⟨#[97]⟩
  | 1 => ⟨#[98]⟩
  | 2 => ⟨#[99]⟩
  | _ => ⟨#[101]⟩
/-- What is so of the first elements of n. -/
structure Good (n : Nat) (es : List El) : Prop where
  var : ∀ i e, es[i]? = some e → e.v = varOf i
  lo : ∀ e, e ∈ es → 1 ≤ e.mn ∧ e.mn ≤ e.mx ∧ e.mx ≤ 3 ∧ (e.neg = true → e.mn = 1 ∧ e.mx = 1)
  neg : ∀ i e, es[i]? = some e → e.neg = true → 0 < i ∧ i + 1 < n
  con : ∀ (i : Nat) (e : El), es[i]? = some e → (∃ k, e.ts = tyL k) ∧ ∃ x o, 0 ≤ x ∧ x ≤ 16777216 ∧ e.nds = predL x e.v o ∧ (o = e.v ∨ (o = ⟨#[97]⟩ ∧ ∃ e0, es[0]? = some e0 ∧ e0.mx = 1))
/-- A query at qb. -/
structure QI (w0 w : World) (qb : Nat) (v : Value) (win cap : Int) (es : List El) : Prop where
  row : Row w qb 44 #[v, .int .i64 win, .int .i64 cap]
  sg : ∃ ob, Seg w 62 6 v es.length (es.flatMap El.cells) ob ∧ (∀ g, ob = some g → w0.heap.size ≤ g ∧ g ≠ qb) ∧ ∀ e, e ∈ es → ElOk w w0.heap.size (fun k => ob = some k ∨ k = qb) e
  be : Below w0.heap.size w0 w
  ge : w0.heap.size ≤ qb
section
variable {w0 w w' wx w2 : World} {qb eb : Nat} {v v2 : Value} {win cap : Int} {es : List El} {e : El}
theorem QI.call (h : QI w0 w qb v win cap es) (g : Below w.heap.size w w') : QI w0 w' qb v win cap es := by
  obtain ⟨ob, h1, h2, h3⟩ := h.sg
  exact ⟨h.row.below g h.row.lt, ⟨ob, h1.turns (Turns.of_below g) (fun _ _ h => h), h2, fun e he => (h3 e he).call g⟩, h.be.trans (g.mono h.be.size), h.ge⟩
theorem elem_info : (Try.prog.info? 62).map (fun i => (i.zero, i.size, i.bytes)) = some (some (.agg #[.string ⟨#[]⟩, .slice none 0 0, .bool false, .int .i64 0, .int .i64 0, .slice none 0 0]), 6, 88) := by kernel_rfl
theorem flat_len (es : List El) : (es.flatMap El.cells).length = es.length * 6 := by
  induction es with
  | nil => rfl
  | cons e es ih => simp only [List.flatMap_cons, List.length_append, List.length_cons, ih]; simp [El.cells]; omega
/-- The element is put behind the others; then the query has the new list. -/
theorem QI.more (h : QI w0 w qb v win cap es) (he : EI w wx eb e) {ob ob2 : Option Nat} (hob : ∀ g, ob = some g → w0.heap.size ≤ g ∧ g ≠ qb) (h3 : ∀ e, e ∈ es → ElOk w w0.heap.size (fun k => ob = some k ∨ k = qb) e) (hol : ∀ g, ob = some g → g < w.heap.size)
    (hs : Seg w2 62 6 v2 (es.length + 1) (es.flatMap El.cells ++ e.cells) ob2) (ht : Turns wx w2 (fun k => ob = some k)) (ho : ob2 = ob ∨ ∃ g, ob2 = some g ∧ wx.heap.size ≤ g) :
    QI w0 (w2.setCell ⟨qb, 0, none⟩ v2) qb v2 win cap (es ++ [e]) := by
  have z0 := h.be.size
  have z1 := he.be.size
  have z2 := h.row.lt
  have hqx : Row wx qb 44 #[v, .int .i64 win, .int .i64 cap] := h.row.below he.be h.row.lt
  have hq2 := hqx.turns ht (fun x => (hob qb x).2 rfl)
  have ob2ge : ∀ g, ob2 = some g → w0.heap.size ≤ g ∧ g ≠ qb := fun g hg => by
    rcases ho with x | ⟨g', x, y⟩
    · exact hob g (by rw [← x, hg])
    · rw [x] at hg; injection hg with hg; omega
  refine ⟨hq2.put 0 v2, ⟨ob2, ?_, ob2ge, fun e' he' => ?_⟩, ((ht.below (h.be.trans (he.be.mono z0)) (by omega) (fun k hk x => by have := (hob k x).1; omega))).setCell (p := ⟨qb, 0, none⟩) h.ge _, h.ge⟩
  · have : Seg (w2.setCell ⟨qb, 0, none⟩ v2) 62 6 v2 (es.length + 1) (es.flatMap El.cells ++ e.cells) ob2 :=
      hs.turns (S := fun k => k = qb) ((Turns.refl w2 _).put qb 0 v2 (fun _ => rfl)) (fun g hg x => (ob2ge g hg).2 x)
    rw [List.length_append, List.flatMap_append]
    simpa using this
  · have key : ElOk w2 w0.heap.size (fun k => ob2 = some k ∨ k = qb) e' := by
      rcases List.mem_append.1 he' with hm | hm
      · have k1 := ((h3 e' hm).call he.be).turns ht (fun k _ _ x => .inl x)
        refine ⟨⟨k1.ts.1, k1.ts.2.1, fun x => ?_⟩, fun b hb => ⟨(k1.pr b hb).1, (k1.pr b hb).2.1, fun x => ?_⟩, k1.no, k1.ln⟩
        · rcases x with x | x
          · rcases ho with y | ⟨g', y, y'⟩
            · exact k1.ts.2.2 (.inl (by rw [← y, x]))
            · rw [y] at x; injection x with x
              have := ((h3 e' hm).ts.1).lt
              omega
          · exact k1.ts.2.2 (.inr x)
        · rcases x with x | x
          · rcases ho with y | ⟨g', y, y'⟩
            · exact (k1.pr b hb).2.2 (.inl (by rw [← y, x]))
            · rw [y] at x; injection x with x
              have := (((h3 e' hm).pr b hb).1).lt
              omega
          · exact (k1.pr b hb).2.2 (.inr x)
      · obtain rfl := List.mem_singleton.1 hm
        have k0 := he.ok
        have k1 : ElOk wx w0.heap.size (fun k => ob2 = some k ∨ k = qb ∨ ob = some k) e' := k0.mono z0 (fun k hk hB x => by
          rcases x with x | x | x
          · rcases ho with y | ⟨g', y, y'⟩
            · have := hol k (by rw [← y, x]); omega
            · rw [y] at x; injection x with x; omega
          · omega
          · have := hol k x; omega)
        exact (k1.turns ht (fun k _ _ x => .inr (.inr x))).mono (Nat.le_refl _) (fun k _ _ x => x.elim .inl (fun y => .inr (.inl y)))
    exact key.put (p := ⟨qb, 0, none⟩) (.inr rfl) v2
end
end Go.Proofs.Ytaimbkikiokenaa.Pq
