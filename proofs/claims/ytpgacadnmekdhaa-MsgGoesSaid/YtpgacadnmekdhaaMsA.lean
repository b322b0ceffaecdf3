/- Messages: their cells; when two of them are alike. -/
import Derived.Test.YtpgacadnmekdhaaEvB
namespace Go.Proofs.Ytpgacadnmekdhaa.Ms
open Go.RowKit Go.Proofs.Ytpgacadnmekdhaa Go.Proofs.Ytpgacadnmekdhaa.Ev
set_option linter.unusedVariables false
set_option maxRecDepth 100000

/-- A list of values, wherever it lies. -/
def VS (w : World) (A : Option Addr) (c : Nat) (vs : List VV) : Prop := vs.length ≤ c ∧ c ≤ 9223372036854775807 ∧
  ∀ i x, vs[i]? = some x → ∃ g o, A = some ⟨g, o, none⟩ ∧ g < w.heap.size ∧ w.cell? ⟨g, o + i * 4, none⟩ = some (.int .i64 x.k) ∧ w.cell? ⟨g, o + i * 4 + 1, none⟩ = some (.int .i64 x.i) ∧ w.cell? ⟨g, o + i * 4 + 2, none⟩ = some (.string x.s) ∧ w.cell? ⟨g, o + i * 4 + 3, none⟩ = some (.bool x.b)
section
variable {w w' : World} {A : Option Addr} {c : Nat} {vs : List VV}
theorem VS.call (h : VS w A c vs) (hb : Below w.heap.size w w') : VS w' A c vs := ⟨h.1, h.2.1, fun i x hx => by
  obtain ⟨g, o, e, hg, h0, h1, h2, h3⟩ := h.2.2 i x hx
  exact ⟨g, o, e, Nat.lt_of_lt_of_le hg hb.size, (hb.cell (p := ⟨g, _, none⟩) hg).trans h0, (hb.cell (p := ⟨g, _, none⟩) hg).trans h1, (hb.cell (p := ⟨g, _, none⟩) hg).trans h2, (hb.cell (p := ⟨g, _, none⟩) hg).trans h3⟩⟩
theorem VS.drewN (h : VS w A c vs) (n : Nat) : VS (w.drewN n) A c vs := h
theorem VS.nil (w : World) (A : Option Addr) (c : Nat) (hc : c ≤ 9223372036854775807) : VS w A c [] := ⟨Nat.zero_le _, hc, fun i x hx => by simp at hx⟩
end
theorem vcells_get : ∀ (vs : List VV) (i : Nat) (x : VV), vs[i]? = some x → (vcells vs)[i * 4]? = some (.int .i64 x.k) ∧ (vcells vs)[i * 4 + 1]? = some (.int .i64 x.i) ∧ (vcells vs)[i * 4 + 2]? = some (.string x.s) ∧ (vcells vs)[i * 4 + 3]? = some (.bool x.b)
  | [], i, x, h => by simp at h
  | y :: r, 0, x, h => by
    simp at h
    subst h
    exact ⟨rfl, rfl, rfl, rfl⟩
  | y :: r, i + 1, x, h => by
    have ih := vcells_get r i x (by simpa using h)
    have hs : ∀ j, (vcells (y :: r))[(i + 1) * 4 + j]? = (vcells r)[i * 4 + j]? := fun j => by
      show (y.cells ++ vcells r)[(i + 1) * 4 + j]? = _
      rw [List.getElem?_append_right (by simp [VV.cells]; omega)]
      congr 1
      simp [VV.cells]
      omega
    exact ⟨(hs 0).trans ih.1, (hs 1).trans ih.2.1, (hs 2).trans ih.2.2.1, (hs 3).trans ih.2.2.2⟩
theorem vcells_len : ∀ vs : List VV, (vcells vs).length = vs.length * 4
  | [] => rfl
  | y :: r => by
    show (y.cells ++ vcells r).length = _
    rw [List.length_append, vcells_len r]
    simp [VV.cells]
    omega
theorem VS.of_row {w : World} {b : Nat} {vs : List VV} (h : Row w b 94 (vcells vs).toArray) (hl : vs.length ≤ 9223372036854775807) : VS w (some ⟨b, 0, none⟩) vs.length vs :=
  ⟨Nat.le_refl _, hl, fun i x hx => by
    obtain ⟨h0, h1, h2, h3⟩ := vcells_get vs i x hx
    refine ⟨b, 0, rfl, h.lt, ?_, ?_, ?_, ?_⟩ <;> rw [Nat.zero_add, h.cell] <;> simpa⟩
theorem VS.of_seg {w : World} {A : Option Addr} {c n : Nat} {vs : List VV} {ob : Option Nat} (h : Seg w 94 4 (.slice A n c) n (vcells vs) ob) (hn : n = vs.length) : VS w A c vs := by
  subst hn
  obtain ⟨A', c', e, h1, h2⟩ := h.form
  injection e with _ _ e
  subst e
  refine ⟨h1, by unfold maxLen at h2; omega, fun i x hx => ?_⟩
  have hi : i < vs.length := (List.getElem?_eq_some_iff.1 hx).1
  obtain ⟨g, o, cap, e, hob, _, _, hc, _⟩ := h.shape (by omega)
  injection e with e1 _ e3
  subst e1
  obtain ⟨h0, h1, h2, h3⟩ := vcells_get vs i x hx
  exact ⟨g, o, rfl, h.lt g hob, hc _ _ h0, by rw [Nat.add_assoc]; exact hc _ _ h1, by rw [Nat.add_assoc]; exact hc _ _ h2, by rw [Nat.add_assoc]; exact hc _ _ h3⟩
/-- A message. -/
structure Mg where
  kind : Int
  ticket : Int
  ty : ByteArray
  key : ByteArray
  t : Int
  q : Int
  vA : Option Addr
  vc : Nat
  vs : List VV
  T : Int
  id : ByteArray
  eA : Option Addr
  en : Nat
  ec : Nat
  win : Int
  cap : Int
def Mg.cells (m : Mg) : List Value := [.int .i64 m.kind, .int .i64 m.ticket, .string m.ty, .string m.key, .int .i64 m.t, .int .i64 m.q, .slice m.vA m.vs.length m.vc, .int .i64 m.T, .string m.id, .slice m.eA m.en m.ec, .int .i64 m.win, .int .i64 m.cap]
end Go.Proofs.Ytpgacadnmekdhaa.Ms
