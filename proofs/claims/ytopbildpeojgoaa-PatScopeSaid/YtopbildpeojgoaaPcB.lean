/- A copy of a query: its lists are its own. -/
import Derived.Test.YtopbildpeojgoaaPcA
import Derived.Test.YtopbildpeojgoaaPaA
import Derived.Deep.RegionLaw
import Derived.Deep.RegionHeld3
import Derived.Deep.CutBlock
namespace Go.Proofs.Ytopbildpeojgoaa.Pc
open Go.RowKit Go.Proofs.Ytopbildpeojgoaa Go.Proofs.Ytopbildpeojgoaa.Pa
set_option linter.unusedVariables false
set_option maxRecDepth 100000

/-- What an element's lists hold, in blocks of P. -/
structure Co (w : World) (P : Nat → Prop) (e : ElV) (T N : Nat → Value) : Prop where
  ts : (e.tA = none ∧ e.tn = 0 ∧ e.tc = 0) ∨ (RCell w 9 P e.tA e.tn T ∧ 0 < e.tn ∧ e.tn ≤ 100 ∧ e.tn ≤ e.tc ∧ e.tc ≤ maxLen)
  ps : (e.pA = none ∧ e.pn = 0 ∧ e.pc = 0) ∨ (RCell w 86 P e.pA (e.pn * 7) N ∧ 0 < e.pn ∧ e.pn ≤ 100 ∧ e.pn ≤ e.pc ∧ e.pc ≤ maxLen)
section
variable {w w' : World} {P Q : Nat → Prop} {e : ElV} {T N : Nat → Value}
theorem Co.turns {S : Nat → Prop} (h : Co w P e T N) (t : Turns w w' S) (hs : ∀ k, k < w.heap.size → P k → ¬ S k) : Co w' P e T N := ⟨h.ts.imp id (fun x => ⟨x.1.turns t hs, x.2⟩), h.ps.imp id (fun x => ⟨x.1.turns t hs, x.2⟩)⟩
theorem Co.call (h : Co w P e T N) (t : Below w.heap.size w w') : Co w' P e T N := h.turns (Turns.of_below t) (fun _ _ _ x => x)
theorem Co.mono (h : Co w P e T N) (hp : ∀ k, k < w.heap.size → P k → Q k) : Co w Q e T N := ⟨h.ts.imp id (fun x => ⟨x.1.mono hp, x.2⟩), h.ps.imp id (fun x => ⟨x.1.mono hp, x.2⟩)⟩
end
/-- But for where their lists lie, two elements are alike. -/
def Alike (a b : ElV) : Prop := a.v = b.v ∧ a.neg = b.neg ∧ a.mn = b.mn ∧ a.mx = b.mx ∧ a.tn = b.tn ∧ a.pn = b.pn
def setT (E : Nat → ElV) (k : Nat) (A : Option Addr) (n c : Nat) : Nat → ElV := fun i => if i = k then { E i with tA := A, tn := n, tc := c } else E i
def setP (E : Nat → ElV) (k : Nat) (A : Option Addr) (n c : Nat) : Nat → ElV := fun i => if i = k then { E i with pA := A, pn := n, pc := c } else E i
section
variable {w : World} {g o n : Nat} {E : Nat → ElV}
theorem LE.putT (h : LE w g o n E) {k : Nat} (hk : k < n) (A : Option Addr) (m c : Nat) : LE (w.setCell ⟨g, o + k * 6 + 1, none⟩ (.slice A m c)) g o n (setT E k A m c) := by
  obtain ⟨cs, h1, h2⟩ := h.row
  refine ⟨_, h1.put (o + k * 6 + 1) (.slice A m c), fun i hi j hj => ?_⟩
  have h3 := h2 i hi j hj
  rw [Array.getElem?_setIfInBounds]
  by_cases e : o + k * 6 + 1 = o + i * 6 + j
  · have e1 : i = k := by omega
    have e2 : j = 1 := by omega
    subst e1 e2
    rw [if_pos rfl, if_pos (Array.getElem?_eq_some_iff.1 h3).1]
    unfold setT; rw [if_pos rfl]; rfl
  · rw [if_neg e, h3]
    unfold setT
    by_cases e1 : i = k
    · rw [if_pos e1]
      have e2 : j ≠ 1 := by omega
      rcases (show j = 0 ∨ j = 2 ∨ j = 3 ∨ j = 4 ∨ j = 5 from by omega) with rfl | rfl | rfl | rfl | rfl <;> rfl
    · rw [if_neg e1]
theorem LE.putP (h : LE w g o n E) {k : Nat} (hk : k < n) (A : Option Addr) (m c : Nat) : LE (w.setCell ⟨g, o + k * 6 + 5, none⟩ (.slice A m c)) g o n (setP E k A m c) := by
  obtain ⟨cs, h1, h2⟩ := h.row
  refine ⟨_, h1.put (o + k * 6 + 5) (.slice A m c), fun i hi j hj => ?_⟩
  have h3 := h2 i hi j hj
  rw [Array.getElem?_setIfInBounds]
  by_cases e : o + k * 6 + 5 = o + i * 6 + j
  · have e1 : i = k := by omega
    have e2 : j = 5 := by omega
    subst e1 e2
    rw [if_pos rfl, if_pos (Array.getElem?_eq_some_iff.1 h3).1]
    unfold setP; rw [if_pos rfl]; rfl
  · rw [if_neg e, h3]
    unfold setP
    by_cases e1 : i = k
    · rw [if_pos e1]
      have e2 : j ≠ 5 := by omega
      rcases (show j = 0 ∨ j = 1 ∨ j = 2 ∨ j = 3 ∨ j = 4 from by omega) with rfl | rfl | rfl | rfl | rfl <;> rfl
    · rw [if_neg e1]
end
/-- While it is copied: the first i elements have lists of their own. -/
structure CI (w0 w : World) (g o n c : Nat) (win cap : Int) (E E' : Nat → ElV) (T N : Nat → Nat → Value) (i : Nat) : Prop where
  le : LE w g o n E'
  row1 : Row w w0.heap.size 67 #[.slice (some ⟨g, o, none⟩) n c, .int .i64 win, .int .i64 cap]
  row2 : Row w (w0.heap.size + 1) 67 #[.slice none 0 0, .int .i64 0, .int .i64 0]
  be : Below w0.heap.size w0 w
  ge : w0.heap.size + 2 ≤ g
  al : ∀ k, k < n → Alike (E' k) (E k)
  fst : ∀ k, k < i → k < n → Co w (fun b => w0.heap.size + 2 ≤ b ∧ b ≠ g) (E' k) (T k) (N k)
  rst : ∀ k, i ≤ k → E' k = E k
section
variable {w0 w w' : World} {g o n c i : Nat} {win cap : Int} {E E' : Nat → ElV} {T N : Nat → Nat → Value}
theorem CI.call (h : CI w0 w g o n c win cap E E' T N i) (t : Below w.heap.size w w') : CI w0 w' g o n c win cap E E' T N i :=
  ⟨h.le.call t, h.row1.below t h.row1.lt, h.row2.below t h.row2.lt, h.be.trans (t.mono h.be.size), h.ge, h.al, fun k hk hn => (h.fst k hk hn).call t, h.rst⟩
/-- The types of element i are its own. -/
structure CT (w0 w : World) (g o n c : Nat) (win cap : Int) (E E' : Nat → ElV) (T N : Nat → Nat → Value) (i : Nat) : Prop where
  le : LE w g o n E'
  row1 : Row w w0.heap.size 67 #[.slice (some ⟨g, o, none⟩) n c, .int .i64 win, .int .i64 cap]
  row2 : Row w (w0.heap.size + 1) 67 #[.slice none 0 0, .int .i64 0, .int .i64 0]
  be : Below w0.heap.size w0 w
  ge : w0.heap.size + 2 ≤ g
  al : ∀ k, k < n → Alike (E' k) (E k)
  fst : ∀ k, k < i → k < n → Co w (fun b => w0.heap.size + 2 ≤ b ∧ b ≠ g) (E' k) (T k) (N k)
  now : ((E' i).tA = none ∧ (E' i).tn = 0 ∧ (E' i).tc = 0) ∨ (RCell w 9 (fun b => w0.heap.size + 2 ≤ b ∧ b ≠ g) (E' i).tA (E' i).tn (T i) ∧ 0 < (E' i).tn ∧ (E' i).tn ≤ 100 ∧ (E' i).tn ≤ (E' i).tc ∧ (E' i).tc ≤ maxLen)
  rst : ∀ k, i < k → E' k = E k
theorem CT.call (h : CT w0 w g o n c win cap E E' T N i) (t : Below w.heap.size w w') : CT w0 w' g o n c win cap E E' T N i :=
  ⟨h.le.call t, h.row1.below t h.row1.lt, h.row2.below t h.row2.lt, h.be.trans (t.mono h.be.size), h.ge, h.al, fun k hk hn => (h.fst k hk hn).call t, h.now.imp id (fun x => ⟨x.1.call t, x.2⟩), h.rst⟩
theorem CI.types (h : CI w0 w g o n c win cap E E' T N i) (hi : i < n) {A : Option Addr} {m c' : Nat} (hb : Below w.heap.size w w') (hm : m = (E i).tn)
    (hp : (A = none ∧ m = 0 ∧ c' = 0) ∨ (RCell w' 9 (fun b => w0.heap.size + 2 ≤ b ∧ b ≠ g) A m (T i) ∧ 0 < m ∧ m ≤ 100 ∧ m ≤ c' ∧ c' ≤ maxLen)) :
    ∃ E2, CT w0 (w'.setCell ⟨g, o + i * 6 + 1, none⟩ (.slice A m c')) g o n c win cap E E2 T N i := by
  have h1 := h.call hb
  have tt : Turns w' (w'.setCell ⟨g, o + i * 6 + 1, none⟩ (.slice A m c')) (fun k => k = g) := (Turns.refl w' _).put g _ _ (fun _ => rfl)
  refine ⟨_, LE.putT h1.le hi _ _ _, h1.row1.past (by show w0.heap.size ≠ g; have := h.ge; omega) _, h1.row2.past (by show w0.heap.size + 1 ≠ g; have := h.ge; omega) _, h1.be.setCell (p := ⟨g, o + i * 6 + 1, none⟩) (by show w0.heap.size ≤ g; have := h.ge; omega) _, h.ge, fun k hk => ?_, fun k hk hn => ?_, ?_, fun k hk => ?_⟩
  · unfold setT
    by_cases e : k = i
    · rw [if_pos e, e]; obtain ⟨a, b, c, d, _, f⟩ := h.al i hi; exact ⟨a, b, c, d, hm, f⟩
    · rw [if_neg e]; exact h.al k hk
  · unfold setT
    rw [if_neg (by omega)]
    exact (h1.fst k hk hn).turns tt (fun k _ hp e => hp.2 e)
  · unfold setT
    rw [if_pos rfl]
    exact hp.imp id (fun x => ⟨x.1.turns tt (fun k _ hp e => hp.2 e), x.2⟩)
  · unfold setT
    rw [if_neg (by omega)]
    exact h.rst k (by omega)
theorem CT.done (h : CT w0 w g o n c win cap E E' T N i) (hi : i < n) {A : Option Addr} {m c' : Nat} (hb : Below w.heap.size w w') (hm : m = (E i).pn)
    (hp : (A = none ∧ m = 0 ∧ c' = 0) ∨ (RCell w' 86 (fun b => w0.heap.size + 2 ≤ b ∧ b ≠ g) A (m * 7) (N i) ∧ 0 < m ∧ m ≤ 100 ∧ m ≤ c' ∧ c' ≤ maxLen)) :
    ∃ E2, CI w0 (w'.setCell ⟨g, o + i * 6 + 5, none⟩ (.slice A m c')) g o n c win cap E E2 T N (i + 1) := by
  have h1 := h.call hb
  have hal := h.al i hi
  refine ⟨_, LE.putP h1.le hi _ _ _, h1.row1.past (by show w0.heap.size ≠ g; have := h.ge; omega) _, h1.row2.past (by show w0.heap.size + 1 ≠ g; have := h.ge; omega) _, h1.be.setCell (p := ⟨g, o + i * 6 + 5, none⟩) (by show w0.heap.size ≤ g; have := h.ge; omega) _, h.ge, fun k hk => ?_, fun k hk hn => ?_, fun k hk => ?_⟩
  · unfold setP
    by_cases e : k = i
    · rw [if_pos e, e]; obtain ⟨a, b, c, d, x, f⟩ := h.al i hi; exact ⟨a, b, c, d, x, hm⟩
    · rw [if_neg e]; exact h.al k hk
  · have tt : Turns w' (w'.setCell ⟨g, o + i * 6 + 5, none⟩ (.slice A m c')) (fun k => k = g) := (Turns.refl w' _).put g _ _ (fun _ => rfl)
    unfold setP
    by_cases e : k = i
    · rw [if_pos e]
      subst e
      refine ⟨?_, ?_⟩
      · exact h1.now.imp id (fun x => ⟨x.1.turns tt (fun k _ hp e => hp.2 e), x.2⟩)
      · exact hp.imp id (fun x => ⟨x.1.turns tt (fun k _ hp e => hp.2 e), x.2⟩)
    · rw [if_neg e]
      exact (h1.fst k (by omega) hn).turns tt (fun k _ hp e => hp.2 e)
  · unfold setP
    rw [if_neg (by omega)]
    exact h.rst k (by omega)
end
end Go.Proofs.Ytopbildpeojgoaa.Pc
