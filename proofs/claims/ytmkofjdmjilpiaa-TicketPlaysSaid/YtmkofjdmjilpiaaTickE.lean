/- A lock beside a list of the law's own. -/
import Derived.Test.YtmkofjdmjilpiaaTickD
import Derived.Test.YtmkofjdmjilpiaaApp
import Derived.Test.YtmkofjdmjilpiaaOpen
import Derived.Test.YtmkofjdmjilpiaaBits
namespace Go.Proofs.Ytmkofjdmjilpiaa.Tick
open Go.RowKit Go.Proofs.Ytmkofjdmjilpiaa
set_option linter.unusedVariables false

structure Pr (w0 w : World) (b : Nat) (zs : List Int) (t : Nat) (ob : Option Nat) (ws : List Int) (om : Option Nat) (mv : Value) : Prop where
  li : LI w0 w b zs t ob
  sg : Seg w 3 1 mv ws.length (ws.map (Value.int .i64)) om
  ap : ∀ k, ob = some k → om ≠ some k
  bm : ∀ k, om = some k → w0.heap.size ≤ k
  mb : om ≠ some b
section
variable {w0 w w2 : World} {b t t' : Nat} {zs zs' ws ws2 : List Int} {ob om om2 : Option Nat} {mv mv2 : Value}
theorem Pr.left (h : Pr w0 w b zs t ob ws om mv) (g : Left w b zs' t' ob w2) : ∃ ob', Pr w0 w2 b zs' t' ob' ws om mv := by
  obtain ⟨ob', h1, h2, h3⟩ := g
  have hz := h.li.be.size
  refine ⟨ob', ⟨h1, h2.below h.li.be hz (fun k hk e => ?_), h.li.bb, fun k hk => ?_⟩, h.sg.turns h2 (fun k hk e => ?_), fun k hk e => ?_, h.bm, h.mb⟩
  · rcases e with e | e
    · have := h.li.bb; omega
    · have := h.li.bo k e; omega
  · rcases h3 with h3 | h3 | ⟨g, h3, hg⟩
    · exact h.li.bo k (by rw [← h3, hk])
    · rw [h3] at hk; cases hk
    · rw [h3] at hk; injection hk with hk; omega
  · rcases e with e | e
    · exact h.mb (by rw [hk, e])
    · exact h.ap k e hk
  · rcases h3 with e3 | e3 | ⟨g, e3, hg⟩
    · exact h.ap k (by rw [← e3, hk]) e
    · rw [e3] at hk; cases hk
    · rw [e3] at hk; injection hk with hk
      have := h.sg.lt _ e; omega
theorem Pr.more {x : Int} (h : Pr w0 w b zs t ob ws om mv) (hs : Seg w2 3 1 mv2 (ws.length + 1) (ws.map (Value.int .i64) ++ [.int .i64 x]) om2) (ht : Turns (w.alloc (.cells #[.int .i64 x] 3)) w2 (fun k => om = some k))
    (ho : om2 = om ∨ ∃ g, om2 = some g ∧ (w.alloc (.cells #[.int .i64 x] 3)).heap.size ≤ g) : Pr w0 w2 b zs t ob (ws ++ [x]) om2 mv2 := by
  have ht' : Turns w w2 (fun k => om = some k) := ((Turns.refl w _).alloc _).trans ht (fun _ _ e => e)
  simp only [World.size_alloc] at ho
  have hz := h.li.be.size
  refine ⟨⟨h.li.lk.turns ht' h.mb (fun k hk e => h.ap k hk e), ht'.below h.li.be hz (fun k hk e => ?_), h.li.bb, h.li.bo⟩, by simpa using hs, fun k hk e => ?_, fun k hk => ?_, fun e => ?_⟩
  · have := h.bm k e; omega
  · rcases ho with h1 | ⟨g, h1, hg⟩
    · exact h.ap k hk (by rw [← h1, e])
    · rw [h1] at e; injection e with e
      have := h.li.lk.olt k hk; omega
  · rcases ho with h1 | ⟨g, h1, hg⟩
    · exact h.bm k (by rw [← h1, hk])
    · rw [h1] at hk; injection hk with hk; omega
  · rcases ho with h1 | ⟨g, h1, hg⟩
    · exact h.mb (by rw [← h1, e])
    · rw [h1] at e; injection e with e
      have := h.li.lk.lt; omega
theorem Pr.fresh (h : Pr w0 w b zs t ob ws om mv) (hb : Below w.heap.size w w2) (hs : Seg w2 3 1 mv2 ws2.length (ws2.map (Value.int .i64)) om2) (ho : ∀ g, om2 = some g → w.heap.size ≤ g) : Pr w0 w2 b zs t ob ws2 om2 mv2 := by
  have hz := h.li.be.size
  refine ⟨h.li.call hb, hs, fun k hk e => ?_, fun k hk => by have := ho k hk; omega, fun e => ?_⟩
  · have := h.li.lk.olt k hk
    have := ho k e
    omega
  · have := ho b e
    have := h.li.lk.lt
    omega
theorem Pr.call (h : Pr w0 w b zs t ob ws om mv) (g : Below w.heap.size w w2) : Pr w0 w2 b zs t ob ws om mv :=
  ⟨h.li.call g, h.sg.turns (Turns.of_below g) (fun _ _ h => h), h.ap, h.bm, h.mb⟩
end
theorem pr_start (w : World) : Pr w ((w.alloc (.cells #[.slice none 0 0, .int .i64 0] 78)).alloc (.cells #[] 3)) w.heap.size [] 0 none [] none (.slice (some ⟨w.heap.size + 1, 0, none⟩) 0 0) :=
  ⟨(LI.start w).call ((Below.refl _ _).alloc (Nat.le_refl _) _), ⟨by simp, _, 0, rfl, Nat.le_refl _, by unfold maxLen; omega, .inl ⟨rfl, rfl, fun _ => trivial⟩⟩, (fun _ h => by cases h), (fun _ h => by cases h), by simp⟩
/-- Whether x is y, or stands among the first k that wait. -/
def inK (y : Int) (ws : List Int) (x : Int) (k : Nat) : Bool := decide (x = y ∨ x ∈ ws.take k)
theorem inK_zero (y : Int) (ws : List Int) (x : Int) : inK y ws x 0 = (x == y) := by unfold inK; rw [Bool.eq_iff_iff]; simp
theorem inK_succ (y : Int) (ws : List Int) (x : Int) (k : Nat) (h : k < ws.length) : inK y ws x (k + 1) = (inK y ws x k || (ws[k] == x)) := by
  unfold inK
  rw [List.take_succ_eq_append_getElem h, Bool.eq_iff_iff]
  simp only [List.mem_append, List.mem_singleton, Bool.or_eq_true, decide_eq_true_eq, beq_iff_eq]
  constructor
  · rintro (h | h | h)
    · exact .inl (.inl h)
    · exact .inl (.inr h)
    · exact .inr h.symm
  · rintro ((h | h) | h)
    · exact .inl h
    · exact .inr (.inl h)
    · exact .inr (.inr h.symm)
theorem inK_all (zs ws : List Int) (hd : zs.drop 1 = ws) (x : Int) (hx : 0 ≤ x) (k : Nat) (hk : ws.length ≤ k) : inK (whoV zs) ws x k = decide (x ∈ zs) := by
  unfold inK
  rw [List.take_of_length_le hk]
  subst hd
  cases zs with
  | nil => simp [whoV]; omega
  | cons y r => simp [whoV]
/-- Whether x stands among the first k of a list. -/
def memK (ws : List Int) (x : Int) (k : Nat) : Bool := decide (x ∈ ws.take k)
theorem memK_zero (ws : List Int) (x : Int) : memK ws x 0 = false := by unfold memK; simp
theorem memK_succ (ws : List Int) (x : Int) (k : Nat) (h : k < ws.length) : memK ws x (k + 1) = (memK ws x k || (ws[k] == x)) := by
  unfold memK
  rw [List.take_succ_eq_append_getElem h, Bool.eq_iff_iff]
  simp only [List.mem_append, List.mem_singleton, Bool.or_eq_true, decide_eq_true_eq, beq_iff_eq]
  constructor
  · rintro (h | h)
    · exact .inl h
    · exact .inr h.symm
  · rintro (h | h)
    · exact .inl h
    · exact .inr h.symm
theorem memK_all (ws : List Int) (x : Int) (k : Nat) (hk : k = ws.length) : memK ws x k = decide (x ∈ ws) := by
  unfold memK
  rw [List.take_of_length_le (by omega)]
theorem and8 (n : Int) : bits .and .i64 n 8 = 0 ∨ 0 < bits .and .i64 n 8 := by
  have h : 0 ≤ bits .and .i64 n 8 := by
    show 0 ≤ IntKind.i64.wrap ((BitVec.ofInt 64 n &&& BitVec.ofInt 64 8).toNat : Nat)
    have h1 : (BitVec.ofInt 64 n &&& BitVec.ofInt 64 8).toNat ≤ 8 := by
      rw [BitVec.toNat_and]
      exact Nat.le_trans Nat.and_le_right (by decide)
    rw [IntKind.wrap_i64]
    omega
  omega
theorem who_cases (zs ws : List Int) (hd : zs.drop 1 = ws) (hn : ∀ x ∈ zs, 0 ≤ x ∧ x ≤ 6) : (zs = [] ∧ ws = [] ∧ whoV zs < 0) ∨ (zs = whoV zs :: ws ∧ 0 ≤ whoV zs) := by
  subst hd
  cases zs with
  | nil => exact .inl ⟨rfl, rfl, by decide⟩
  | cons y r => exact .inr ⟨rfl, (hn y (by simp)).1⟩
end Go.Proofs.Ytmkofjdmjilpiaa.Tick
