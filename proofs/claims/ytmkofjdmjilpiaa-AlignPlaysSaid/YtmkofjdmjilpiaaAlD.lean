/- Who was told, and how many are left: what is known of the earliest and of who is behind. -/
import Derived.Test.YtmkofjdmjilpiaaAlC
import Derived.Test.YtmkofjdmjilpiaaBits
namespace Go.Proofs.Ytmkofjdmjilpiaa.Al
open Go.RowKit Go.Proofs.Ytmkofjdmjilpiaa Go.Proofs.Ytmkofjdmjilpiaa.Mark
set_option linter.unusedVariables false

theorem and65535 (n : Int) : bits .and .i64 n 65535 = n % 65536 := by
  have hm : (BitVec.ofInt 64 65535).toNat = 2 ^ 16 - 1 := by decide
  have key : (BitVec.ofInt 64 n &&& BitVec.ofInt 64 65535).toNat = (n % ((2 ^ 64 : Nat) : Int)).toNat % 2 ^ 16 := by
    rw [BitVec.toNat_and, BitVec.toNat_ofInt, hm, Nat.and_two_pow_sub_one_eq_mod]
  show IntKind.i64.wrap ((BitVec.ofInt 64 n &&& BitVec.ofInt 64 65535).toNat : Nat) = n % 65536
  rw [key, IntKind.wrap_i64]
  omega
def updB (S : Nat → Bool) (x : Nat) (v : Bool) : Nat → Bool := fun y => if y = x then v else S y
/-- How many of the first k are not told. -/
def left (S : Nat → Bool) : Nat → Nat
  | 0 => 0
  | k + 1 => left S k + if S k then 0 else 1
theorem left_le (S : Nat → Bool) : ∀ k, left S k ≤ k
  | 0 => Nat.le_refl _
  | k + 1 => by have := left_le S k; unfold left; split <;> omega
theorem left_same (S : Nat → Bool) (x : Nat) (v : Bool) : ∀ k, k ≤ x → left (updB S x v) k = left S k
  | 0, _ => rfl
  | k + 1, h => by
    unfold left
    have h2 : updB S x v k = S k := if_neg (by omega)
    rw [left_same S x v k (by omega), h2]
theorem left_told (S : Nat → Bool) (x : Nat) (hS : S x = false) : ∀ k, x < k → left (updB S x true) k + 1 = left S k
  | 0, h => by omega
  | k + 1, h => by
    unfold left
    by_cases e : k = x
    · subst e
      rw [left_same S k true k (Nat.le_refl _), hS]
      simp [updB]
    · have := left_told S x hS k (by omega)
      have h2 : updB S x true k = S k := if_neg e
      rw [h2]
      omega
theorem left_start : ∀ k, left (fun _ => false) k = k
  | 0 => rfl
  | k + 1 => by unfold left; rw [left_start k]; rfl
/-- The marks, when these are told of the time a. -/
def tf (S : Nat → Bool) (a : Int) : Nat → Int := fun k => if S k then a + 1 else 0
theorem tf_upd (S : Nat → Bool) (a : Int) (x : Nat) : updF (tf S a) x (a + 1) = tf (updB S x true) a := by
  funext k
  unfold updF tf updB
  by_cases h : k = x <;> simp [h]
theorem upd_self (f : Nat → Int) (x : Nat) : updF f x (f x) = f := by
  funext k
  unfold updF
  by_cases h : k = x
  · rw [if_pos h, h]
  · rw [if_neg h]
theorem mn_tf (S : Nat → Bool) (a : Int) (ha : 0 ≤ a) : ∀ k, 1 ≤ k → mn (tf S a) k = if left S k = 0 then a + 1 else 0
  | 0, h => by omega
  | k + 1, _ => by
    rcases Nat.eq_zero_or_pos k with rfl | h
    · unfold mn mn left left tf
      cases S 0 <;> simp
    · have := mn_tf S a ha k h
      unfold mn left
      rw [this]
      unfold tf
      cases S k <;> by_cases hl : left S k = 0 <;> simp [hl] <;> omega
theorem mn_all (S : Nat → Bool) (a : Int) (ha : 0 ≤ a) (N : Nat) (hN : 1 ≤ N) (h : left S N = 0) : mn (tf S a) N - 1 = a := by rw [mn_tf S a ha N hN, if_pos h]; omega
theorem mn_some (S : Nat → Bool) (a : Int) (ha : 0 ≤ a) (N : Nat) (hN : 1 ≤ N) (h : left S N ≠ 0) : mn (tf S a) N - 1 = -1 := by rw [mn_tf S a ha N hN, if_neg h]; omega
theorem beh_tf (S : Nat → Bool) (a : Int) (ha : 0 ≤ a) (N : Nat) (hN : 1 ≤ N) (h : left S N ≠ 0) : ∀ k, (behL (tf S a) N k).length = left S k
  | 0 => rfl
  | k + 1 => by
    unfold behL left
    rw [List.length_append, beh_tf S a ha N hN h k, mn_tf S a ha N hN, if_neg h]
    unfold tf
    cases S k <;> simp <;> omega
def bools (S : Nat → Bool) : Nat → Value := fun i => .bool (S i)
theorem eight' {x : Nat} (h : x < 8) : x = 0 ∨ x = 1 ∨ x = 2 ∨ x = 3 ∨ x = 4 ∨ x = 5 ∨ x = 6 ∨ x = 7 := by omega
theorem tab_start (w : World) : Tab (w.alloc (.cells #[.bool false, .bool false, .bool false, .bool false, .bool false, .bool false, .bool false, .bool false] 71)) w.heap.size 71 8 (bools (fun _ => false)) :=
  ⟨_, Row.made _ _ _, rfl, fun i hi => by rcases eight' hi with rfl | rfl | rfl | rfl | rfl | rfl | rfl | rfl <;> rfl⟩
theorem tab_upd {w : World} {tb : Nat} {S : Nat → Bool} (h : Tab w tb 71 8 (bools S)) (k : Nat) (v : Bool) : Tab (w.setCell ⟨tb, k, none⟩ (.bool v)) tb 71 8 (bools (updB S k v)) :=
  h.put k _ (fun i _ hi => by unfold bools updB; rw [if_neg hi]) (fun _ => by unfold bools updB; rw [if_pos rfl])
/-- What holds between two rounds. -/
structure Bp (w0 w : World) (b mb tb N : Nat) (a : Int) (S : Nat → Bool) : Prop where
  al : Al w b mb N (tf S a)
  tab : Tab w tb 71 8 (bools S)
  be : Below w0.heap.size w0 w
  gb : w0.heap.size ≤ b
  gm : w0.heap.size ≤ mb
  gt : w0.heap.size ≤ tb
  n1 : tb ≠ b
  n2 : tb ≠ mb
section
variable {w0 w w' : World} {b mb tb N : Nat} {a : Int} {S : Nat → Bool}
theorem Bp.call (h : Bp w0 w b mb tb N a S) (g : Below w.heap.size w w') : Bp w0 w' b mb tb N a S :=
  ⟨h.al.call g, h.tab.below g h.tab.lt, h.be.trans (g.mono h.be.size), h.gb, h.gm, h.gt, h.n1, h.n2⟩
theorem Bp.again (h : Bp w0 w b mb tb N a S) {p : Nat} {m' : Int} (hm : tf S a p = m') (h1 : Al w' b mb N (updF (tf S a) p m')) (t : Turns w w' (fun k => k = mb)) : Bp w0 w' b mb tb N a S := by
  subst hm
  rw [upd_self] at h1
  exact ⟨h1, h.tab.turns t h.n2, t.below h.be h.be.size (fun k hk e => by have := h.gm; omega), h.gb, h.gm, h.gt, h.n1, h.n2⟩
theorem Bp.told (h : Bp w0 w b mb tb N a S) {p : Nat} (h1 : Al w' b mb N (updF (tf S a) p (a + 1))) (t : Turns (w.setCell ⟨tb, p, none⟩ (.bool true)) w' (fun k => k = mb)) : Bp w0 w' b mb tb N a (updB S p true) := by
  rw [tf_upd] at h1
  have t' : Turns w w' (fun k => k = tb ∨ k = mb) := ((Turns.refl w (fun k => k = tb ∨ k = mb)).put tb p (.bool true) (fun _ => .inl rfl)).trans t (fun k _ e => .inr e)
  exact ⟨h1, (tab_upd h.tab p true).turns t h.n2, t'.below h.be h.be.size (fun k hk e => by have := h.gm; have := h.gt; omega), h.gb, h.gm, h.gt, h.n1, h.n2⟩
theorem Bp.store (h : Bp w0 w b mb tb N a S) (p : Nat) (u : Value) : Al (w.setCell ⟨tb, p, none⟩ u) b mb N (tf S a) :=
  h.al.turns ((Turns.refl w (fun k => k = tb)).put tb p u (fun _ => rfl)) h.n1.symm h.n2.symm
end
end Go.Proofs.Ytmkofjdmjilpiaa.Al
