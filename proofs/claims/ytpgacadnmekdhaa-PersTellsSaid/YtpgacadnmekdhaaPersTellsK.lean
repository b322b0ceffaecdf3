/- The walk of the law PersTells. -/
import Derived.Test.YtpgacadnmekdhaaPersStaysK
import Derived.Shelf.RegionOpen
import Derived.Test.YtpgacadnmekdhaaOpen
import Derived.Test.YtpgacadnmekdhaaBits
namespace Go.Proofs.Ytpgacadnmekdhaa.PersT
open Go.RowKit Go.Proofs.Ytpgacadnmekdhaa Go.Proofs.Ytpgacadnmekdhaa.Pers
set_option linter.unusedVariables false
attribute [local go_sem] Oper.semAt_some

theorem rest_none (w : World) : Calls Try.prog 20 #[.pointer none] w fun e w' => e = .returned (.pointer none) ∧ w = w' := by
  refine (rest_any none [] 0 w rfl).mono ?_
  rintro e w' ⟨⟨q, rfl, hq⟩, h⟩
  obtain rfl : q = none := hq
  exact ⟨rfl, h⟩
theorem newest_none (w : World) : Calls Try.prog 18 #[.pointer none] w fun e w' => e = .returned (.tuple #[.int .i64 0, .bool false]) ∧ w = w' := newest_no 0 w
theorem len_none (w : World) : Calls Try.prog 22 #[.pointer none] w fun e w' => e = .returned (.int .i64 0) ∧ w = w' := len_any none [] 0 w rfl
theorem list_none (f : Nat → Int) (w : World) : Calls Try.prog 21 #[.pointer none] w fun e w' => ∃ A c, e = .returned (.slice A 0 c) ∧ Below w.heap.size w w' := by
  refine (list_is none [] 0 f w rfl rfl (by omega)).mono ?_
  rintro e w' ⟨A, c, h, _, hb⟩
  exact ⟨A, c, h, hb⟩
theorem below_of_drewN {B n : Nat} {W w' : World} (h : Below B (W.drewN n) w') : Below B W w' := (below_drewN (Below.refl B W) n).trans h
theorem revN_get (f : Nat → Int) : ∀ (m k : Nat) (h : k < (revN f m).length), (revN f m)[k] = f (m - 1 - k)
  | m + 1, 0, _ => by simp [revN]
  | m + 1, k + 1, h => by
    simp only [revN, List.getElem_cons_succ]
    rw [revN_get f m k]
    congr 1
    omega
theorem pre_step {R pre : List Int} {x : Int} (h : pre <+: R) (hk : pre.length < R.length) : (pre ++ [x] <+: R) ↔ R[pre.length] = x := by
  obtain ⟨t, rfl⟩ := h
  cases t with
  | nil => simp at hk
  | cons y t => simp [List.prefix_append_right_inj, List.cons_prefix_cons, eq_comm]
theorem rev_step (f : Nat → Int) (m : Nat) {pre : List Int} {x : Int} (h : pre <+: revN f m) (hk : pre.length < m) : (pre ++ [x] <+: revN f m) ↔ f (m - 1 - pre.length) = x := by
  have hk' : pre.length < (revN f m).length := by rw [revN_len]; exact hk
  rw [pre_step h hk', revN_get]
theorem below_of_drew {B : Nat} {W w' : World} (h : Below B W.drew w') : Below B W w' := (below_drewN (Below.refl B W) 1).trans h
structure Inv (v : World) (R : List Int) (a : Int) (pre : List Int) (W : World) : Prop where
  bx : Row W v.heap.size 3 #[.int .i64 pre.length]
  be : Below v.heap.size v W
  pr : pre <+: R
  le : (pre.length : Int) ≤ a % 32
theorem inv_own (v : World) (R : List Int) (a : Int) (B : Nat) (hB : v.heap.size ≤ B) : OwnFrom B (Inv v R a) := fun pre W W' row h hg hr =>
  ⟨row_kept h.bx hg (fun r e => (hr r e).2), h.be.grown hg h.be.size (fun k e => Nat.le_trans hB (hr k e).1), h.pr, h.le⟩
structure Out (v : World) (R : List Int) (a : Int) (pre : List Int) (W : World) : Prop where
  bx : Row W v.heap.size 3 #[.int .i64 pre.length]
  be : Below v.heap.size v W
  le : (pre.length : Int) = a % 32 + 1
theorem out_own (v : World) (R : List Int) (a : Int) (B : Nat) (hB : v.heap.size ≤ B) : OwnFrom B (Out v R a) := fun pre W W' row h hg hr =>
  ⟨row_kept h.bx hg (fun r e => (hr r e).2), h.be.grown hg h.be.size (fun k e => Nat.le_trans hB (hr k e).1), h.le⟩
def Left (v : World) (R : List Int) (a : Int) (c : Code) (pre : List Int) (W : World) : Prop := (c = .exit 0 ∧ Out v R a pre W) ∨ ¬ pre <+: R
theorem left_own (v : World) (R : List Int) (a : Int) (B : Nat) (hB : v.heap.size ≤ B) (c : Code) : OwnFrom B (Left v R a c) := fun pre W W' row h hg hr =>
  h.elim (fun h => .inl ⟨h.1, out_own v R a B hB pre W W' row h.2 hg hr⟩) .inr
end Go.Proofs.Ytpgacadnmekdhaa.PersT
