/- The law's first look at a lock, and the walk of the law TicketNone. -/
import Derived.Test.YtmkofjdmjilpiaaTickC
namespace Go.Proofs.Ytmkofjdmjilpiaa.Tick
open Go.RowKit Go.Proofs.Ytmkofjdmjilpiaa
set_option linter.unusedVariables false

/-- A lock of the call's own: nothing that was there has turned, whatever its calls do. -/
structure LI (w0 w : World) (b : Nat) (zs : List Int) (t : Nat) (ob : Option Nat) : Prop where
  lk : Lk w b zs t ob
  be : Below w0.heap.size w0 w
  bb : w0.heap.size ≤ b
  bo : ∀ k, ob = some k → w0.heap.size ≤ k
theorem LI.start (w : World) : LI w (w.alloc (.cells #[.slice none 0 0, .int .i64 0] 78)) w.heap.size [] 0 none :=
  ⟨new_lk w, (Below.refl _ w).alloc (Nat.le_refl _) _, Nat.le_refl _, fun _ h => by cases h⟩
section
variable {w0 w w' : World} {b t t' : Nat} {zs zs' : List Int} {ob : Option Nat}
theorem LI.size (h : LI w0 w b zs t ob) : w0.heap.size ≤ w.heap.size := h.be.size
theorem LI.left (h : LI w0 w b zs t ob) (g : Left w b zs' t' ob w') : ∃ ob', LI w0 w' b zs' t' ob' := by
  obtain ⟨ob', h1, h2, h3⟩ := g
  have hz := h.be.size
  refine ⟨ob', h1, h2.below h.be hz (fun k hk e => ?_), h.bb, fun k hk => ?_⟩
  · rcases e with e | e
    · have := h.bb; omega
    · have := h.bo k e; omega
  · rcases h3 with h3 | h3 | ⟨g, h3, hg⟩
    · exact h.bo k (by rw [← h3, hk])
    · rw [h3] at hk; cases hk
    · rw [h3] at hk; injection hk with hk; omega
theorem LI.call (h : LI w0 w b zs t ob) (g : Below w.heap.size w w') : LI w0 w' b zs t ob :=
  ⟨h.lk.turns (Turns.of_below g) (fun h => h) (fun _ _ h => h), h.be.trans (g.mono h.be.size), h.bb, h.bo⟩
end
set_option maxRecDepth 100000 in
set_option maxHeartbeats 1000000 in
theorem awake_any (w : World) : Calls Try.prog 32 #[] w fun e w' => e = .returned (.bool true) ∧ Below w.heap.size w w' := by
  go_enter Try.func32, Try.ntmps32
  go_wp2_with fail
  refine (new_any _).mono ?_
  rintro e w0 ⟨rfl, rfl⟩
  have L := Lib.hid (LI.start w)
  generalize w.alloc (.cells #[.slice none 0 0, .int .i64 0] 78) = w0 at L ⊢
  go_wp2_with fail
  refine (ask_yes w.heap.size 0 [] none 0 _ L.out.lk (by decide) (by decide) (by decide) (by decide)).mono ?_
  rintro e w1 ⟨rfl, hl⟩
  obtain ⟨o1, hl⟩ := L.out.left hl
  have L1 := Lib.hid hl
  clear hl
  go_wp2_with fail
  refine (ask_yes w.heap.size 1 [0] o1 1 _ L1.out.lk (by decide) (by decide) (by decide) (by decide)).mono ?_
  rintro e w2 ⟨rfl, hl⟩
  obtain ⟨o2, hl⟩ := L1.out.left hl
  have L2 := Lib.hid hl
  clear hl
  go_wp2_with fail
  refine (give_yes w.heap.size 1 0 [1] o2 _ L2.out.lk (by decide) (by decide) (by decide)).mono ?_
  rintro e w3 ⟨rfl, hl⟩
  obtain ⟨o3, hl⟩ := L2.out.left hl
  have L3 := Lib.hid hl
  clear hl
  go_wp2_with fail
  refine (who_any w.heap.size 2 [1] o3 _ L3.out.lk (by decide)).mono ?_
  rintro e w' ⟨rfl, rfl⟩
  go_wp2_with fail
  refine (times_any w.heap.size 2 [1] o3 _ L3.out.lk).mono ?_
  rintro e w' ⟨rfl, rfl⟩
  go_wp2
  go_ret
  exact ⟨rfl, L3.out.be⟩
theorem back_ok (w : World) : Calls Try.prog 33 #[.int .i64 0] w fun e w' => e = .returned (.int .i64 0) ∧ w = w' := by
  go_enter Try.func33, Try.ntmps33
  go_wp2
  go_ret
  exact ⟨rfl, rfl⟩
theorem back_no (w : World) : Calls Try.prog 33 #[.int .i64 1] w fun e w' => e = .returned (.int .i64 3) ∧ w = w' := by
  go_enter Try.func33, Try.ntmps33
  go_wp2
  go_ret
  exact ⟨rfl, rfl⟩
set_option maxRecDepth 100000 in
set_option maxHeartbeats 2000000 in
theorem none_law (x : Int) (wx : (Lit.int .i64 x).wf = true) {w : World} :
    Calls Try.prog 8 #[.int .i64 x] w fun e w' => e = .returned (.bool true) ∧ Below w.heap.size w w' := by
  clear wx
  rcases (show x < 0 ∨ 0 ≤ x from by omega) with h | h
  all_goals
    go_enter Try.func8, Try.ntmps8
    go_wp2_with fail
    refine (new_any _).mono ?_
    rintro e w0 ⟨rfl, rfl⟩
    have L := Lib.hid (LI.start w)
    generalize w.alloc (.cells #[.slice none 0 0, .int .i64 0] 78) = w0 at L ⊢
    go_wp2_with fail
    refine (awake_any _).mono ?_
    rintro e w1 ⟨rfl, hb⟩
    have L1 := Lib.hid (L.out.call hb)
    clear hb
    go_wp2_with fail
    refine (ask_nil x _).mono ?_
    rintro e w' ⟨rfl, rfl⟩
    go_wp2_with fail
    refine (give_nil x _).mono ?_
    rintro e w' ⟨rfl, rfl⟩
    go_wp2_with fail
    refine (who_nil _).mono ?_
    rintro e w' ⟨rfl, rfl⟩
    go_wp2_with fail
    refine (waiting_nil _).mono ?_
    rintro e w' ⟨rfl, rfl⟩
    go_wp2_with fail
    refine (times_nil _).mono ?_
    rintro e w' ⟨rfl, rfl⟩
    go_wp2_with fail
    refine (waits_nil x _).mono ?_
    rintro e w' ⟨rfl, rfl⟩
    go_wp2_with fail
    refine (who_any w.heap.size 0 [] none _ L1.out.lk (by decide)).mono ?_
    rintro e w' ⟨rfl, rfl⟩
    go_wp2_with fail
  · refine (ask_neg w.heap.size x _ h).mono ?_
    rintro e w' ⟨rfl, rfl⟩
    go_wp2_with fail
    refine (give_neg w.heap.size x _ h).mono ?_
    rintro e w' ⟨rfl, rfl⟩
    go_wp2_with fail
    refine (back_no _).mono ?_
    rintro e w' ⟨rfl, rfl⟩
    go_wp2
    go_ret
    exact ⟨rfl, L1.out.be⟩
  · refine (ask_yes w.heap.size 0 [] none x _ L1.out.lk (by decide) h (by simp) (by decide)).mono ?_
    rintro e w2 ⟨rfl, hl⟩
    obtain ⟨o2, hl⟩ := L1.out.left hl
    have L2 := Lib.hid hl
    clear hl
    go_wp2_with fail
    refine (give_yes w.heap.size 1 x [] o2 _ L2.out.lk (by decide) h (by decide)).mono ?_
    rintro e w3 ⟨rfl, hl⟩
    obtain ⟨o3, hl⟩ := L2.out.left hl
    have L3 := Lib.hid hl
    clear hl
    go_wp2_with fail
    refine (back_ok _).mono ?_
    rintro e w' ⟨rfl, rfl⟩
    go_wp2
    go_ret
    exact ⟨rfl, L3.out.be⟩
end Go.Proofs.Ytmkofjdmjilpiaa.Tick
