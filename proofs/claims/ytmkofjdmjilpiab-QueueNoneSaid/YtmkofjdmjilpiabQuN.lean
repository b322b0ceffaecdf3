/- The law's first look at a queue, and the walk of the law QueueNone. -/
import Derived.Test.YtmkofjdmjilpiabQuB
namespace Go.Proofs.Ytmkofjdmjilpiab.Qu
open Go.RowKit Go.Proofs.Ytmkofjdmjilpiab
set_option linter.unusedVariables false

/-- A queue of the call's own. -/
structure LI (w0 w : World) (b fb : Nat) (ob : Option Nat) (room : Nat) (zs : List Int) (s : QS) : Prop where
  qu : Qu w b fb ob room zs s
  be : Below w0.heap.size w0 w
  bb : w0.heap.size ≤ b
  bf : w0.heap.size ≤ fb
  bo : ∀ k, ob = some k → w0.heap.size ≤ k
section
variable {w0 w w' : World} {b fb room : Nat} {zs zs' : List Int} {ob : Option Nat} {s s' : QS}
theorem LI.left (h : LI w0 w b fb ob room zs s) (g : Left w b fb ob room zs' s' w') : ∃ ob', LI w0 w' b fb ob' room zs' s' := by
  obtain ⟨ob', h1, h2, h3⟩ := g
  have hz := h.be.size
  refine ⟨ob', h1, h2.below h.be hz (fun k hk e => ?_), h.bb, h.bf, fun k hk => ?_⟩
  · rcases e with e | e | e
    · have := h.bb; omega
    · have := h.bf; omega
    · have := h.bo k e; omega
  · rcases h3 with h3 | h3 | ⟨g, h3, hg⟩
    · exact h.bo k (by rw [← h3, hk])
    · rw [h3] at hk; cases hk
    · rw [h3] at hk; injection hk with hk; omega
theorem LI.call (h : LI w0 w b fb ob room zs s) (g : Below w.heap.size w w') : LI w0 w' b fb ob room zs s := ⟨h.qu.call g, h.be.trans (g.mono h.be.size), h.bb, h.bf, h.bo⟩
end
theorem li_new {w w1 : World} {room : Nat} {zs : List Int} {s : QS} (h : Qu w1 (w.heap.size + 1) w.heap.size none room zs s) (hb : Below w.heap.size w w1) : LI w w1 (w.heap.size + 1) w.heap.size none room zs s := ⟨h, hb, by omega, by omega, fun _ h => by cases h⟩
set_option maxRecDepth 100000 in
set_option maxHeartbeats 1000000 in
theorem awake_any (w : World) : Calls Try.prog 34 #[] w fun e w' => e = .returned (.bool true) ∧ Below w.heap.size w w' := by
  go_enter Try.func34, Try.ntmps34
  go_wp2_with fail
  refine (new_any 1 _ (by decide) (by decide)).mono ?_
  rintro e w1 ⟨rfl, hq, hb⟩
  have L := Lib.hid (li_new hq hb)
  clear hq hb
  go_wp2_with fail
  refine (put_yes _ _ none _ [] _ _ 7 L.out.qu rfl (by decide) (by decide) (by decide) (by decide)).mono ?_
  rintro e w2 ⟨rfl, hl⟩
  obtain ⟨o1, hl⟩ := L.out.left hl
  have L1 := Lib.hid hl
  clear hl
  go_wp2_with fail
  refine (put_full _ _ o1 _ [7] _ _ 8 L1.out.qu rfl (by decide) (by decide)).mono ?_
  rintro e w3 ⟨rfl, hl⟩
  obtain ⟨o2, hl⟩ := L1.out.left hl
  have L2 := Lib.hid hl
  clear hl
  go_wp2_with fail
  refine (take_yes _ _ o2 _ _ _ 7 [] L2.out.qu (by decide) (by decide)).mono ?_
  rintro e w4 ⟨rfl, hl⟩
  obtain ⟨o3, hl⟩ := L2.out.left hl
  have L3 := Lib.hid hl
  clear hl
  go_wp2
  go_ret
  exact ⟨rfl, L3.out.be⟩
set_option maxRecDepth 100000 in
set_option maxHeartbeats 1000000 in
theorem none_law (x : Int) (wx : (Lit.int .i64 x).wf = true) {w : World} :
    Calls Try.prog 5 #[.int .i64 x] w fun e w' => e = .returned (.bool true) ∧ Below w.heap.size w w' := by
  clear wx
  go_enter Try.func5, Try.ntmps5
  go_wp2_with (first
    | (go_at_call 27; refine (take_nil _).mono ?_; rintro e w' ⟨rfl, rfl⟩)
    | (go_at_call 28; refine (counts_nil _).mono ?_; rintro e w' ⟨rfl, rfl⟩)
    | (go_at_call 23; refine (close_nil _).mono ?_; rintro e w' ⟨rfl, rfl⟩)
    | (go_at_call 34; refine (awake_any _).mono ?_; rintro e w1 ⟨rfl, hb⟩; have HB := Lib.hid hb; clear hb)
    | (go_at_call 25; refine (put_nil x _).mono ?_; rintro e w' ⟨rfl, rfl⟩)
    | (go_at_call 24; refine (canPut_nil _).mono ?_; rintro e w' ⟨rfl, rfl⟩)
    | (go_at_call 26; refine (canTake_nil _).mono ?_; rintro e w' ⟨rfl, rfl⟩)
    | (go_at_call 32; refine (closed_nil _).mono ?_; rintro e w' ⟨rfl, rfl⟩)
    | (go_at_call 33; refine (done_nil _).mono ?_; rintro e w' ⟨rfl, rfl⟩)
    | (go_at_call 29; refine (len_nil _).mono ?_; rintro e w' ⟨rfl, rfl⟩)
    | (go_at_call 30; refine (room_nil _).mono ?_; rintro e w' ⟨rfl, rfl⟩)
    | (go_at_call 31; refine (most_nil _).mono ?_; rintro e w' ⟨rfl, rfl⟩))
  go_ret
  exact ⟨rfl, HB.out⟩
end Go.Proofs.Ytmkofjdmjilpiab.Qu
