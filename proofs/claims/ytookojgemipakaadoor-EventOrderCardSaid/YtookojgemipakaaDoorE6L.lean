/- event.Same and ref03.Same, of whatever events. -/
import Derived.Test.YtookojgemipakaaDoorE6K
namespace Go.Proofs.YtookojgemipakaaDoor.E6
open Go.RowKit Go.Proofs.YtookojgemipakaaDoor Go.Proofs.YtookojgemipakaaDoor.Ev Go.Proofs.YtookojgemipakaaDoor.Evl Go.Proofs.YtookojgemipakaaDoor.E4
set_option linter.unusedVariables false
set_option maxRecDepth 100000
def sameE (ty key : ByteArray) (t q : Int) (L : List VV) (ty' key' : ByteArray) (t' q' : Int) (M : List VV) : Bool := (ty.toList == ty'.toList) && ((key.toList == key'.toList) && ((t == t') && ((q == q') && eqVs L M)))
set_option maxHeartbeats 4000000 in
theorem same_gen (ty key ty' key' : ByteArray) (t q t' q' : Int) (A B : Option Addr) (n m c d : Nat) (L M : List VV) (w : World) (h : VL w w.heap.size (.slice A n c) L) (g : VL w w.heap.size (.slice B m d) M) :
    Calls Tryd.prog 19 #[.agg #[.string ty, .string key, .int .i64 t, .int .i64 q, .slice A n c], .agg #[.string ty', .string key', .int .i64 t', .int .i64 q', .slice B m d]] w fun e w' => e = .returned (.bool (sameE ty key t q L ty' key' t' q' M)) ∧ Below w.heap.size w w' := by
  have HE := Lib.hid (fun (X : World) (hX : Below w.heap.size w X) => eq_gen A B n m c d L M X (h.below hX hX.size) (g.below hX hX.size))
  clear h g
  obtain ⟨b0, h0⟩ : ∃ b, (ty.toList == ty'.toList) = b := ⟨_, rfl⟩
  obtain ⟨b1, h1⟩ : ∃ b, (key.toList == key'.toList) = b := ⟨_, rfl⟩
  obtain ⟨b2, h2⟩ : ∃ b, (t == t') = b := ⟨_, rfl⟩
  obtain ⟨b3, h3⟩ : ∃ b, (q == q') = b := ⟨_, rfl⟩
  cases b0 with
  | false =>
    have HNO := Lib.hid (show sameE ty key t q L ty' key' t' q' M = false from by unfold sameE; simp [h0])
    go_enter Tryd.func19, Tryd.ntmps19
    go_wp2
    go_ret
    exact ⟨by rw [HNO.out]; rfl, by go_grown⟩
  | true =>
    cases b1 with
    | false =>
      have HNO := Lib.hid (show sameE ty key t q L ty' key' t' q' M = false from by unfold sameE; simp [h0, h1])
      go_enter Tryd.func19, Tryd.ntmps19
      go_wp2
      go_ret
      exact ⟨by rw [HNO.out]; rfl, by go_grown⟩
    | true =>
      cases b2 with
      | false =>
        have HNO := Lib.hid (show sameE ty key t q L ty' key' t' q' M = false from by unfold sameE; simp [h0, h1, h2])
        go_enter Tryd.func19, Tryd.ntmps19
        go_wp2
        go_ret
        exact ⟨by rw [HNO.out]; rfl, by go_grown⟩
      | true =>
        cases b3 with
        | false =>
          have HNO := Lib.hid (show sameE ty key t q L ty' key' t' q' M = false from by unfold sameE; simp [h0, h1, h2, h3])
          go_enter Tryd.func19, Tryd.ntmps19
          go_wp2
          go_ret
          exact ⟨by rw [HNO.out]; rfl, by go_grown⟩
        | true =>
          have HYES := Lib.hid (show sameE ty key t q L ty' key' t' q' M = eqVs L M from by unfold sameE; simp [h0, h1, h2, h3])
          go_enter Tryd.func19, Tryd.ntmps19
          go_wp2_with fail
          refine (HE.out _ (by go_grown)).mono ?_
          rintro e w' ⟨rfl, hb⟩
          have HB := Lib.hid ((show Below w.heap.size w _ from by go_grown).trans (hb.mono (show Below w.heap.size w _ from by go_grown).size))
          clear hb
          go_wp2
          go_ret
          exact ⟨by rw [HYES.out]; rfl, HB.out⟩
end Go.Proofs.YtookojgemipakaaDoor.E6
