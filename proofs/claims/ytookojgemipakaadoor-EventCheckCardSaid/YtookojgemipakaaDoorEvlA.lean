/- How values stand to each other. -/
import Derived.Test.YtookojgemipakaaDoorTyD
import Derived.Test.YtookojgemipakaaDoorEvA
namespace Go.Proofs.YtookojgemipakaaDoor.Evl
open Go.RowKit Go.Proofs.YtookojgemipakaaDoor Go.Proofs.YtookojgemipakaaDoor.Ev Go.Proofs.YtookojgemipakaaDoor.Sch
set_option linter.unusedVariables false
set_option maxRecDepth 100000
def cmpI (a b : Int) : Int := if a < b then -1 else if b < a then 1 else 0
def cmpS (a b : ByteArray) : Int := if Op.bytesLess a.toList b.toList = true then -1 else if (a.toList == b.toList) = true then 0 else 1
def rk (b : Bool) : Int := if b = true then 1 else 0
theorem nan_i64 (n : Int) (w : World) : Calls Tryd.prog 89 #[.int .i64 n] w fun e w' => e = .returned (.bool false) ∧ w = w' := by
  go_enter Tryd.func89, Tryd.ntmps89
  go_wp2
  go_ret
  exact ⟨rfl, rfl⟩
theorem cmp_i64 (a b : Int) (w : World) : Calls Tryd.prog 67 #[.int .i64 a, .int .i64 b] w fun e w' => e = .returned (.int .i64 (cmpI a b)) ∧ w = w' := by
  go_enter Tryd.func67, Tryd.ntmps67
  go_wp2_with fail
  refine (nan_i64 _ _).mono ?_
  rintro e w1 ⟨rfl, rfl⟩
  go_wp2_with fail
  refine (nan_i64 _ _).mono ?_
  rintro e w1 ⟨rfl, rfl⟩
  go_wp2
  all_goals
    go_ret
    refine ⟨ret_int ?_, rfl⟩
    unfold cmpI
    first
      | rw [if_pos (by omega)]
      | rw [if_neg (by omega), if_pos (by omega)]
      | rw [if_neg (by omega), if_neg (by omega)]
/-- How two values stand; none: of two kinds, or of none. -/
def ordV (a b : VV) : Option Int := if a.k = b.k then (if a.k = 1 then some (cmpI a.i b.i) else if a.k = 2 then some (cmpS a.s b.s) else if a.k = 3 then some (cmpI (rk a.b) (rk b.b)) else none) else none
def OPost (w : World) (r : Option Int) (e : Ending) (w' : World) : Prop := e = .returned (.tuple #[.int .i64 (r.getD 0), .bool r.isSome]) ∧ Below w.heap.size w w'
theorem opost_yes {w w' : World} {r : Option Int} {n : Int} (h : r = some n) (hb : Below w.heap.size w w') : OPost w r (.returned (.tuple #[.int .i64 n, .bool true])) w' := by subst h; exact ⟨rfl, hb⟩
theorem opost_no {w w' : World} {r : Option Int} (h : r = none) (hb : Below w.heap.size w w') : OPost w r (.returned (.tuple #[.int .i64 0, .bool false])) w' := by subst h; exact ⟨rfl, hb⟩
def standM (o r : Int) : Bool := if o = 7 then decide (r = 0) else if o = 8 then !decide (r = 0) else if o = 9 then decide (r < 0) else if o = 10 then decide (r ≤ 0) else if o = 11 then decide (0 < r) else decide (0 ≤ r)
end Go.Proofs.YtookojgemipakaaDoor.Evl
