/- awake of layer 2. -/
import Derived.Test.YtookojgemipakaaDoorVdA
import Derived.Test.YtookojgemipakaaDoorEvlA
namespace Go.Proofs.YtookojgemipakaaDoor.Vd
open Go.RowKit Go.Proofs.YtookojgemipakaaDoor Go.Proofs.YtookojgemipakaaDoor.Door Go.Proofs.YtookojgemipakaaDoor.Ev Go.Proofs.YtookojgemipakaaDoor.Sch Go.Proofs.YtookojgemipakaaDoor.Evl Go.Proofs.YtookojgemipakaaDoor.Ty
set_option linter.unusedVariables false
set_option maxRecDepth 100000
def truthB (b : Bool) : ByteArray := if b then ⟨#[116, 114, 117, 101]⟩ else ⟨#[102, 97, 108, 115, 101]⟩
theorem ttext_any (b : Bool) (w : World) : Calls Tryd.prog 77 #[.bool b] w fun e w' => e = .returned (.string (truthB b)) ∧ w = w' := by
  cases b
  all_goals
    go_enter Tryd.func77, Tryd.ntmps77
    go_wp2
    go_ret
    exact ⟨rfl, rfl⟩
theorem show_truth (b : Bool) (i : Int) (s : ByteArray) (w : World) : Calls Tryd.prog 59 #[.agg #[.int .i64 3, .int .i64 i, .string s, .bool b]] w fun e w' => e = .returned (.string (truthB b)) ∧ Below w.heap.size w w' := by
  go_enter Tryd.func59, Tryd.ntmps59
  go_wp2_with fail
  refine (ttext_any b _).mono ?_
  rintro e w1 ⟨rfl, rfl⟩
  go_wp2
  go_ret
  exact ⟨rfl, by go_grown⟩
theorem show_text (b : Bool) (i : Int) (s : ByteArray) (w : World) (hm : ML w) (hs : s.size < 1000000) : Calls Tryd.prog 59 #[.agg #[.int .i64 2, .int .i64 i, .string s, .bool b]] w fun e w' => e = .returned (.string (quoteB s)) ∧ Below w.heap.size w w' := by
  have HM := Lib.hid hm
  have HS := Lib.hid hs
  clear hm hs
  go_enter Tryd.func59, Tryd.ntmps59
  go_wp2_with fail
  refine (quote_any s _ (HM.out.below (by go_grown)) HS.out).mono ?_
  rintro e w1 ⟨rfl, hb⟩
  have HB := Lib.hid hb
  clear hb
  go_wp2
  go_ret
  exact ⟨rfl, (show Below w.heap.size w _ from by go_grown).trans (HB.out.mono (show Below w.heap.size w _ from by go_grown).size)⟩
theorem und_of {l t : List UInt8} (h : 39 :: (l ++ [39]) = 39 :: (dbl t ++ [39])) : t = und l := by
  have h1 : l = dbl t := by simpa using h
  rw [h1, und_dbl]
theorem quo_lit (w : World) (hm : ML w) : Calls Tryd.prog 61 #[.string ⟨#[105, 116, 39, 115]⟩] w fun e w' => e = .returned (.string ⟨#[39, 105, 116, 39, 39, 115, 39]⟩) ∧ Below w.heap.size w w' :=
  (quote_any ⟨#[105, 116, 39, 115]⟩ w hm (by decide)).mono fun e w' ⟨h, hb⟩ => ⟨h.trans (by
    have : quoteB ⟨#[105, 116, 39, 115]⟩ = ⟨#[39, 105, 116, 39, 39, 115, 39]⟩ := by decide
    rw [this]), hb⟩
end Go.Proofs.YtookojgemipakaaDoor.Vd
