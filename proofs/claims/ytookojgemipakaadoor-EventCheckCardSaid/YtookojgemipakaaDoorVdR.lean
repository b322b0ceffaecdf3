/- Values' texts as the law has them; what may be; what is read. -/
import Derived.Test.YtookojgemipakaaDoorVdB
import Derived.Test.YtookojgemipakaaDoorEvlJ
import Derived.Test.YtookojgemipakaaDoorVdZ
import Derived.Test.YtookojgemipakaaDoorNumAll
namespace Go.Proofs.YtookojgemipakaaDoor.Vd
open Go.RowKit Go.Proofs.YtookojgemipakaaDoor Go.Proofs.YtookojgemipakaaDoor.Door Go.Proofs.YtookojgemipakaaDoor.Ev Go.Proofs.YtookojgemipakaaDoor.Sch Go.Proofs.YtookojgemipakaaDoor.Evl Go.Proofs.YtookojgemipakaaDoor.Ty
set_option linter.unusedVariables false
set_option maxRecDepth 100000
theorem dbl_append : ∀ a b : List UInt8, dbl (a ++ b) = dbl a ++ dbl b
  | [], _ => rfl
  | c :: a, b => by
    have ih := dbl_append a b
    by_cases h : c = 39
    · simp [dbl, h, ih]
    · simp [dbl, h, ih]
def acc (l : List UInt8) (i : Nat) : ByteArray := B (39 :: dbl (l.take i))
theorem add_B (a b : List UInt8) : B a ++ B b = B (a ++ b) := by
  unfold B
  apply ByteArray.ext
  apply Array.ext'
  simp
/-- A value's text. -/
def showB (v : VV) : ByteArray := if v.k = 1 then ⟨(Num.txt v.i).toArray⟩ else if v.k = 2 then quoteB v.s else if v.k = 3 then truthB v.b else ⟨#[63]⟩
theorem d_ne {k n : Int} (h : ¬ k = n) : (k == n) = false := beq_eq_false_iff_ne.2 h
theorem show_any (k i : Int) (s : ByteArray) (b : Bool) (w : World) (hm : ML w) (hs : s.size < 1000000) (h0 : -9223372036854775808 ≤ i) (h1 : i ≤ 9223372036854775807) :
    Calls Tryd.prog 59 #[.agg #[.int .i64 k, .int .i64 i, .string s, .bool b]] w fun e w' => e = .returned (.string (showB ⟨k, i, s, b⟩)) ∧ Below w.heap.size w w' := by
  by_cases k1 : k = 1
  · subst k1
    rw [show showB ⟨1, i, s, b⟩ = ⟨(Num.txt i).toArray⟩ from rfl]
    obtain ⟨R, hR⟩ : ∃ R : ByteArray, (⟨(Num.txt i).toArray⟩ : ByteArray) = R := ⟨_, rfl⟩
    have HD := Lib.hid (fun w => Num.digits_any' i w h0 h1)
    rw [hR] at HD ⊢
    clear hR h0 h1 hs hm
    go_enter Tryd.func59, Tryd.ntmps59
    go_wp2_with fail
    refine (HD.out _).mono ?_
    rintro e w1 ⟨rfl, hb⟩
    have HB := Lib.hid hb
    clear hb
    go_wp2
    go_ret
    exact ⟨rfl, (show Below w.heap.size w _ from by go_grown).trans (HB.out.mono (show Below w.heap.size w _ from by go_grown).size)⟩
  · by_cases k2 : k = 2
    · subst k2
      exact show_text b i s w hm hs
    · by_cases k3 : k = 3
      · subst k3
        exact show_truth b i s w
      · rw [show showB ⟨k, i, s, b⟩ = ⟨#[63]⟩ by unfold showB; rw [if_neg k1, if_neg k2, if_neg k3]]
        have e1 := d_ne k1
        have e2 := d_ne k2
        have e3 := d_ne k3
        clear k1 k2 k3 hm hs h0 h1
        go_enter Tryd.func59, Tryd.ntmps59
        go_wp2
        go_ret
        exact ⟨rfl, by go_grown⟩
end Go.Proofs.YtookojgemipakaaDoor.Vd
