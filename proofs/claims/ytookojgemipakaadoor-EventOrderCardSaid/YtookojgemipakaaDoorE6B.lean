/- event.compare, event.Before. -/
import Derived.Test.YtookojgemipakaaDoorE6A
import Derived.BigRegion
import Derived.Deep.RegionLaw
namespace Go.Proofs.YtookojgemipakaaDoor.E6
open Go.RowKit Go.Proofs.YtookojgemipakaaDoor Go.Proofs.YtookojgemipakaaDoor.Ev Go.Proofs.YtookojgemipakaaDoor.Evl Go.Proofs.YtookojgemipakaaDoor.E4
set_option linter.unusedVariables false
set_option maxRecDepth 100000
set_option maxHeartbeats 2000000 in
theorem compare_any (s1 s2 s3 s4 : ByteArray) (t q t' q' : Int) (A B : Option Addr) (n m c d : Nat) (w : World) :
    Calls Tryd.prog 38 #[.agg #[.string s1, .string s2, .int .i64 t, .int .i64 q, .slice A n c], .agg #[.string s3, .string s4, .int .i64 t', .int .i64 q', .slice B m d]] w fun e w' => e = .returned (.int .i64 (cmpE t q t' q')) ∧ Below w.heap.size w w' := by
  obtain ⟨W, hW⟩ : ∃ W, (w.alloc (.cells #[.string s1, .string s2, .int .i64 t, .int .i64 q, .slice A n c] 24)).alloc (.cells #[.string s3, .string s4, .int .i64 t', .int .i64 q', .slice B m d] 24) = W := ⟨_, rfl⟩
  have hR1 : Row W w.heap.size 24 #[.string s1, .string s2, .int .i64 t, .int .i64 q, .slice A n c] := by rw [← hW]; exact (Row.made w _ _).alloc _
  have hR2 : Row W (w.heap.size + 1) 24 #[.string s3, .string s4, .int .i64 t', .int .i64 q', .slice B m d] := by
    rw [← hW]
    simpa using Row.made (w.alloc (.cells #[.string s1, .string s2, .int .i64 t, .int .i64 q, .slice A n c] 24)) 24 #[.string s3, .string s4, .int .i64 t', .int .i64 q', .slice B m d]
  have hB : Below w.heap.size w W := by rw [← hW]; exact ((Below.refl _ w).alloc (Nat.le_refl _) _).alloc (by simp) _
  have HB := Lib.hid hB
  have hS : ∀ X, Below W.heap.size W X → X.cell? ⟨w.heap.size, 2, none⟩ = some (.int .i64 t) ∧ X.cell? ⟨w.heap.size, 3, none⟩ = some (.int .i64 q) ∧ X.cell? ⟨w.heap.size + 1, 2, none⟩ = some (.int .i64 t') ∧ X.cell? ⟨w.heap.size + 1, 3, none⟩ = some (.int .i64 q') := fun X h =>
    ⟨((hR1.below h hR1.lt).cell 2).trans rfl, ((hR1.below h hR1.lt).cell 3).trans rfl, ((hR2.below h hR2.lt).cell 2).trans rfl, ((hR2.below h hR2.lt).cell 3).trans rfl⟩
  obtain ⟨p2, p3, q2, q3⟩ := hS W (Below.refl _ W)
  have HS := Lib.hid hS
  have HD : Hid (Below W.heap.size W W.drew) := (Below.refl _ W).drew
  have HE : Hid (or2 (cmp3 t t') (cmp3 q q') = cmpE t q t' q') := rfl


  have HC1 := Lib.hid (cmp64 t t')
  have HC2 := Lib.hid (cmp64 q q')
  obtain ⟨x, hx⟩ : ∃ x, cmp3 t t' = x := ⟨_, rfl⟩
  obtain ⟨y, hy⟩ : ∃ y, cmp3 q q' = y := ⟨_, rfl⟩
  rw [hx] at HC1 HE
  rw [hy] at HC2 HE
  clear hS hR1 hR2 hB hx hy
  go_enter Tryd.func38, Tryd.ntmps38
  go_upto_region 1 with fail
  clear hW
  have HAL : Hid (∀ o, Below W.heap.size W (W.alloc o).drew) := fun o => ((Below.refl _ W).alloc (Nat.le_refl _) o).drew
  go_region_held3 (fun X => X.cell? ⟨w.heap.size, 2, none⟩ = some (.int .i64 t) ∧ X.cell? ⟨w.heap.size, 3, none⟩ = some (.int .i64 q) ∧ X.cell? ⟨w.heap.size + 1, 2, none⟩ = some (.int .i64 t') ∧ X.cell? ⟨w.heap.size + 1, 3, none⟩ = some (.int .i64 q'))
    (first
      | with_reducible exact ⟨p2, p3, q2, q3⟩
      | with_reducible exact HS.out _ HD.out
      | with_reducible exact HS.out _ (HAL.out _)
      | with_reducible exact HS.out _ HF.out
      | fail)
    ((first
      | (go_at_call 67
         (with_reducible refine (HC1.out _).mono ?_)
         rintro e w3 ⟨rfl, rfl⟩)
      | (go_at_call 67
         (with_reducible refine (HC2.out _).mono ?_)
         rintro e w3 ⟨rfl, rfl⟩)
      | (go_at_call 66
         refine (or_any _ x y _ (by first | exact Row.made _ _ _ | exact (Row.made _ _ _).drewN 1)).mono ?_
         rintro e w3 ⟨rfl, rfl⟩
         have HF := Lib.hid (HAL.out (.cells #[.int .i64 x, .int .i64 y] 3)))
      | fail))
  go_wp2
  go_ret
  exact ⟨by rw [← HE.out]; rfl, HB.out.trans (HF.out.mono HB.out.size)⟩
theorem before_any (s1 s2 s3 s4 : ByteArray) (t q t' q' : Int) (A B : Option Addr) (n m c d : Nat) (w : World) :
    Calls Tryd.prog 17 #[.agg #[.string s1, .string s2, .int .i64 t, .int .i64 q, .slice A n c], .agg #[.string s3, .string s4, .int .i64 t', .int .i64 q', .slice B m d]] w fun e w' => e = .returned (.bool (bef t q t' q')) ∧ Below w.heap.size w w' := by
  have HC := Lib.hid (compare_any s1 s2 s3 s4 t q t' q' A B n m c d)
  obtain ⟨z, hz⟩ : ∃ z, cmpE t q t' q' = z := ⟨_, rfl⟩
  have hb := cmpE_neg t q t' q'
  rw [hz] at hb HC
  obtain ⟨b, hbb⟩ : ∃ b, bef t q t' q' = b := ⟨_, rfl⟩
  rw [hbb] at hb ⊢
  clear hz hbb
  go_enter Tryd.func17, Tryd.ntmps17
  go_wp2_with fail
  refine (HC.out _).mono ?_
  rintro e w1 ⟨rfl, h1⟩
  have HB := Lib.hid ((show Below w.heap.size w _ from by go_grown).trans (h1.mono (show Below w.heap.size w _ from by go_grown).size))
  clear h1
  go_wp2
  go_ret
  exact ⟨by rfl, HB.out⟩
end Go.Proofs.YtookojgemipakaaDoor.E6
