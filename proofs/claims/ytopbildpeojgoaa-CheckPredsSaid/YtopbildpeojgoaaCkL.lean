/- The law CheckPreds: the variable is a, which may not. -/
import Derived.Test.YtopbildpeojgoaaCkI
import Derived.Test.YtopbildpeojgoaaBits
namespace Go.Proofs.Ytopbildpeojgoaa.Ck
open Go.RowKit Go.Proofs.Ytopbildpeojgoaa Go.Proofs.Ytopbildpeojgoaa.Sch Go.Proofs.Ytopbildpeojgoaa.Ty
set_option linter.unusedVariables false
set_option maxRecDepth 100000
set_option maxHeartbeats 8000000 in
theorem preds_0_0_1 (kind n : Int) (hi : bits .and .i64 kind 3 = 0) (hj : bits .and .i64 (kind / 4) 3 = 0) (hq : bits .and .i64 n 1 = 1) (t : Int) (ht : bits .and .i64 n 2 = t) (nb : Bool) (htb : decide (0 < t) = nb) {w : World} :
    Calls Try.prog 8 #[.int .i64 kind, .int .i64 n] w fun e w' => e = .returned (.bool true) ∧ Below w.heap.size w w' := by
  go_enter Try.func8, Try.ntmps8
  go_wp2_with fail
  refine (types_any _).mono ?_
  rintro e w1 ⟨v1, rfl, ht1, hb1⟩
  have HT1 := Lib.hid ht1
  clear ht1
  go_wp2_with fail
  refine (new_any _ typesL _ _ HT1.out (Nat.le_refl _)).mono ?_
  rintro e w2 ⟨p, c, rfl, hr, hsc, _, hb2⟩
  obtain rfl := typesL_ok hr
  have HS2 := Lib.hid (hsc rfl)
  have HB2 := Lib.hid (hb1.trans (hb2.mono hb1.size))
  clear hb1 hb2 hr hsc
  go_wp2_with fail
  generalize hW : ((((((((((((((((((w2.alloc (.cells #[.string ⟨#[65]⟩] 9)).alloc _).alloc _).alloc _).alloc _).alloc _).alloc _).alloc _).alloc _).alloc _).alloc _).alloc _).alloc _).alloc _).alloc _).alloc _).alloc _).alloc _) = W
  have hX : Below w2.heap.size w2 W := by rw [← hW]; go_grown
  have r0 : Row W w2.heap.size 9 #[.string ⟨#[65]⟩] := by rw [← hW]; exact ((((((((((((((((((Row.made w2 _ _).alloc _).alloc _).alloc _).alloc _).alloc _).alloc _).alloc _).alloc _).alloc _).alloc _).alloc _).alloc _).alloc _).alloc _).alloc _).alloc _).alloc _)
  have r2 : Row W (w2.heap.size + 1 + 1) 9 #[.string ⟨#[66]⟩] := by rw [← hW]; exact ((((((((((((((((row_at (by simp) _ _).alloc _).alloc _).alloc _).alloc _).alloc _).alloc _).alloc _).alloc _).alloc _).alloc _).alloc _).alloc _).alloc _).alloc _).alloc _)
  have r4 : Row W (w2.heap.size + 1 + 1 + 1 + 1) 9 #[.string ⟨#[67]⟩] := by rw [← hW]; exact ((((((((((((((row_at (by simp) _ _).alloc _).alloc _).alloc _).alloc _).alloc _).alloc _).alloc _).alloc _).alloc _).alloc _).alloc _).alloc _).alloc _)
  have rn : Row W (w2.heap.size + 1 + 1 + 1 + 1 + 1 + 1 + 1 + 1 + 1 + 1) 86 #[.int .i64 2, .int .i64 0, .int .i64 0, .string ⟨#[]⟩, .bool false, .string ⟨#[97]⟩, .string ⟨#[120]⟩, .int .i64 1, .int .i64 1, .int .i64 1, .string ⟨#[]⟩, .bool false, .string ⟨#[]⟩, .string ⟨#[]⟩, .int .i64 9, .int .i64 0, .int .i64 0, .string ⟨#[]⟩, .bool false, .string ⟨#[]⟩, .string ⟨#[]⟩] := by rw [← hW]; exact ((((((((row_at (by simp) _ _).alloc _).alloc _).alloc _).alloc _).alloc _).alloc _).alloc _)
  have re : Row W (w2.heap.size + 1 + 1 + 1 + 1 + 1 + 1 + 1 + 1 + 1 + 1 + 1 + 1 + 1 + 1 + 1 + 1) 73 #[.string ⟨#[97]⟩, .slice (some ⟨w2.heap.size, 0, none⟩) 1 1, .bool false, .int .i64 1, .int .i64 2, .slice none 0 0, .string ⟨#[98]⟩, .slice (some ⟨w2.heap.size + 1 + 1, 0, none⟩) 1 1, .bool nb, .int .i64 1, .int .i64 1, .slice (some ⟨w2.heap.size + 1 + 1 + 1 + 1 + 1 + 1 + 1 + 1 + 1 + 1, 0, none⟩) 3 3, .string ⟨#[99]⟩, .slice (some ⟨w2.heap.size + 1 + 1 + 1 + 1, 0, none⟩) 1 1, .bool false, .int .i64 1, .int .i64 1, .slice none 0 0] := by rw [← hW]; exact ((row_at (by simp) _ _).alloc _)
  have rq : Row W (w2.heap.size + 1 + 1 + 1 + 1 + 1 + 1 + 1 + 1 + 1 + 1 + 1 + 1 + 1 + 1 + 1 + 1 + 1) 67 #[.slice (some ⟨w2.heap.size + 1 + 1 + 1 + 1 + 1 + 1 + 1 + 1 + 1 + 1 + 1 + 1 + 1 + 1 + 1 + 1, 0, none⟩) 3 3, .int .i64 5, .int .i64 5] := by rw [← hW]; exact (row_at (by simp) _ _)
  have HQ : Hid (Qs W W.heap.size (.slice (some ⟨w2.heap.size + 1 + 1 + 1 + 1 + 1 + 1 + 1 + 1 + 1 + 1 + 1 + 1 + 1 + 1 + 1 + 1, 0, none⟩) 3 3) (esP vA 0 2 nb)) := Lib.hid (qs_three re (sl_row1 r0) (sl_row1 r2) (sl_row1 r4) (ns_zero _ _) (ns_row rn (l := prL vA 0) (n := 3) rfl rfl (by decide)) (ns_zero _ _))
  have HS := Lib.hid (HS2.out.below hX hX.size)
  have HB := Lib.hid (HB2.out.trans (hX.mono HB2.out.size))
  have RQ := Lib.hid rq
  clear r0 r2 r4 rn re rq hX hW
  generalize (w2.heap.size + 1 + 1 + 1 + 1 + 1 + 1 + 1 + 1 + 1 + 1 + 1 + 1 + 1 + 1 + 1 + 1 + 1) = bq at RQ ⊢
  generalize (w2.heap.size + 1 + 1 + 1 + 1 + 1 + 1 + 1 + 1 + 1 + 1 + 1 + 1 + 1 + 1 + 1 + 1) = be at RQ HQ ⊢
  refine (awake_any W).mono ?_
  rintro e w3 ⟨rfl, hb3⟩
  have HB3 := Lib.hid (HB.out.trans (hb3.mono HB.out.size))
  have RQ3 := Lib.hid (Row.below RQ.out hb3 RQ.out.lt)
  have hqr := query_any p typesL _ 5 5 (esP vA 0 2 nb) w3 (HS.out.below hb3 hb3.size) typesL_len (HQ.out.below hb3 hb3.size)
  rw [q_a2 0 nb, show wantN 0 = 3 from rfl] at hqr
  have HQR := Lib.hid hqr
  have d0 : w3.cell? ⟨bq, 0, none⟩ = some (.slice (some ⟨be, 0, none⟩) 3 3) := (RQ3.out.cell 0).trans rfl
  have d1 : w3.cell? ⟨bq, 1, none⟩ = some (.int .i64 5) := (RQ3.out.cell 1).trans rfl
  have d2 : w3.cell? ⟨bq, 2, none⟩ = some (.int .i64 5) := (RQ3.out.cell 2).trans rfl
  clear hqr hb3
  go_wp2_with fail
  refine HQR.out.mono ?_
  rintro e w4 ⟨rfl, hb4⟩
  have HB4 := Lib.hid (HB3.out.trans (hb4.mono HB3.out.size))
  clear hb4 d0 d1 d2
  go_wp2
  go_ret
  exact ⟨rfl, HB4.out⟩
set_option maxHeartbeats 8000000 in
theorem preds_0_1_1 (kind n : Int) (hi : bits .and .i64 kind 3 = 0) (hj : bits .and .i64 (kind / 4) 3 = 1) (hq : bits .and .i64 n 1 = 1) (t : Int) (ht : bits .and .i64 n 2 = t) (nb : Bool) (htb : decide (0 < t) = nb) {w : World} :
    Calls Try.prog 8 #[.int .i64 kind, .int .i64 n] w fun e w' => e = .returned (.bool true) ∧ Below w.heap.size w w' := by
  go_enter Try.func8, Try.ntmps8
  go_wp2_with fail
  refine (types_any _).mono ?_
  rintro e w1 ⟨v1, rfl, ht1, hb1⟩
  have HT1 := Lib.hid ht1
  clear ht1
  go_wp2_with fail
  refine (new_any _ typesL _ _ HT1.out (Nat.le_refl _)).mono ?_
  rintro e w2 ⟨p, c, rfl, hr, hsc, _, hb2⟩
  obtain rfl := typesL_ok hr
  have HS2 := Lib.hid (hsc rfl)
  have HB2 := Lib.hid (hb1.trans (hb2.mono hb1.size))
  clear hb1 hb2 hr hsc
  go_wp2_with fail
  generalize hW : ((((((((((((((((((w2.alloc (.cells #[.string ⟨#[65]⟩] 9)).alloc _).alloc _).alloc _).alloc _).alloc _).alloc _).alloc _).alloc _).alloc _).alloc _).alloc _).alloc _).alloc _).alloc _).alloc _).alloc _).alloc _) = W
  have hX : Below w2.heap.size w2 W := by rw [← hW]; go_grown
  have r0 : Row W w2.heap.size 9 #[.string ⟨#[65]⟩] := by rw [← hW]; exact ((((((((((((((((((Row.made w2 _ _).alloc _).alloc _).alloc _).alloc _).alloc _).alloc _).alloc _).alloc _).alloc _).alloc _).alloc _).alloc _).alloc _).alloc _).alloc _).alloc _).alloc _)
  have r2 : Row W (w2.heap.size + 1 + 1) 9 #[.string ⟨#[66]⟩] := by rw [← hW]; exact ((((((((((((((((row_at (by simp) _ _).alloc _).alloc _).alloc _).alloc _).alloc _).alloc _).alloc _).alloc _).alloc _).alloc _).alloc _).alloc _).alloc _).alloc _).alloc _)
  have r4 : Row W (w2.heap.size + 1 + 1 + 1 + 1) 9 #[.string ⟨#[67]⟩] := by rw [← hW]; exact ((((((((((((((row_at (by simp) _ _).alloc _).alloc _).alloc _).alloc _).alloc _).alloc _).alloc _).alloc _).alloc _).alloc _).alloc _).alloc _).alloc _)
  have rn : Row W (w2.heap.size + 1 + 1 + 1 + 1 + 1 + 1 + 1 + 1 + 1 + 1 + 1) 86 #[.int .i64 2, .int .i64 0, .int .i64 0, .string ⟨#[]⟩, .bool false, .string ⟨#[97]⟩, .string ⟨#[120]⟩, .int .i64 1, .int .i64 1, .int .i64 1, .string ⟨#[]⟩, .bool false, .string ⟨#[]⟩, .string ⟨#[]⟩, .int .i64 4, .int .i64 0, .int .i64 0, .string ⟨#[]⟩, .bool false, .string ⟨#[]⟩, .string ⟨#[]⟩] := by rw [← hW]; exact (((((((row_at (by simp) _ _).alloc _).alloc _).alloc _).alloc _).alloc _).alloc _)
  have re : Row W (w2.heap.size + 1 + 1 + 1 + 1 + 1 + 1 + 1 + 1 + 1 + 1 + 1 + 1 + 1 + 1 + 1 + 1) 73 #[.string ⟨#[97]⟩, .slice (some ⟨w2.heap.size, 0, none⟩) 1 1, .bool false, .int .i64 1, .int .i64 2, .slice none 0 0, .string ⟨#[98]⟩, .slice (some ⟨w2.heap.size + 1 + 1, 0, none⟩) 1 1, .bool nb, .int .i64 1, .int .i64 1, .slice (some ⟨w2.heap.size + 1 + 1 + 1 + 1 + 1 + 1 + 1 + 1 + 1 + 1 + 1, 0, none⟩) 3 3, .string ⟨#[99]⟩, .slice (some ⟨w2.heap.size + 1 + 1 + 1 + 1, 0, none⟩) 1 1, .bool false, .int .i64 1, .int .i64 1, .slice none 0 0] := by rw [← hW]; exact ((row_at (by simp) _ _).alloc _)
  have rq : Row W (w2.heap.size + 1 + 1 + 1 + 1 + 1 + 1 + 1 + 1 + 1 + 1 + 1 + 1 + 1 + 1 + 1 + 1 + 1) 67 #[.slice (some ⟨w2.heap.size + 1 + 1 + 1 + 1 + 1 + 1 + 1 + 1 + 1 + 1 + 1 + 1 + 1 + 1 + 1 + 1, 0, none⟩) 3 3, .int .i64 5, .int .i64 5] := by rw [← hW]; exact (row_at (by simp) _ _)
  have HQ : Hid (Qs W W.heap.size (.slice (some ⟨w2.heap.size + 1 + 1 + 1 + 1 + 1 + 1 + 1 + 1 + 1 + 1 + 1 + 1 + 1 + 1 + 1 + 1, 0, none⟩) 3 3) (esP vA 1 2 nb)) := Lib.hid (qs_three re (sl_row1 r0) (sl_row1 r2) (sl_row1 r4) (ns_zero _ _) (ns_row rn (l := prL vA 1) (n := 3) rfl rfl (by decide)) (ns_zero _ _))
  have HS := Lib.hid (HS2.out.below hX hX.size)
  have HB := Lib.hid (HB2.out.trans (hX.mono HB2.out.size))
  have RQ := Lib.hid rq
  clear r0 r2 r4 rn re rq hX hW
  generalize (w2.heap.size + 1 + 1 + 1 + 1 + 1 + 1 + 1 + 1 + 1 + 1 + 1 + 1 + 1 + 1 + 1 + 1 + 1) = bq at RQ ⊢
  generalize (w2.heap.size + 1 + 1 + 1 + 1 + 1 + 1 + 1 + 1 + 1 + 1 + 1 + 1 + 1 + 1 + 1 + 1) = be at RQ HQ ⊢
  refine (awake_any W).mono ?_
  rintro e w3 ⟨rfl, hb3⟩
  have HB3 := Lib.hid (HB.out.trans (hb3.mono HB.out.size))
  have RQ3 := Lib.hid (Row.below RQ.out hb3 RQ.out.lt)
  have hqr := query_any p typesL _ 5 5 (esP vA 1 2 nb) w3 (HS.out.below hb3 hb3.size) typesL_len (HQ.out.below hb3 hb3.size)
  rw [q_a2 1 nb, show wantN 1 = 3 from rfl] at hqr
  have HQR := Lib.hid hqr
  have d0 : w3.cell? ⟨bq, 0, none⟩ = some (.slice (some ⟨be, 0, none⟩) 3 3) := (RQ3.out.cell 0).trans rfl
  have d1 : w3.cell? ⟨bq, 1, none⟩ = some (.int .i64 5) := (RQ3.out.cell 1).trans rfl
  have d2 : w3.cell? ⟨bq, 2, none⟩ = some (.int .i64 5) := (RQ3.out.cell 2).trans rfl
  clear hqr hb3
  go_wp2_with fail
  refine HQR.out.mono ?_
  rintro e w4 ⟨rfl, hb4⟩
  have HB4 := Lib.hid (HB3.out.trans (hb4.mono HB3.out.size))
  clear hb4 d0 d1 d2
  go_wp2
  go_ret
  exact ⟨rfl, HB4.out⟩
set_option maxHeartbeats 8000000 in
theorem preds_0_2_1 (kind n : Int) (hi : bits .and .i64 kind 3 = 0) (hj : bits .and .i64 (kind / 4) 3 = 2) (hq : bits .and .i64 n 1 = 1) (t : Int) (ht : bits .and .i64 n 2 = t) (nb : Bool) (htb : decide (0 < t) = nb) {w : World} :
    Calls Try.prog 8 #[.int .i64 kind, .int .i64 n] w fun e w' => e = .returned (.bool true) ∧ Below w.heap.size w w' := by
  go_enter Try.func8, Try.ntmps8
  go_wp2_with fail
  refine (types_any _).mono ?_
  rintro e w1 ⟨v1, rfl, ht1, hb1⟩
  have HT1 := Lib.hid ht1
  clear ht1
  go_wp2_with fail
  refine (new_any _ typesL _ _ HT1.out (Nat.le_refl _)).mono ?_
  rintro e w2 ⟨p, c, rfl, hr, hsc, _, hb2⟩
  obtain rfl := typesL_ok hr
  have HS2 := Lib.hid (hsc rfl)
  have HB2 := Lib.hid (hb1.trans (hb2.mono hb1.size))
  clear hb1 hb2 hr hsc
  go_wp2_with fail
  generalize hW : ((((((((((((((((((w2.alloc (.cells #[.string ⟨#[65]⟩] 9)).alloc _).alloc _).alloc _).alloc _).alloc _).alloc _).alloc _).alloc _).alloc _).alloc _).alloc _).alloc _).alloc _).alloc _).alloc _).alloc _).alloc _) = W
  have hX : Below w2.heap.size w2 W := by rw [← hW]; go_grown
  have r0 : Row W w2.heap.size 9 #[.string ⟨#[65]⟩] := by rw [← hW]; exact ((((((((((((((((((Row.made w2 _ _).alloc _).alloc _).alloc _).alloc _).alloc _).alloc _).alloc _).alloc _).alloc _).alloc _).alloc _).alloc _).alloc _).alloc _).alloc _).alloc _).alloc _)
  have r2 : Row W (w2.heap.size + 1 + 1) 9 #[.string ⟨#[66]⟩] := by rw [← hW]; exact ((((((((((((((((row_at (by simp) _ _).alloc _).alloc _).alloc _).alloc _).alloc _).alloc _).alloc _).alloc _).alloc _).alloc _).alloc _).alloc _).alloc _).alloc _).alloc _)
  have r4 : Row W (w2.heap.size + 1 + 1 + 1 + 1) 9 #[.string ⟨#[67]⟩] := by rw [← hW]; exact ((((((((((((((row_at (by simp) _ _).alloc _).alloc _).alloc _).alloc _).alloc _).alloc _).alloc _).alloc _).alloc _).alloc _).alloc _).alloc _).alloc _)
  have rn : Row W (w2.heap.size + 1 + 1 + 1 + 1 + 1 + 1 + 1 + 1 + 1 + 1 + 1 + 1) 86 #[.int .i64 2, .int .i64 0, .int .i64 0, .string ⟨#[]⟩, .bool false, .string ⟨#[97]⟩, .string ⟨#[120]⟩, .int .i64 1, .int .i64 2, .int .i64 0, .string ⟨#[117]⟩, .bool false, .string ⟨#[]⟩, .string ⟨#[]⟩, .int .i64 7, .int .i64 0, .int .i64 0, .string ⟨#[]⟩, .bool false, .string ⟨#[]⟩, .string ⟨#[]⟩] := by rw [← hW]; exact ((((((row_at (by simp) _ _).alloc _).alloc _).alloc _).alloc _).alloc _)
  have re : Row W (w2.heap.size + 1 + 1 + 1 + 1 + 1 + 1 + 1 + 1 + 1 + 1 + 1 + 1 + 1 + 1 + 1 + 1) 73 #[.string ⟨#[97]⟩, .slice (some ⟨w2.heap.size, 0, none⟩) 1 1, .bool false, .int .i64 1, .int .i64 2, .slice none 0 0, .string ⟨#[98]⟩, .slice (some ⟨w2.heap.size + 1 + 1, 0, none⟩) 1 1, .bool nb, .int .i64 1, .int .i64 1, .slice (some ⟨w2.heap.size + 1 + 1 + 1 + 1 + 1 + 1 + 1 + 1 + 1 + 1 + 1 + 1, 0, none⟩) 3 3, .string ⟨#[99]⟩, .slice (some ⟨w2.heap.size + 1 + 1 + 1 + 1, 0, none⟩) 1 1, .bool false, .int .i64 1, .int .i64 1, .slice none 0 0] := by rw [← hW]; exact ((row_at (by simp) _ _).alloc _)
  have rq : Row W (w2.heap.size + 1 + 1 + 1 + 1 + 1 + 1 + 1 + 1 + 1 + 1 + 1 + 1 + 1 + 1 + 1 + 1 + 1) 67 #[.slice (some ⟨w2.heap.size + 1 + 1 + 1 + 1 + 1 + 1 + 1 + 1 + 1 + 1 + 1 + 1 + 1 + 1 + 1 + 1, 0, none⟩) 3 3, .int .i64 5, .int .i64 5] := by rw [← hW]; exact (row_at (by simp) _ _)
  have HQ : Hid (Qs W W.heap.size (.slice (some ⟨w2.heap.size + 1 + 1 + 1 + 1 + 1 + 1 + 1 + 1 + 1 + 1 + 1 + 1 + 1 + 1 + 1 + 1, 0, none⟩) 3 3) (esP vA 2 2 nb)) := Lib.hid (qs_three re (sl_row1 r0) (sl_row1 r2) (sl_row1 r4) (ns_zero _ _) (ns_row rn (l := prL vA 2) (n := 3) rfl rfl (by decide)) (ns_zero _ _))
  have HS := Lib.hid (HS2.out.below hX hX.size)
  have HB := Lib.hid (HB2.out.trans (hX.mono HB2.out.size))
  have RQ := Lib.hid rq
  clear r0 r2 r4 rn re rq hX hW
  generalize (w2.heap.size + 1 + 1 + 1 + 1 + 1 + 1 + 1 + 1 + 1 + 1 + 1 + 1 + 1 + 1 + 1 + 1 + 1) = bq at RQ ⊢
  generalize (w2.heap.size + 1 + 1 + 1 + 1 + 1 + 1 + 1 + 1 + 1 + 1 + 1 + 1 + 1 + 1 + 1 + 1) = be at RQ HQ ⊢
  refine (awake_any W).mono ?_
  rintro e w3 ⟨rfl, hb3⟩
  have HB3 := Lib.hid (HB.out.trans (hb3.mono HB.out.size))
  have RQ3 := Lib.hid (Row.below RQ.out hb3 RQ.out.lt)
  have hqr := query_any p typesL _ 5 5 (esP vA 2 2 nb) w3 (HS.out.below hb3 hb3.size) typesL_len (HQ.out.below hb3 hb3.size)
  rw [q_a2 2 nb, show wantN 2 = 3 from rfl] at hqr
  have HQR := Lib.hid hqr
  have d0 : w3.cell? ⟨bq, 0, none⟩ = some (.slice (some ⟨be, 0, none⟩) 3 3) := (RQ3.out.cell 0).trans rfl
  have d1 : w3.cell? ⟨bq, 1, none⟩ = some (.int .i64 5) := (RQ3.out.cell 1).trans rfl
  have d2 : w3.cell? ⟨bq, 2, none⟩ = some (.int .i64 5) := (RQ3.out.cell 2).trans rfl
  clear hqr hb3
  go_wp2_with fail
  refine HQR.out.mono ?_
  rintro e w4 ⟨rfl, hb4⟩
  have HB4 := Lib.hid (HB3.out.trans (hb4.mono HB3.out.size))
  clear hb4 d0 d1 d2
  go_wp2
  go_ret
  exact ⟨rfl, HB4.out⟩
set_option maxHeartbeats 8000000 in
theorem preds_0_3_1 (kind n : Int) (hi : bits .and .i64 kind 3 = 0) (hj : bits .and .i64 (kind / 4) 3 = 3) (hq : bits .and .i64 n 1 = 1) (t : Int) (ht : bits .and .i64 n 2 = t) (nb : Bool) (htb : decide (0 < t) = nb) {w : World} :
    Calls Try.prog 8 #[.int .i64 kind, .int .i64 n] w fun e w' => e = .returned (.bool true) ∧ Below w.heap.size w w' := by
  go_enter Try.func8, Try.ntmps8
  go_wp2_with fail
  refine (types_any _).mono ?_
  rintro e w1 ⟨v1, rfl, ht1, hb1⟩
  have HT1 := Lib.hid ht1
  clear ht1
  go_wp2_with fail
  refine (new_any _ typesL _ _ HT1.out (Nat.le_refl _)).mono ?_
  rintro e w2 ⟨p, c, rfl, hr, hsc, _, hb2⟩
  obtain rfl := typesL_ok hr
  have HS2 := Lib.hid (hsc rfl)
  have HB2 := Lib.hid (hb1.trans (hb2.mono hb1.size))
  clear hb1 hb2 hr hsc
  go_wp2_with fail
  generalize hW : ((((((((((((((((((w2.alloc (.cells #[.string ⟨#[65]⟩] 9)).alloc _).alloc _).alloc _).alloc _).alloc _).alloc _).alloc _).alloc _).alloc _).alloc _).alloc _).alloc _).alloc _).alloc _).alloc _).alloc _).alloc _) = W
  have hX : Below w2.heap.size w2 W := by rw [← hW]; go_grown
  have r0 : Row W w2.heap.size 9 #[.string ⟨#[65]⟩] := by rw [← hW]; exact ((((((((((((((((((Row.made w2 _ _).alloc _).alloc _).alloc _).alloc _).alloc _).alloc _).alloc _).alloc _).alloc _).alloc _).alloc _).alloc _).alloc _).alloc _).alloc _).alloc _).alloc _)
  have r2 : Row W (w2.heap.size + 1 + 1) 9 #[.string ⟨#[66]⟩] := by rw [← hW]; exact ((((((((((((((((row_at (by simp) _ _).alloc _).alloc _).alloc _).alloc _).alloc _).alloc _).alloc _).alloc _).alloc _).alloc _).alloc _).alloc _).alloc _).alloc _).alloc _)
  have r4 : Row W (w2.heap.size + 1 + 1 + 1 + 1) 9 #[.string ⟨#[67]⟩] := by rw [← hW]; exact ((((((((((((((row_at (by simp) _ _).alloc _).alloc _).alloc _).alloc _).alloc _).alloc _).alloc _).alloc _).alloc _).alloc _).alloc _).alloc _).alloc _)
  have rn : Row W (w2.heap.size + 1 + 1 + 1 + 1 + 1 + 1 + 1 + 1 + 1 + 1 + 1 + 1 + 1) 86 #[.int .i64 2, .int .i64 0, .int .i64 0, .string ⟨#[]⟩, .bool false, .string ⟨#[97]⟩, .string ⟨#[120]⟩, .int .i64 1, .int .i64 1, .int .i64 1, .string ⟨#[]⟩, .bool false, .string ⟨#[]⟩, .string ⟨#[]⟩] := by rw [← hW]; exact (((((row_at (by simp) _ _).alloc _).alloc _).alloc _).alloc _)
  have re : Row W (w2.heap.size + 1 + 1 + 1 + 1 + 1 + 1 + 1 + 1 + 1 + 1 + 1 + 1 + 1 + 1 + 1 + 1) 73 #[.string ⟨#[97]⟩, .slice (some ⟨w2.heap.size, 0, none⟩) 1 1, .bool false, .int .i64 1, .int .i64 2, .slice none 0 0, .string ⟨#[98]⟩, .slice (some ⟨w2.heap.size + 1 + 1, 0, none⟩) 1 1, .bool nb, .int .i64 1, .int .i64 1, .slice (some ⟨w2.heap.size + 1 + 1 + 1 + 1 + 1 + 1 + 1 + 1 + 1 + 1 + 1 + 1 + 1, 0, none⟩) 2 2, .string ⟨#[99]⟩, .slice (some ⟨w2.heap.size + 1 + 1 + 1 + 1, 0, none⟩) 1 1, .bool false, .int .i64 1, .int .i64 1, .slice none 0 0] := by rw [← hW]; exact ((row_at (by simp) _ _).alloc _)
  have rq : Row W (w2.heap.size + 1 + 1 + 1 + 1 + 1 + 1 + 1 + 1 + 1 + 1 + 1 + 1 + 1 + 1 + 1 + 1 + 1) 67 #[.slice (some ⟨w2.heap.size + 1 + 1 + 1 + 1 + 1 + 1 + 1 + 1 + 1 + 1 + 1 + 1 + 1 + 1 + 1 + 1, 0, none⟩) 3 3, .int .i64 5, .int .i64 5] := by rw [← hW]; exact (row_at (by simp) _ _)
  have HQ : Hid (Qs W W.heap.size (.slice (some ⟨w2.heap.size + 1 + 1 + 1 + 1 + 1 + 1 + 1 + 1 + 1 + 1 + 1 + 1 + 1 + 1 + 1 + 1, 0, none⟩) 3 3) (esP vA 3 2 nb)) := Lib.hid (qs_three re (sl_row1 r0) (sl_row1 r2) (sl_row1 r4) (ns_zero _ _) (ns_row rn (l := prL vA 3) (n := 2) rfl rfl (by decide)) (ns_zero _ _))
  have HS := Lib.hid (HS2.out.below hX hX.size)
  have HB := Lib.hid (HB2.out.trans (hX.mono HB2.out.size))
  have RQ := Lib.hid rq
  clear r0 r2 r4 rn re rq hX hW
  generalize (w2.heap.size + 1 + 1 + 1 + 1 + 1 + 1 + 1 + 1 + 1 + 1 + 1 + 1 + 1 + 1 + 1 + 1 + 1) = bq at RQ ⊢
  generalize (w2.heap.size + 1 + 1 + 1 + 1 + 1 + 1 + 1 + 1 + 1 + 1 + 1 + 1 + 1 + 1 + 1 + 1) = be at RQ HQ ⊢
  refine (awake_any W).mono ?_
  rintro e w3 ⟨rfl, hb3⟩
  have HB3 := Lib.hid (HB.out.trans (hb3.mono HB.out.size))
  have RQ3 := Lib.hid (Row.below RQ.out hb3 RQ.out.lt)
  have hqr := query_any p typesL _ 5 5 (esP vA 3 2 nb) w3 (HS.out.below hb3 hb3.size) typesL_len (HQ.out.below hb3 hb3.size)
  rw [q_a2 3 nb, show wantN 3 = 1 from rfl] at hqr
  have HQR := Lib.hid hqr
  have d0 : w3.cell? ⟨bq, 0, none⟩ = some (.slice (some ⟨be, 0, none⟩) 3 3) := (RQ3.out.cell 0).trans rfl
  have d1 : w3.cell? ⟨bq, 1, none⟩ = some (.int .i64 5) := (RQ3.out.cell 1).trans rfl
  have d2 : w3.cell? ⟨bq, 2, none⟩ = some (.int .i64 5) := (RQ3.out.cell 2).trans rfl
  clear hqr hb3
  go_wp2_with fail
  refine HQR.out.mono ?_
  rintro e w4 ⟨rfl, hb4⟩
  have HB4 := Lib.hid (HB3.out.trans (hb4.mono HB3.out.size))
  clear hb4 d0 d1 d2
  go_wp2
  go_ret
  exact ⟨rfl, HB4.out⟩
end Go.Proofs.Ytopbildpeojgoaa.Ck
