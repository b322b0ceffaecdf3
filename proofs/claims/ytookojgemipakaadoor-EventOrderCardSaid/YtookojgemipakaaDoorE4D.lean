/- awake of layer 4. -/
import Derived.Test.YtookojgemipakaaDoorE4B
import Derived.Test.YtookojgemipakaaDoorE4C
import Derived.Test.YtookojgemipakaaDoorOrSf
namespace Go.Proofs.YtookojgemipakaaDoor.E4
open Go.RowKit Go.Proofs.YtookojgemipakaaDoor Go.Proofs.YtookojgemipakaaDoor.Door Go.Proofs.YtookojgemipakaaDoor.Ev Go.Proofs.YtookojgemipakaaDoor.Sch Go.Proofs.YtookojgemipakaaDoor.Ty Go.Proofs.YtookojgemipakaaDoor.Evl
set_option linter.unusedVariables false
set_option maxRecDepth 100000
theorem typesL_short : ∀ t ∈ typesL, t.2.length ≤ 1000000 := by
  intro t ht
  simp [typesL] at ht
  rcases ht with rfl | rfl | rfl <;> simp
theorem fits_num (n : ByteArray) (i : Int) : fits (n, 1) ⟨1, i, ⟨#[]⟩, false⟩ := ⟨.inl ⟨rfl, rfl, rfl⟩, rfl⟩
theorem fits_text (n s : ByteArray) (h : s.size ≤ 64) : fits (n, 2) ⟨2, 0, s, false⟩ := ⟨.inr (.inl ⟨rfl, rfl, rfl, h⟩), rfl⟩
theorem fits_truth (n : ByteArray) (b : Bool) : fits (n, 3) ⟨3, 0, ⟨#[]⟩, b⟩ := ⟨.inr (.inr ⟨rfl, rfl, rfl⟩), rfl⟩
theorem fits_two {f g : Fld} {v u : VV} (h1 : fits f v) (h2 : fits g u) : fitsAll [f, g] [v, u] := ⟨rfl, fun k a b => by
  match k, a, b with
  | 0, _, _ => exact h1
  | 1, _, _ => exact h2⟩
theorem fits_three {f g h : Fld} {v u x : VV} (h1 : fits f v) (h2 : fits g u) (h3 : fits h x) : fitsAll [f, g, h] [v, u, x] := ⟨rfl, fun k a b => by
  match k, a, b with
  | 0, _, _ => exact h1
  | 1, _, _ => exact h2
  | 2, _, _ => exact h3⟩
theorem idx_A : idx (typesL.map Prod.fst) ⟨#[65]⟩ = (0 : Nat) := by rw [idx_data]; rfl
theorem idx_B : idx (typesL.map Prod.fst) ⟨#[66]⟩ = (1 : Nat) := by rw [idx_data]; rfl
theorem lit_typed : TypedP typesL ⟨#[65]⟩ litV := ⟨0, ⟨#[65]⟩, [(sx, 1), (ss, 2)], idx_A, rfl, fits_two (fits_num _ _) (fits_text _ _ (by decide))⟩
set_option maxHeartbeats 4000000 in
theorem awake04 (w : World) (hm : ML w) : Calls Tryd.prog 10 #[] w fun e w' => e = .returned (.bool true) ∧ Below w.heap.size w w' := by
  have HM := Lib.hid hm
  clear hm
  go_enter Tryd.func10, Tryd.ntmps10
  go_wp2_with fail
  refine (types_any _).mono ?_
  rintro e w1 ⟨v1, rfl, ht1, hb1⟩
  have HT1 := Lib.hid ht1
  clear ht1
  go_wp2_with fail
  refine (new_any _ typesL _ _ HT1.out (Nat.le_refl _)).mono ?_
  rintro e w2 ⟨p, c, rfl, hr, hsc, _, hb2⟩
  obtain rfl := typesL_ok hr
  have HS := Lib.hid (hsc rfl)
  have HB2 := Lib.hid (hb1.trans (hb2.mono hb1.size))
  clear hb1 hb2 hr hsc
  obtain ⟨W, hW⟩ : ∃ W, W = (w2.alloc (.cells #[.int .i64 1, .int .i64 1, .string ⟨#[]⟩, .bool false, .int .i64 2, .int .i64 0, .string ⟨#[117]⟩, .bool false] 33)).alloc (.cells (evA w2.heap.size) 24) := ⟨_, rfl⟩
  have hR : Row W w2.heap.size 33 #[.int .i64 1, .int .i64 1, .string ⟨#[]⟩, .bool false, .int .i64 2, .int .i64 0, .string ⟨#[117]⟩, .bool false] := by rw [hW]; exact (Row.made w2 _ _).alloc _
  have hE : Row W (w2.heap.size + 1) 24 (evA w2.heap.size) := by
    rw [hW]
    simpa using Row.made (w2.alloc (.cells #[.int .i64 1, .int .i64 1, .string ⟨#[]⟩, .bool false, .int .i64 2, .int .i64 0, .string ⟨#[117]⟩, .bool false] 33)) 24 (evA w2.heap.size)
  have hB : Below w2.heap.size w2 W := by rw [hW]; exact ((Below.refl _ w2).alloc (Nat.le_refl _) _).alloc (by simp) _
  have HSW := Lib.hid (HS.out.below hB hB.size)
  have HMW := Lib.hid ((HM.out.below HB2.out).below hB)
  have HBW := Lib.hid (HB2.out.trans (hB.mono HB2.out.size))
  have HR := Lib.hid hR
  have HE := Lib.hid hE
  have HV := Lib.hid (vl_row (L := litV) (n := 2) hR rfl rfl (by decide))
  obtain ⟨c0, c1, c2, c3, c4⟩ : W.cell? ⟨w2.heap.size + 1, 0, none⟩ = some (.string ⟨#[65]⟩) ∧ W.cell? ⟨w2.heap.size + 1, 1, none⟩ = some (.string ⟨#[107]⟩) ∧ W.cell? ⟨w2.heap.size + 1, 2, none⟩ = some (.int .i64 5) ∧ W.cell? ⟨w2.heap.size + 1, 3, none⟩ = some (.int .i64 0) ∧ W.cell? ⟨w2.heap.size + 1, 4, none⟩ = some (.slice (some ⟨w2.heap.size, 0, none⟩) 2 2) :=
    ⟨(hE.cell 0).trans rfl, (hE.cell 1).trans rfl, (hE.cell 2).trans rfl, (hE.cell 3).trans rfl, (hE.cell 4).trans rfl⟩
  have HW := Lib.hid hW
  clear hR hE hB hW
  go_upto_region 3 with fail
  rw [show (w2.alloc (.cells #[.int .i64 1, .int .i64 1, .string ⟨#[]⟩, .bool false, .int .i64 2, .int .i64 0, .string ⟨#[117]⟩, .bool false] 33)).alloc (.cells #[.string ⟨#[65]⟩, .string ⟨#[107]⟩, .int .i64 5, .int .i64 0, .slice (some ⟨w2.heap.size, 0, none⟩) 2 2] 24) = W from HW.out.symm]
  clear HW
  go_wp2_with fail
  refine (check_any p typesL ⟨#[65]⟩ ⟨#[107]⟩ 5 0 (some ⟨w2.heap.size, 0, none⟩) 2 2 litV _ HSW.out HV.out typesL_short true ⟨fun _ => lit_typed, fun _ => rfl⟩).mono ?_
  rw [show checkM true ⟨#[107]⟩ 5 0 = 0 from rfl]
  rintro e w3 ⟨rfl, hb3⟩
  have HR3 := Lib.hid (HR.out.below hb3 HR.out.lt)
  have HE3 := Lib.hid (HE.out.below hb3 HE.out.lt)
  have HB3 := Lib.hid (HBW.out.trans (hb3.mono HBW.out.size))
  have HM3 := Lib.hid (HMW.out.below hb3)
  obtain ⟨d0, d1, d2, d3, d4⟩ : w3.cell? ⟨w2.heap.size + 1, 0, none⟩ = some (.string ⟨#[65]⟩) ∧ w3.cell? ⟨w2.heap.size + 1, 1, none⟩ = some (.string ⟨#[107]⟩) ∧ w3.cell? ⟨w2.heap.size + 1, 2, none⟩ = some (.int .i64 5) ∧ w3.cell? ⟨w2.heap.size + 1, 3, none⟩ = some (.int .i64 0) ∧ w3.cell? ⟨w2.heap.size + 1, 4, none⟩ = some (.slice (some ⟨w2.heap.size, 0, none⟩) 2 2) :=
    ⟨(HE3.out.cell 0).trans rfl, (HE3.out.cell 1).trans rfl, (HE3.out.cell 2).trans rfl, (HE3.out.cell 3).trans rfl, (HE3.out.cell 4).trans rfl⟩
  clear hb3 c0 c1 c2 c3 c4
  go_wp2_with fail
  refine (show_lit w2.heap.size _ HM3.out HR3.out).mono ?_
  unfold textA
  rintro e w4 ⟨rfl, hb4⟩
  have HB4 := Lib.hid (HB3.out.trans (hb4.mono HB3.out.size))
  clear hb4
  go_wp2_with fail
  refine (key_any ⟨#[107]⟩ _).mono ?_
  rw [show keyB ⟨#[107]⟩ = true from rfl]
  rintro e w5 ⟨rfl, hb5⟩
  have HB5 := Lib.hid (HB4.out.trans (hb5.mono HB4.out.size))
  clear hb5
  go_wp2_with fail
  refine (key_any ⟨#[]⟩ _).mono ?_
  rw [show keyB ⟨#[]⟩ = false from rfl]
  rintro e w6 ⟨rfl, hb6⟩
  have HB6 := Lib.hid (HB5.out.trans (hb6.mono HB5.out.size))
  clear hb6
  go_wp2
  go_ret
  exact ⟨rfl, HB6.out⟩
end Go.Proofs.YtookojgemipakaaDoor.E4
