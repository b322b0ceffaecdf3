/- The law EvalParts. -/
import Derived.Test.YtgilfolllckceaaEvlW
import Derived.Test.YtgilfolllckceaaEvlX
import Derived.Test.YtgilfolllckceaaEvlY
import Derived.Test.YtgilfolllckceaaLaw
import Derived.Deep.RegionLaw
import Derived.Deep.Cut
import Derived.Deep.DeepCutAuto
namespace Go.Proofs.Ytgilfolllckceaa.Evl
open Go.RowKit Go.Proofs.Ytgilfolllckceaa Go.Proofs.Ytgilfolllckceaa.Ev Go.Proofs.Ytgilfolllckceaa.Sch Go.Proofs.Ytgilfolllckceaa.Ty Go.Proofs.Ytgilfolllckceaa.Num
set_option linter.unusedVariables false
set_option maxRecDepth 100000
theorem good2 {k i : Int} {s : ByteArray} {b : Bool} (h : OkV k i s b) {o : Int} (ho : o = 3 ∨ o = 13) : Ty.Good [⟨1, k, i, s, b, ⟨#[]⟩, ⟨#[]⟩⟩, opn o] := by
  refine ⟨by simp, fun j hj => ?_, fun j hj => ?_, ?_⟩
  · match j, hj with
    | 0, _ => exact .const h
    | 1, _ => exact .op o (by omega) (by omega)
  · match j, hj with
    | 0, _ => show partsI 1 ≤ dep []; decide
    | 1, _ => show partsI o ≤ (1 - partsI 1) + 0; rw [partsI_1 ho]; decide
  · show (1 - partsI 1) + ((1 - partsI o) + 0) = 1
    rw [partsI_1 ho]; decide
theorem good3 {k i k' i' : Int} {s s' : ByteArray} {b b' : Bool} (h : OkV k i s b) (h' : OkV k' i' s' b') {o : Int} (h1 : 3 ≤ o) (h2 : o ≤ 15) (ho : ¬ (o = 3 ∨ o = 13)) : Ty.Good [⟨1, k, i, s, b, ⟨#[]⟩, ⟨#[]⟩⟩, ⟨1, k', i', s', b', ⟨#[]⟩, ⟨#[]⟩⟩, opn o] := by
  refine ⟨by simp, fun j hj => ?_, fun j hj => ?_, ?_⟩
  · match j, hj with
    | 0, _ => exact .const h
    | 1, _ => exact .const h'
    | 2, _ => exact .op o h1 h2
  · match j, hj with
    | 0, _ => show partsI 1 ≤ dep []; decide
    | 1, _ => show partsI 1 ≤ (1 - partsI 1) + 0; decide
    | 2, _ => show partsI o ≤ (1 - partsI 1) + ((1 - partsI 1) + 0); rw [partsI_2 h1 h2 ho]; decide
  · show (1 - partsI 1) + ((1 - partsI 1) + ((1 - partsI o) + 0)) = 1
    rw [partsI_2 h1 h2 ho]; decide
theorem drew_alloc (w : World) (o : Obj) : w.drew.alloc o = (w.alloc o).drew := rfl
theorem in_zero2 : In64 0 := ⟨by decide, by decide⟩
/-- The two values, in blocks of their own. -/
def Two (w wx : World) (b c : Nat) : Prop := ∃ k i s t k' i' s' t', Row wx b 23 #[.int .i64 k, .int .i64 i, .string s, .bool t] ∧ Row wx c 23 #[.int .i64 k', .int .i64 i', .string s', .bool t'] ∧ OkV k i s t ∧ OkV k' i' s' t' ∧ In64 i ∧ In64 i' ∧ Below w.heap.size w wx
set_option maxHeartbeats 8000000 in
theorem parts_law (o : Int) (wo : (Lit.int .i64 o).wf = true) (ak ai : Int) (sa : ByteArray) (ab : Bool) (hai : In64 ai) (hsa : sa.size ≤ 9223372036854775807) (bk bi : Int) (sb : ByteArray) (bb : Bool) (hbi : In64 bi) (hsb : sb.size ≤ 9223372036854775807) {w : World} :
    Calls Try.prog 3 #[.int .i64 o, .agg #[.int .i64 ak, .int .i64 ai, .string sa, .bool ab], .agg #[.int .i64 bk, .int .i64 bi, .string sb, .bool bb]] w fun e w' => e = .returned (.bool true) ∧ Below w.heap.size w w' := by
  have HVA := Lib.hid (fun X => value_any ak ai sa ab hai hsa X)
  have HVB := Lib.hid (fun X => value_any bk bi sb bb hbi hsb X)
  have hand := and255 o
  obtain ⟨q, hq⟩ : ∃ q, o % 256 % 13 = q := ⟨_, rfl⟩
  have hq0 : 0 ≤ q ∧ q ≤ 12 := by omega
  have htm : (o % 256).tmod 13 = q := by rw [Int.tmod_eq_emod_of_nonneg (by omega)]; exact hq
  obtain ⟨q0, q1⟩ := hq0
  clear hq hai hsa hbi hsb wo
  go_enter Try.func3, Try.ntmps3
  go_wp2_with fail
  refine (types_any _).mono ?_
  rintro e w1 ⟨v1, rfl, ht1, hb1⟩
  have HT1 := Lib.hid ht1
  clear ht1
  go_wp2_with fail
  refine (new_any _ typesL _ _ HT1.out (Nat.le_refl _)).mono ?_
  rintro e w2 ⟨p, c, rfl, hr, hsc, _, hb2⟩
  obtain rfl := typesL_ok hr
  have HS2 := Lib.hid (hsc rfl)
  have hrw : Row ((w.alloc (.cells #[.int .i64 ak, .int .i64 ai, .string sa, .bool ab] 23)).alloc (.cells #[.int .i64 bk, .int .i64 bi, .string sb, .bool bb] 23)) w.heap.size 23 #[.int .i64 ak, .int .i64 ai, .string sa, .bool ab] ∧ Row ((w.alloc (.cells #[.int .i64 ak, .int .i64 ai, .string sa, .bool ab] 23)).alloc (.cells #[.int .i64 bk, .int .i64 bi, .string sb, .bool bb] 23)) (w.heap.size + 1) 23 #[.int .i64 bk, .int .i64 bi, .string sb, .bool bb] := ⟨(Row.made w _ _).alloc _, by simpa using Row.made (w.alloc (.cells #[.int .i64 ak, .int .i64 ai, .string sa, .bool ab] 23)) 23 #[.int .i64 bk, .int .i64 bi, .string sb, .bool bb]⟩
  have hbw : Below w.heap.size w ((w.alloc (.cells #[.int .i64 ak, .int .i64 ai, .string sa, .bool ab] 23)).alloc (.cells #[.int .i64 bk, .int .i64 bi, .string sb, .bool bb] 23)) := ((Below.refl _ w).alloc (Nat.le_refl _) _).alloc (by simp) _
  have hb12 := hb1.trans (hb2.mono hb1.size)
  have ra := Row.below hrw.1 hb12 hrw.1.lt
  have rb := Row.below hrw.2 hb12 hrw.2.lt
  have a0 : w2.cell? ⟨w.heap.size, 0, none⟩ = some (.int .i64 ak) := (ra.cell 0).trans rfl
  have a1 : w2.cell? ⟨w.heap.size, 1, none⟩ = some (.int .i64 ai) := (ra.cell 1).trans rfl
  have a2 : w2.cell? ⟨w.heap.size, 2, none⟩ = some (.string sa) := (ra.cell 2).trans rfl
  have a3 : w2.cell? ⟨w.heap.size, 3, none⟩ = some (.bool ab) := (ra.cell 3).trans rfl
  have b0 : w2.cell? ⟨w.heap.size + 1, 0, none⟩ = some (.int .i64 bk) := (rb.cell 0).trans rfl
  have b1 : w2.cell? ⟨w.heap.size + 1, 1, none⟩ = some (.int .i64 bi) := (rb.cell 1).trans rfl
  have b2 : w2.cell? ⟨w.heap.size + 1, 2, none⟩ = some (.string sb) := (rb.cell 2).trans rfl
  have b3 : w2.cell? ⟨w.heap.size + 1, 3, none⟩ = some (.bool bb) := (rb.cell 3).trans rfl
  have hlt : w.heap.size + 1 < w2.heap.size := rb.lt
  have HB2 := Lib.hid (hbw.trans (hb12.mono hbw.size))
  clear hb1 hb2 hr hsc hrw hbw hb12 ra rb
  go_upto_region 3 with fail
  go_cut [10, 11] (fun s10 s11 wx => ∃ b c : Nat, s10 = .pointer (some ⟨b, 0, none⟩) ∧ s11 = .pointer (some ⟨c, 0, none⟩) ∧ Hid (Two w2 wx b c))
  case first =>
    have a0_1 : ∀ (o1 : Obj), (w2.alloc o1).cell? ⟨w.heap.size, 0, none⟩ = some (.int .i64 ak) := fun o1 => Lib.cell?_alloc_some _ a0
    have a0_2 : ∀ (o1 o2 : Obj), ((w2.alloc o1).alloc o2).cell? ⟨w.heap.size, 0, none⟩ = some (.int .i64 ak) := fun o1 o2 => Lib.cell?_alloc_some _ (Lib.cell?_alloc_some _ a0)
    have a0_3 : ∀ (o1 o2 o3 : Obj), (((w2.alloc o1).alloc o2).alloc o3).cell? ⟨w.heap.size, 0, none⟩ = some (.int .i64 ak) := fun o1 o2 o3 => Lib.cell?_alloc_some _ (Lib.cell?_alloc_some _ (Lib.cell?_alloc_some _ a0))
    have a0_4 : ∀ (o1 o2 o3 o4 : Obj), ((((w2.alloc o1).alloc o2).alloc o3).alloc o4).cell? ⟨w.heap.size, 0, none⟩ = some (.int .i64 ak) := fun o1 o2 o3 o4 => Lib.cell?_alloc_some _ (Lib.cell?_alloc_some _ (Lib.cell?_alloc_some _ (Lib.cell?_alloc_some _ a0)))
    have a0_5 : ∀ (o1 o2 o3 o4 o5 : Obj), (((((w2.alloc o1).alloc o2).alloc o3).alloc o4).alloc o5).cell? ⟨w.heap.size, 0, none⟩ = some (.int .i64 ak) := fun o1 o2 o3 o4 o5 => Lib.cell?_alloc_some _ (Lib.cell?_alloc_some _ (Lib.cell?_alloc_some _ (Lib.cell?_alloc_some _ (Lib.cell?_alloc_some _ a0))))
    have a1_1 : ∀ (o1 : Obj), (w2.alloc o1).cell? ⟨w.heap.size, 1, none⟩ = some (.int .i64 ai) := fun o1 => Lib.cell?_alloc_some _ a1
    have a1_2 : ∀ (o1 o2 : Obj), ((w2.alloc o1).alloc o2).cell? ⟨w.heap.size, 1, none⟩ = some (.int .i64 ai) := fun o1 o2 => Lib.cell?_alloc_some _ (Lib.cell?_alloc_some _ a1)
    have a1_3 : ∀ (o1 o2 o3 : Obj), (((w2.alloc o1).alloc o2).alloc o3).cell? ⟨w.heap.size, 1, none⟩ = some (.int .i64 ai) := fun o1 o2 o3 => Lib.cell?_alloc_some _ (Lib.cell?_alloc_some _ (Lib.cell?_alloc_some _ a1))
    have a1_4 : ∀ (o1 o2 o3 o4 : Obj), ((((w2.alloc o1).alloc o2).alloc o3).alloc o4).cell? ⟨w.heap.size, 1, none⟩ = some (.int .i64 ai) := fun o1 o2 o3 o4 => Lib.cell?_alloc_some _ (Lib.cell?_alloc_some _ (Lib.cell?_alloc_some _ (Lib.cell?_alloc_some _ a1)))
    have a1_5 : ∀ (o1 o2 o3 o4 o5 : Obj), (((((w2.alloc o1).alloc o2).alloc o3).alloc o4).alloc o5).cell? ⟨w.heap.size, 1, none⟩ = some (.int .i64 ai) := fun o1 o2 o3 o4 o5 => Lib.cell?_alloc_some _ (Lib.cell?_alloc_some _ (Lib.cell?_alloc_some _ (Lib.cell?_alloc_some _ (Lib.cell?_alloc_some _ a1))))
    have a2_1 : ∀ (o1 : Obj), (w2.alloc o1).cell? ⟨w.heap.size, 2, none⟩ = some (.string sa) := fun o1 => Lib.cell?_alloc_some _ a2
    have a2_2 : ∀ (o1 o2 : Obj), ((w2.alloc o1).alloc o2).cell? ⟨w.heap.size, 2, none⟩ = some (.string sa) := fun o1 o2 => Lib.cell?_alloc_some _ (Lib.cell?_alloc_some _ a2)
    have a2_3 : ∀ (o1 o2 o3 : Obj), (((w2.alloc o1).alloc o2).alloc o3).cell? ⟨w.heap.size, 2, none⟩ = some (.string sa) := fun o1 o2 o3 => Lib.cell?_alloc_some _ (Lib.cell?_alloc_some _ (Lib.cell?_alloc_some _ a2))
    have a2_4 : ∀ (o1 o2 o3 o4 : Obj), ((((w2.alloc o1).alloc o2).alloc o3).alloc o4).cell? ⟨w.heap.size, 2, none⟩ = some (.string sa) := fun o1 o2 o3 o4 => Lib.cell?_alloc_some _ (Lib.cell?_alloc_some _ (Lib.cell?_alloc_some _ (Lib.cell?_alloc_some _ a2)))
    have a2_5 : ∀ (o1 o2 o3 o4 o5 : Obj), (((((w2.alloc o1).alloc o2).alloc o3).alloc o4).alloc o5).cell? ⟨w.heap.size, 2, none⟩ = some (.string sa) := fun o1 o2 o3 o4 o5 => Lib.cell?_alloc_some _ (Lib.cell?_alloc_some _ (Lib.cell?_alloc_some _ (Lib.cell?_alloc_some _ (Lib.cell?_alloc_some _ a2))))
    have a3_1 : ∀ (o1 : Obj), (w2.alloc o1).cell? ⟨w.heap.size, 3, none⟩ = some (.bool ab) := fun o1 => Lib.cell?_alloc_some _ a3
    have a3_2 : ∀ (o1 o2 : Obj), ((w2.alloc o1).alloc o2).cell? ⟨w.heap.size, 3, none⟩ = some (.bool ab) := fun o1 o2 => Lib.cell?_alloc_some _ (Lib.cell?_alloc_some _ a3)
    have a3_3 : ∀ (o1 o2 o3 : Obj), (((w2.alloc o1).alloc o2).alloc o3).cell? ⟨w.heap.size, 3, none⟩ = some (.bool ab) := fun o1 o2 o3 => Lib.cell?_alloc_some _ (Lib.cell?_alloc_some _ (Lib.cell?_alloc_some _ a3))
    have a3_4 : ∀ (o1 o2 o3 o4 : Obj), ((((w2.alloc o1).alloc o2).alloc o3).alloc o4).cell? ⟨w.heap.size, 3, none⟩ = some (.bool ab) := fun o1 o2 o3 o4 => Lib.cell?_alloc_some _ (Lib.cell?_alloc_some _ (Lib.cell?_alloc_some _ (Lib.cell?_alloc_some _ a3)))
    have a3_5 : ∀ (o1 o2 o3 o4 o5 : Obj), (((((w2.alloc o1).alloc o2).alloc o3).alloc o4).alloc o5).cell? ⟨w.heap.size, 3, none⟩ = some (.bool ab) := fun o1 o2 o3 o4 o5 => Lib.cell?_alloc_some _ (Lib.cell?_alloc_some _ (Lib.cell?_alloc_some _ (Lib.cell?_alloc_some _ (Lib.cell?_alloc_some _ a3))))
    have b0_1 : ∀ (o1 : Obj), (w2.alloc o1).cell? ⟨w.heap.size + 1, 0, none⟩ = some (.int .i64 bk) := fun o1 => Lib.cell?_alloc_some _ b0
    have b0_2 : ∀ (o1 o2 : Obj), ((w2.alloc o1).alloc o2).cell? ⟨w.heap.size + 1, 0, none⟩ = some (.int .i64 bk) := fun o1 o2 => Lib.cell?_alloc_some _ (Lib.cell?_alloc_some _ b0)
    have b0_3 : ∀ (o1 o2 o3 : Obj), (((w2.alloc o1).alloc o2).alloc o3).cell? ⟨w.heap.size + 1, 0, none⟩ = some (.int .i64 bk) := fun o1 o2 o3 => Lib.cell?_alloc_some _ (Lib.cell?_alloc_some _ (Lib.cell?_alloc_some _ b0))
    have b0_4 : ∀ (o1 o2 o3 o4 : Obj), ((((w2.alloc o1).alloc o2).alloc o3).alloc o4).cell? ⟨w.heap.size + 1, 0, none⟩ = some (.int .i64 bk) := fun o1 o2 o3 o4 => Lib.cell?_alloc_some _ (Lib.cell?_alloc_some _ (Lib.cell?_alloc_some _ (Lib.cell?_alloc_some _ b0)))
    have b0_5 : ∀ (o1 o2 o3 o4 o5 : Obj), (((((w2.alloc o1).alloc o2).alloc o3).alloc o4).alloc o5).cell? ⟨w.heap.size + 1, 0, none⟩ = some (.int .i64 bk) := fun o1 o2 o3 o4 o5 => Lib.cell?_alloc_some _ (Lib.cell?_alloc_some _ (Lib.cell?_alloc_some _ (Lib.cell?_alloc_some _ (Lib.cell?_alloc_some _ b0))))
    have b1_1 : ∀ (o1 : Obj), (w2.alloc o1).cell? ⟨w.heap.size + 1, 1, none⟩ = some (.int .i64 bi) := fun o1 => Lib.cell?_alloc_some _ b1
    have b1_2 : ∀ (o1 o2 : Obj), ((w2.alloc o1).alloc o2).cell? ⟨w.heap.size + 1, 1, none⟩ = some (.int .i64 bi) := fun o1 o2 => Lib.cell?_alloc_some _ (Lib.cell?_alloc_some _ b1)
    have b1_3 : ∀ (o1 o2 o3 : Obj), (((w2.alloc o1).alloc o2).alloc o3).cell? ⟨w.heap.size + 1, 1, none⟩ = some (.int .i64 bi) := fun o1 o2 o3 => Lib.cell?_alloc_some _ (Lib.cell?_alloc_some _ (Lib.cell?_alloc_some _ b1))
    have b1_4 : ∀ (o1 o2 o3 o4 : Obj), ((((w2.alloc o1).alloc o2).alloc o3).alloc o4).cell? ⟨w.heap.size + 1, 1, none⟩ = some (.int .i64 bi) := fun o1 o2 o3 o4 => Lib.cell?_alloc_some _ (Lib.cell?_alloc_some _ (Lib.cell?_alloc_some _ (Lib.cell?_alloc_some _ b1)))
    have b1_5 : ∀ (o1 o2 o3 o4 o5 : Obj), (((((w2.alloc o1).alloc o2).alloc o3).alloc o4).alloc o5).cell? ⟨w.heap.size + 1, 1, none⟩ = some (.int .i64 bi) := fun o1 o2 o3 o4 o5 => Lib.cell?_alloc_some _ (Lib.cell?_alloc_some _ (Lib.cell?_alloc_some _ (Lib.cell?_alloc_some _ (Lib.cell?_alloc_some _ b1))))
    have b2_1 : ∀ (o1 : Obj), (w2.alloc o1).cell? ⟨w.heap.size + 1, 2, none⟩ = some (.string sb) := fun o1 => Lib.cell?_alloc_some _ b2
    have b2_2 : ∀ (o1 o2 : Obj), ((w2.alloc o1).alloc o2).cell? ⟨w.heap.size + 1, 2, none⟩ = some (.string sb) := fun o1 o2 => Lib.cell?_alloc_some _ (Lib.cell?_alloc_some _ b2)
    have b2_3 : ∀ (o1 o2 o3 : Obj), (((w2.alloc o1).alloc o2).alloc o3).cell? ⟨w.heap.size + 1, 2, none⟩ = some (.string sb) := fun o1 o2 o3 => Lib.cell?_alloc_some _ (Lib.cell?_alloc_some _ (Lib.cell?_alloc_some _ b2))
    have b2_4 : ∀ (o1 o2 o3 o4 : Obj), ((((w2.alloc o1).alloc o2).alloc o3).alloc o4).cell? ⟨w.heap.size + 1, 2, none⟩ = some (.string sb) := fun o1 o2 o3 o4 => Lib.cell?_alloc_some _ (Lib.cell?_alloc_some _ (Lib.cell?_alloc_some _ (Lib.cell?_alloc_some _ b2)))
    have b2_5 : ∀ (o1 o2 o3 o4 o5 : Obj), (((((w2.alloc o1).alloc o2).alloc o3).alloc o4).alloc o5).cell? ⟨w.heap.size + 1, 2, none⟩ = some (.string sb) := fun o1 o2 o3 o4 o5 => Lib.cell?_alloc_some _ (Lib.cell?_alloc_some _ (Lib.cell?_alloc_some _ (Lib.cell?_alloc_some _ (Lib.cell?_alloc_some _ b2))))
    have b3_1 : ∀ (o1 : Obj), (w2.alloc o1).cell? ⟨w.heap.size + 1, 3, none⟩ = some (.bool bb) := fun o1 => Lib.cell?_alloc_some _ b3
    have b3_2 : ∀ (o1 o2 : Obj), ((w2.alloc o1).alloc o2).cell? ⟨w.heap.size + 1, 3, none⟩ = some (.bool bb) := fun o1 o2 => Lib.cell?_alloc_some _ (Lib.cell?_alloc_some _ b3)
    have b3_3 : ∀ (o1 o2 o3 : Obj), (((w2.alloc o1).alloc o2).alloc o3).cell? ⟨w.heap.size + 1, 3, none⟩ = some (.bool bb) := fun o1 o2 o3 => Lib.cell?_alloc_some _ (Lib.cell?_alloc_some _ (Lib.cell?_alloc_some _ b3))
    have b3_4 : ∀ (o1 o2 o3 o4 : Obj), ((((w2.alloc o1).alloc o2).alloc o3).alloc o4).cell? ⟨w.heap.size + 1, 3, none⟩ = some (.bool bb) := fun o1 o2 o3 o4 => Lib.cell?_alloc_some _ (Lib.cell?_alloc_some _ (Lib.cell?_alloc_some _ (Lib.cell?_alloc_some _ b3)))
    have b3_5 : ∀ (o1 o2 o3 o4 o5 : Obj), (((((w2.alloc o1).alloc o2).alloc o3).alloc o4).alloc o5).cell? ⟨w.heap.size + 1, 3, none⟩ = some (.bool bb) := fun o1 o2 o3 o4 o5 => Lib.cell?_alloc_some _ (Lib.cell?_alloc_some _ (Lib.cell?_alloc_some _ (Lib.cell?_alloc_some _ (Lib.cell?_alloc_some _ b3))))
    go_region_law (
      (go_simp
       go_at_call 17
       (first
         | ((with_reducible refine (HVA.out _).mono ?_)
            rintro e w3 ⟨xk, xi, xs, xb, xc, rfl, ok, hin, rfl⟩
            have OKX := Lib.hid ok
            have HINX := Lib.hid hin
            clear ok hin)
         | ((with_reducible refine (HVB.out _).mono ?_)
            rintro e w3 ⟨yk, yi, ys, yb, yc, rfl, ok, hin, rfl⟩
            have OKY := Lib.hid ok
            have HINY := Lib.hid hin
            clear ok hin))))
    all_goals
      go_wp2_with fail
      go_meet
      exact ⟨_, _, rfl, rfl, Lib.hid ⟨xk, xi, xs, xb, yk, yi, ys, yb, (by first | (with_reducible refine row_at ?_ _ _; simp; done) | (with_reducible refine (row_at ?_ _ _).alloc _; simp; done) | (with_reducible refine ((row_at ?_ _ _).alloc _).alloc _; simp; done) | (with_reducible refine (((row_at ?_ _ _).alloc _).alloc _).alloc _; simp; done) | (with_reducible refine ((((row_at ?_ _ _).alloc _).alloc _).alloc _).alloc _; simp; done) | (with_reducible refine (((((row_at ?_ _ _).alloc _).alloc _).alloc _).alloc _).alloc _; simp; done) | (with_reducible refine Row.drew (row_at ?_ _ _); simp; done) | (with_reducible refine Row.drew ((row_at ?_ _ _).alloc _); simp; done) | (with_reducible refine Row.drew (((row_at ?_ _ _).alloc _).alloc _); simp; done) | (with_reducible refine Row.drew ((((row_at ?_ _ _).alloc _).alloc _).alloc _); simp; done) | (with_reducible refine Row.drew (((((row_at ?_ _ _).alloc _).alloc _).alloc _).alloc _); simp; done) | (with_reducible refine Row.drew ((((((row_at ?_ _ _).alloc _).alloc _).alloc _).alloc _).alloc _); simp; done)), (by first | (with_reducible refine row_at ?_ _ _; simp; done) | (with_reducible refine (row_at ?_ _ _).alloc _; simp; done) | (with_reducible refine ((row_at ?_ _ _).alloc _).alloc _; simp; done) | (with_reducible refine (((row_at ?_ _ _).alloc _).alloc _).alloc _; simp; done) | (with_reducible refine ((((row_at ?_ _ _).alloc _).alloc _).alloc _).alloc _; simp; done) | (with_reducible refine (((((row_at ?_ _ _).alloc _).alloc _).alloc _).alloc _).alloc _; simp; done) | (with_reducible refine Row.drew (row_at ?_ _ _); simp; done) | (with_reducible refine Row.drew ((row_at ?_ _ _).alloc _); simp; done) | (with_reducible refine Row.drew (((row_at ?_ _ _).alloc _).alloc _); simp; done) | (with_reducible refine Row.drew ((((row_at ?_ _ _).alloc _).alloc _).alloc _); simp; done) | (with_reducible refine Row.drew (((((row_at ?_ _ _).alloc _).alloc _).alloc _).alloc _); simp; done) | (with_reducible refine Row.drew ((((((row_at ?_ _ _).alloc _).alloc _).alloc _).alloc _).alloc _); simp; done)), OKX.out, OKY.out, HINX.out, HINY.out, by go_grown⟩⟩
  case rest =>
    obtain ⟨bx, by', rfl, rfl, htw⟩ := hcut
    obtain ⟨xk, xi, xs, xb, yk, yi, ys, yb, rx, ry, okx, oky, hinx, hiny, hbe⟩ := htw.out
    have x0 : wc.cell? ⟨bx, 0, none⟩ = some (.int .i64 xk) := (rx.cell 0).trans rfl
    have x1 : wc.cell? ⟨bx, 1, none⟩ = some (.int .i64 xi) := (rx.cell 1).trans rfl
    have x2 : wc.cell? ⟨bx, 2, none⟩ = some (.string xs) := (rx.cell 2).trans rfl
    have x3 : wc.cell? ⟨bx, 3, none⟩ = some (.bool xb) := (rx.cell 3).trans rfl
    have y0 : wc.cell? ⟨by', 0, none⟩ = some (.int .i64 yk) := (ry.cell 0).trans rfl
    have y1 : wc.cell? ⟨by', 1, none⟩ = some (.int .i64 yi) := (ry.cell 1).trans rfl
    have y2 : wc.cell? ⟨by', 2, none⟩ = some (.string ys) := (ry.cell 2).trans rfl
    have y3 : wc.cell? ⟨by', 3, none⟩ = some (.bool yb) := (ry.cell 3).trans rfl
    have xx0 : ∀ o : Obj, (wc.alloc o).cell? ⟨bx, 0, none⟩ = some (.int .i64 xk) := fun o => Lib.cell?_alloc_some _ x0
    have xx1 : ∀ o : Obj, (wc.alloc o).cell? ⟨bx, 1, none⟩ = some (.int .i64 xi) := fun o => Lib.cell?_alloc_some _ x1
    have xx2 : ∀ o : Obj, (wc.alloc o).cell? ⟨bx, 2, none⟩ = some (.string xs) := fun o => Lib.cell?_alloc_some _ x2
    have xx3 : ∀ o : Obj, (wc.alloc o).cell? ⟨bx, 3, none⟩ = some (.bool xb) := fun o => Lib.cell?_alloc_some _ x3
    have HBC := Lib.hid (HB2.out.trans (hbe.mono HB2.out.size))
    have HSC := Lib.hid (HS2.out.below hbe hbe.size)
    have OKX := Lib.hid okx
    have OKY := Lib.hid oky
    have HINX := Lib.hid hinx
    have HINY := Lib.hid hiny
    generalize hop : q + 3 = op
    have h3 : 3 ≤ op := by omega
    have h15 : op ≤ 15 := by omega
    clear a0 a1 a2 a3 b0 b1 b2 b3 hlt htw rx ry okx oky hinx hiny hbe hop htm hand q0 q1 HB2 HS2
    by_cases ho : op = 3 ∨ op = 13
    · have HO := Lib.hid ho
      have H3 := Lib.hid h3
      have H15 := Lib.hid h15
      have HLI : Hid (∀ n ∈ ([⟨1, xk, xi, xs, xb, ⟨#[]⟩, ⟨#[]⟩⟩, opn op] : List Nd), In64 n.i) := Lib.hid (by intro n hn; simp at hn; rcases hn with rfl | rfl <;> first | exact HINX.out | exact in_zero2)
      clear ho h3 h15
      go_wp2_with fail
      refine (refParts_is op 1 _ (partsI_1 HO.out)).mono ?_
      rintro e w3 ⟨rfl, rfl⟩
      go_wp2_with fail
      generalize hW : (wc.alloc _).alloc _ = W
      have hrow : Row W (wc.heap.size + 1) 32 #[.int .i64 1, .int .i64 xk, .int .i64 xi, .string xs, .bool xb, .string ⟨#[]⟩, .string ⟨#[]⟩, .int .i64 op, .int .i64 0, .int .i64 0, .string ⟨#[]⟩, .bool false, .string ⟨#[]⟩, .string ⟨#[]⟩] := by rw [← hW]; simpa using Row.made (wc.alloc _) 32 _
      have hbe : Below wc.heap.size wc W := by rw [← hW]; exact ((Below.refl _ wc).alloc (Nat.le_refl _) _).alloc (by simp) _
      have HN := Lib.hid (ns_row hrow (l := [⟨1, xk, xi, xs, xb, ⟨#[]⟩, ⟨#[]⟩⟩, opn op]) (n := 2) rfl rfl (by decide))
      have HB := Lib.hid (HBC.out.trans (hbe.mono HBC.out.size))
      have HS := Lib.hid (HSC.out.below hbe hbe.size)
      obtain ⟨r, hr⟩ : ∃ r, evM typesL [] [⟨1, xk, xi, xs, xb, ⟨#[]⟩, ⟨#[]⟩⟩, opn op] [] = r := ⟨_, rfl⟩
      have hsem : (Tr.un op (.con xk xi xs xb)).sem typesL [] = r := by rw [← hr]; exact (evM_whole (ts := typesL) (es := []) (Tr.Ok.un HO.out (.con OKX.out HINX.out))).symm
      have HE := Lib.hid (eval_good p typesL _ [⟨1, xk, xi, xs, xb, ⟨#[]⟩, ⟨#[]⟩⟩, opn op] (.slice none 0 0) [] W HS.out (En.zero _ _) HN.out (good2 OKX.out HO.out) HLI.out (fun b hb => by cases hb))
      have HT : Hid (∀ X, Below W.heap.size W X → Calls Try.prog 20 #[.slice (some ⟨(wc.heap.size + 1), 0, none⟩) 2 2, .slice none 0 0, .int .i64 1] X (RfPost X r 0)) := Lib.hid (fun X hX => by
        have h := ref_tree (.slice (some ⟨(wc.heap.size + 1), 0, none⟩) 2 2) (.slice none 0 0) [⟨1, xk, xi, xs, xb, ⟨#[]⟩, ⟨#[]⟩⟩, opn op] typesL [] W HN.out (fun b hb => by cases hb) (fun j va fd hj => by
          exfalso
          obtain ⟨hl, he⟩ := List.getElem?_eq_some_iff.1 hj
          match j, hl with
          | 0, _ => simp at he
          | 1, _ => have h33 := H3.out; simp [opn] at he; omega) (Tr.Ok.un HO.out (.con OKX.out HINX.out)) [] [] (by simp [Tr.flat]) X hX
        rw [hsem] at h
        exact h)
      rw [hr] at HE
      unfold RPost at HE
      clear hr hsem hrow hbe hW
      cases r with
      | none =>
        refine HE.out.mono ?_
        rintro e w4 ⟨rfl, hb4⟩
        unfold VV.agg zeroV
        dsimp only [Option.getD, Option.isSome]
        have HB4 := Lib.hid hb4
        clear hb4 HE
        go_wp2_with fail
        refine (HT.out _ (HB4.out.alloc HB4.out.size _)).mono ?_
        rintro e w5 ⟨fk, fi, fs, fb, rfl, hy, hb5⟩
        dsimp only [Option.isSome]
        have HB5 := Lib.hid ((HB4.out.alloc HB4.out.size _).trans (hb5.mono (HB4.out.alloc HB4.out.size _).size))
        have HBW := Lib.hid (HB.out.trans (HB5.out.mono HB.out.size))
        clear hb5 hy
        go_wp2_with fail
        refine (awake_any _).mono ?_
        rintro e w6 ⟨rfl, hb6⟩
        have HB6 := Lib.hid ((HBW.out.alloc HBW.out.size _).trans (hb6.mono (HBW.out.alloc HBW.out.size _).size))
        clear hb6
        go_wp2
        go_ret
        exact ⟨rfl, HB6.out⟩
      | some y =>
        obtain ⟨zk, zi, zs, zb⟩ := y
        refine HE.out.mono ?_
        rintro e w4 ⟨rfl, hb4⟩
        unfold VV.agg
        dsimp only [Option.getD, Option.isSome]
        have HB4 := Lib.hid hb4
        clear hb4 HE
        go_wp2_with fail
        refine (HT.out _ (HB4.out.alloc HB4.out.size _)).mono ?_
        rintro e w5 ⟨fk, fi, fs, fb, rfl, hy, hb5⟩
        dsimp only [Option.isSome]
        injection hy _ rfl with e1 e2 e3 e4
        subst e1 e2 e3 e4
        have r5 : Row w5 w4.heap.size 23 #[.int .i64 zk, .int .i64 zi, .string zs, .bool zb] := Row.below (Row.made w4 _ _) hb5 (by simp)
        have HB5 := Lib.hid ((HB4.out.alloc HB4.out.size _).trans (hb5.mono (HB4.out.alloc HB4.out.size _).size))
        have HBW := Lib.hid (HB.out.trans (HB5.out.mono HB.out.size))
        have R5 := Lib.hid r5
        clear hb5 hy r5
        go_wp2_with fail
        refine (awake_any _).mono ?_
        rintro e w6 ⟨rfl, hb6⟩
        have hg6 := (HBW.out.alloc HBW.out.size _).trans (hb6.mono (HBW.out.alloc HBW.out.size _).size)
        have r6 := Row.below (Row.made w5 23 #[.int .i64 zk, .int .i64 zi, .string zs, .bool zb]) hb6 (by simp)
        have s6 := Row.below (Row.alloc R5.out (.cells #[.int .i64 zk, .int .i64 zi, .string zs, .bool zb] 23)) hb6 (by have := R5.out.lt; simp; omega)
        have HB6 := Lib.hid hg6
        have p0 : w6.cell? ⟨w4.heap.size, 0, none⟩ = some (.int .i64 zk) := (s6.cell 0).trans rfl
        have p1 : w6.cell? ⟨w4.heap.size, 1, none⟩ = some (.int .i64 zi) := (s6.cell 1).trans rfl
        have p2 : w6.cell? ⟨w4.heap.size, 2, none⟩ = some (.string zs) := (s6.cell 2).trans rfl
        have p3 : w6.cell? ⟨w4.heap.size, 3, none⟩ = some (.bool zb) := (s6.cell 3).trans rfl
        have q0 : w6.cell? ⟨w5.heap.size, 0, none⟩ = some (.int .i64 zk) := (r6.cell 0).trans rfl
        have q1 : w6.cell? ⟨w5.heap.size, 1, none⟩ = some (.int .i64 zi) := (r6.cell 1).trans rfl
        have q2 : w6.cell? ⟨w5.heap.size, 2, none⟩ = some (.string zs) := (r6.cell 2).trans rfl
        have q3 : w6.cell? ⟨w5.heap.size, 3, none⟩ = some (.bool zb) := (r6.cell 3).trans rfl
        clear hb6 hg6 r6 s6
        go_wp2
        go_ret
        exact ⟨rfl, HB6.out⟩
    · have HO := Lib.hid ho
      have H3 := Lib.hid h3
      have H15 := Lib.hid h15
      have HLI : Hid (∀ n ∈ ([⟨1, xk, xi, xs, xb, ⟨#[]⟩, ⟨#[]⟩⟩, ⟨1, yk, yi, ys, yb, ⟨#[]⟩, ⟨#[]⟩⟩, opn op] : List Nd), In64 n.i) := Lib.hid (by intro n hn; simp at hn; rcases hn with rfl | rfl | rfl <;> first | exact HINX.out | exact HINY.out | exact in_zero2)
      clear ho h3 h15
      go_wp2_with fail
      refine (refParts_is op 2 _ (partsI_2 H3.out H15.out HO.out)).mono ?_
      rintro e w3 ⟨rfl, rfl⟩
      go_wp2_with fail
      generalize hW : wc.alloc _ = W
      have hrow : Row W wc.heap.size 32 #[.int .i64 1, .int .i64 xk, .int .i64 xi, .string xs, .bool xb, .string ⟨#[]⟩, .string ⟨#[]⟩, .int .i64 1, .int .i64 yk, .int .i64 yi, .string ys, .bool yb, .string ⟨#[]⟩, .string ⟨#[]⟩, .int .i64 op, .int .i64 0, .int .i64 0, .string ⟨#[]⟩, .bool false, .string ⟨#[]⟩, .string ⟨#[]⟩] := by rw [← hW]; exact Row.made wc 32 _
      have hbe : Below wc.heap.size wc W := by rw [← hW]; exact (Below.refl _ wc).alloc (Nat.le_refl _) _
      have HN := Lib.hid (ns_row hrow (l := [⟨1, xk, xi, xs, xb, ⟨#[]⟩, ⟨#[]⟩⟩, ⟨1, yk, yi, ys, yb, ⟨#[]⟩, ⟨#[]⟩⟩, opn op]) (n := 3) rfl rfl (by decide))
      have HB := Lib.hid (HBC.out.trans (hbe.mono HBC.out.size))
      have HS := Lib.hid (HSC.out.below hbe hbe.size)
      obtain ⟨r, hr⟩ : ∃ r, evM typesL [] [⟨1, xk, xi, xs, xb, ⟨#[]⟩, ⟨#[]⟩⟩, ⟨1, yk, yi, ys, yb, ⟨#[]⟩, ⟨#[]⟩⟩, opn op] [] = r := ⟨_, rfl⟩
      have hsem : (Tr.bi op (.con xk xi xs xb) (.con yk yi ys yb)).sem typesL [] = r := by rw [← hr]; exact (evM_whole (ts := typesL) (es := []) (Tr.Ok.bi H3.out H15.out HO.out (.con OKX.out HINX.out) (.con OKY.out HINY.out))).symm
      have HE := Lib.hid (eval_good p typesL _ [⟨1, xk, xi, xs, xb, ⟨#[]⟩, ⟨#[]⟩⟩, ⟨1, yk, yi, ys, yb, ⟨#[]⟩, ⟨#[]⟩⟩, opn op] (.slice none 0 0) [] W HS.out (En.zero _ _) HN.out (good3 OKX.out OKY.out H3.out H15.out HO.out) HLI.out (fun b hb => by cases hb))
      have HT : Hid (∀ X, Below W.heap.size W X → Calls Try.prog 20 #[.slice (some ⟨wc.heap.size, 0, none⟩) 3 3, .slice none 0 0, .int .i64 2] X (RfPost X r 0)) := Lib.hid (fun X hX => by
        have h := ref_tree (.slice (some ⟨wc.heap.size, 0, none⟩) 3 3) (.slice none 0 0) [⟨1, xk, xi, xs, xb, ⟨#[]⟩, ⟨#[]⟩⟩, ⟨1, yk, yi, ys, yb, ⟨#[]⟩, ⟨#[]⟩⟩, opn op] typesL [] W HN.out (fun b hb => by cases hb) (fun j va fd hj => by
          exfalso
          obtain ⟨hl, he⟩ := List.getElem?_eq_some_iff.1 hj
          match j, hl with
          | 0, _ => simp at he
          | 1, _ => simp at he
          | 2, _ => have h33 := H3.out; simp [opn] at he; omega) (Tr.Ok.bi H3.out H15.out HO.out (.con OKX.out HINX.out) (.con OKY.out HINY.out)) [] [] (by simp [Tr.flat]) X hX
        rw [hsem] at h
        exact h)
      rw [hr] at HE
      unfold RPost at HE
      clear hr hsem hrow hbe hW
      cases r with
      | none =>
        refine HE.out.mono ?_
        rintro e w4 ⟨rfl, hb4⟩
        unfold VV.agg zeroV
        dsimp only [Option.getD, Option.isSome]
        have HB4 := Lib.hid hb4
        clear hb4 HE
        go_wp2_with fail
        refine (HT.out _ (HB4.out.alloc HB4.out.size _)).mono ?_
        rintro e w5 ⟨fk, fi, fs, fb, rfl, hy, hb5⟩
        dsimp only [Option.isSome]
        have HB5 := Lib.hid ((HB4.out.alloc HB4.out.size _).trans (hb5.mono (HB4.out.alloc HB4.out.size _).size))
        have HBW := Lib.hid (HB.out.trans (HB5.out.mono HB.out.size))
        clear hb5 hy
        go_wp2_with fail
        refine (awake_any _).mono ?_
        rintro e w6 ⟨rfl, hb6⟩
        have HB6 := Lib.hid ((HBW.out.alloc HBW.out.size _).trans (hb6.mono (HBW.out.alloc HBW.out.size _).size))
        clear hb6
        go_wp2
        go_ret
        exact ⟨rfl, HB6.out⟩
      | some y =>
        obtain ⟨zk, zi, zs, zb⟩ := y
        refine HE.out.mono ?_
        rintro e w4 ⟨rfl, hb4⟩
        unfold VV.agg
        dsimp only [Option.getD, Option.isSome]
        have HB4 := Lib.hid hb4
        clear hb4 HE
        go_wp2_with fail
        refine (HT.out _ (HB4.out.alloc HB4.out.size _)).mono ?_
        rintro e w5 ⟨fk, fi, fs, fb, rfl, hy, hb5⟩
        dsimp only [Option.isSome]
        injection hy _ rfl with e1 e2 e3 e4
        subst e1 e2 e3 e4
        have r5 : Row w5 w4.heap.size 23 #[.int .i64 zk, .int .i64 zi, .string zs, .bool zb] := Row.below (Row.made w4 _ _) hb5 (by simp)
        have HB5 := Lib.hid ((HB4.out.alloc HB4.out.size _).trans (hb5.mono (HB4.out.alloc HB4.out.size _).size))
        have HBW := Lib.hid (HB.out.trans (HB5.out.mono HB.out.size))
        have R5 := Lib.hid r5
        clear hb5 hy r5
        go_wp2_with fail
        refine (awake_any _).mono ?_
        rintro e w6 ⟨rfl, hb6⟩
        have hg6 := (HBW.out.alloc HBW.out.size _).trans (hb6.mono (HBW.out.alloc HBW.out.size _).size)
        have r6 := Row.below (Row.made w5 23 #[.int .i64 zk, .int .i64 zi, .string zs, .bool zb]) hb6 (by simp)
        have s6 := Row.below (Row.alloc R5.out (.cells #[.int .i64 zk, .int .i64 zi, .string zs, .bool zb] 23)) hb6 (by have := R5.out.lt; simp; omega)
        have HB6 := Lib.hid hg6
        have p0 : w6.cell? ⟨w4.heap.size, 0, none⟩ = some (.int .i64 zk) := (s6.cell 0).trans rfl
        have p1 : w6.cell? ⟨w4.heap.size, 1, none⟩ = some (.int .i64 zi) := (s6.cell 1).trans rfl
        have p2 : w6.cell? ⟨w4.heap.size, 2, none⟩ = some (.string zs) := (s6.cell 2).trans rfl
        have p3 : w6.cell? ⟨w4.heap.size, 3, none⟩ = some (.bool zb) := (s6.cell 3).trans rfl
        have q0 : w6.cell? ⟨w5.heap.size, 0, none⟩ = some (.int .i64 zk) := (r6.cell 0).trans rfl
        have q1 : w6.cell? ⟨w5.heap.size, 1, none⟩ = some (.int .i64 zi) := (r6.cell 1).trans rfl
        have q2 : w6.cell? ⟨w5.heap.size, 2, none⟩ = some (.string zs) := (r6.cell 2).trans rfl
        have q3 : w6.cell? ⟨w5.heap.size, 3, none⟩ = some (.bool zb) := (r6.cell 3).trans rfl
        clear hb6 hg6 r6 s6
        go_wp2
        go_ret
        exact ⟨rfl, HB6.out⟩
end Go.Proofs.Ytgilfolllckceaa.Evl
