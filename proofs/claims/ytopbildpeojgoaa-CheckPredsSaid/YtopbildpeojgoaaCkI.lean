/- law18.awake. -/
import Derived.Test.YtopbildpeojgoaaCkH
import Derived.Test.YtopbildpeojgoaaSchI
import Derived.Test.YtopbildpeojgoaaLaw
namespace Go.Proofs.Ytopbildpeojgoaa.Ck
open Go.RowKit Go.Proofs.Ytopbildpeojgoaa Go.Proofs.Ytopbildpeojgoaa.Sch Go.Proofs.Ytopbildpeojgoaa.Ty
set_option linter.unusedVariables false
set_option maxRecDepth 100000
theorem typesL_len : ∀ t ∈ typesL, t.2.length ≤ 1000000 := by
  intro t ht
  simp [typesL] at ht
  rcases ht with rfl | rfl | rfl <;> simp
def es1 : List Qe := [⟨vA, [tA], false, 1, 1, []⟩]
theorem q_one (win cap : Int) (hc : cap = 1) : queryM typesL es1 win cap = if win < 1 ∨ 4294967296 < win then 13 else 0 := by
  subst hc
  have hv : es1.map Qe.v = [vA] := rfl
  have h0 : elemM typesL es1 0 ⟨vA, [tA], false, 1, 1, []⟩ = 0 := by
    have := elem_ok (T := typesL) (es := es1) (at' := 0) (e := ⟨vA, [tA], false, 1, 1, []⟩) rfl (show 0 < 1 by decide) (show 1 ≤ 16 by decide) (show ¬ idx [vA] vA < ((0 : Nat) : Int) by rw [idx_data]; decide) tyA rfl
    rw [this]; exact pred_nil _ _
  have hE : elemsM typesL es1 1 0 = 0 := by rw [elemsM_ok (n := 0) (k := 0) rfl h0]; rfl
  unfold queryM
  rw [show es1.length = 1 from rfl, hE, if_neg (by decide), if_neg (by simp [negAt, es1]), if_neg (by decide)]
  split
  · rfl
  · rw [if_neg (by decide)]
theorem sl_row1 {w : World} {g : Nat} {s : ByteArray} (h : Row w g 9 #[.string s]) : SL w w.heap.size (.slice (some ⟨g, 0, none⟩) 1 1) [s] :=
  ⟨_, 1, rfl, Nat.le_refl _, by omega, fun k hk => ⟨g, 0, rfl, h.lt, by
    obtain rfl : k = 0 := by simp at hk; omega
    exact (h.cell 0).trans rfl⟩⟩
theorem ns_zero (w : World) (B : Nat) : Ns w B (.slice none 0 0) [] := ⟨none, 0, rfl, by simp, by omega, fun k hk => by simp at hk⟩
theorem qs_one {w : World} {g : Nat} {v : ByteArray} {ts : List ByteArray} {neg : Bool} {mn mx : Int} {pr : List Nd} {tv pv : Value} (h : Row w g 73 #[.string v, tv, .bool neg, .int .i64 mn, .int .i64 mx, pv]) (ht : SL w w.heap.size tv ts) (hp : Ns w w.heap.size pv pr) : Qs w w.heap.size (.slice (some ⟨g, 0, none⟩) 1 1) [⟨v, ts, neg, mn, mx, pr⟩] := by
  refine ⟨_, 1, rfl, Nat.le_refl _, by omega, fun k hk => ?_⟩
  obtain rfl : k = 0 := by simp at hk; omega
  exact ⟨g, 0, tv, pv, rfl, h.lt, (h.cell 0).trans rfl, (h.cell 1).trans rfl, (h.cell 2).trans rfl, (h.cell 3).trans rfl, (h.cell 4).trans rfl, (h.cell 5).trans rfl, ht, hp⟩
theorem qs_three {w : World} {g : Nat} {v1 v2 v3 : ByteArray} {t1 t2 t3 : List ByteArray} {n1 n2 n3 : Bool} {a1 b1 a2 b2 a3 b3 : Int} {p1 p2 p3 : List Nd} {tv1 tv2 tv3 pv1 pv2 pv3 : Value}
    (h : Row w g 73 #[.string v1, tv1, .bool n1, .int .i64 a1, .int .i64 b1, pv1, .string v2, tv2, .bool n2, .int .i64 a2, .int .i64 b2, pv2, .string v3, tv3, .bool n3, .int .i64 a3, .int .i64 b3, pv3])
    (ht1 : SL w w.heap.size tv1 t1) (ht2 : SL w w.heap.size tv2 t2) (ht3 : SL w w.heap.size tv3 t3) (hp1 : Ns w w.heap.size pv1 p1) (hp2 : Ns w w.heap.size pv2 p2) (hp3 : Ns w w.heap.size pv3 p3) :
    Qs w w.heap.size (.slice (some ⟨g, 0, none⟩) 3 3) [⟨v1, t1, n1, a1, b1, p1⟩, ⟨v2, t2, n2, a2, b2, p2⟩, ⟨v3, t3, n3, a3, b3, p3⟩] := by
  refine ⟨_, 3, rfl, Nat.le_refl _, by omega, fun k hk => ?_⟩
  match k, hk with
  | 0, _ => exact ⟨g, 0, tv1, pv1, rfl, h.lt, (h.cell 0).trans rfl, (h.cell 1).trans rfl, (h.cell 2).trans rfl, (h.cell 3).trans rfl, (h.cell 4).trans rfl, (h.cell 5).trans rfl, ht1, hp1⟩
  | 1, _ => exact ⟨g, 0, tv2, pv2, rfl, h.lt, (h.cell 6).trans rfl, (h.cell 7).trans rfl, (h.cell 8).trans rfl, (h.cell 9).trans rfl, (h.cell 10).trans rfl, (h.cell 11).trans rfl, ht2, hp2⟩
  | 2, _ => exact ⟨g, 0, tv3, pv3, rfl, h.lt, (h.cell 12).trans rfl, (h.cell 13).trans rfl, (h.cell 14).trans rfl, (h.cell 15).trans rfl, (h.cell 16).trans rfl, (h.cell 17).trans rfl, ht3, hp3⟩
  | k + 3, h => exact absurd (show k + 3 < 3 from h) (by omega)
set_option maxHeartbeats 4000000 in
theorem awake_any (w : World) : Calls Try.prog 45 #[] w fun e w' => e = .returned (.bool true) ∧ Below w.heap.size w w' := by
  go_enter Try.func45, Try.ntmps45
  go_wp2_with fail
  refine (types_any _).mono ?_
  rintro e w1 ⟨v1, rfl, ht1, hb1⟩
  have HT1 := Lib.hid ht1
  clear ht1
  go_wp2_with fail
  refine (new_any _ typesL _ _ HT1.out (Nat.le_refl _)).mono ?_
  rintro e w2 ⟨p, c, rfl, hr, hsc, _, hb2⟩
  obtain rfl := typesL_ok hr
  have HS2 := Lib.hid (hsc rfl)
  have HB2 := Lib.hid (hb1.trans (hb2.mono hb1.size))
  clear hb1 hb2 hr hsc
  go_wp2_with fail
  generalize hW : ((((w2.alloc (.cells #[.string ⟨#[65]⟩] 9)).alloc _).alloc _).alloc _) = W
  have hX : Below w2.heap.size w2 W := by rw [← hW]; exact ((((Below.refl _ _).alloc (Nat.le_refl _) _).alloc (by simp) _).alloc (by simp; omega) _).alloc (by simp; omega) _
  have r0 : Row W w2.heap.size 9 #[.string ⟨#[65]⟩] := by rw [← hW]; exact (((Row.made w2 _ _).alloc _).alloc _).alloc _
  have r1 : Row W (w2.heap.size + 1) 73 #[.string ⟨#[97]⟩, .slice (some ⟨w2.heap.size, 0, none⟩) 1 1, .bool false, .int .i64 1, .int .i64 1, .slice none 0 0] := by rw [← hW]; exact ((row_at (by simp) _ _).alloc _).alloc _
  have r3 : Row W (w2.heap.size + 1 + 1 + 1) 67 #[.slice (some ⟨w2.heap.size + 1, 0, none⟩) 1 1, .int .i64 0, .int .i64 1] := by rw [← hW]; exact row_at (by simp) _ _
  have hq : Qs W W.heap.size (.slice (some ⟨w2.heap.size + 1, 0, none⟩) 1 1) es1 := qs_one r1 (sl_row1 r0) (ns_zero _ _)
  have HQ := Lib.hid hq
  have HS := Lib.hid (HS2.out.below hX hX.size)
  have HB := Lib.hid (HB2.out.trans (hX.mono HB2.out.size))
  have R3 := Lib.hid r3
  clear r0 r1 r3 hX hq hW
  have h1 := query_any p typesL _ 5 1 es1 W HS.out typesL_len HQ.out
  rw [q_one 5 1 rfl, if_neg (by decide)] at h1
  refine h1.mono ?_
  rintro e w3 ⟨rfl, hb3⟩
  have HB3 := Lib.hid (HB.out.trans (hb3.mono HB.out.size))
  have R33 := Lib.hid (Row.below R3.out hb3 R3.out.lt)
  have h2 := query_any p typesL _ 0 1 es1 w3 (HS.out.below hb3 hb3.size) typesL_len (HQ.out.below hb3 hb3.size)
  rw [q_one 0 1 rfl, if_pos (by decide)] at h2
  have H2 := Lib.hid h2
  have d0 : w3.cell? ⟨w2.heap.size + 1 + 1 + 1, 0, none⟩ = some (.slice (some ⟨w2.heap.size + 1, 0, none⟩) 1 1) := (R33.out.cell 0).trans rfl
  have d1 : w3.cell? ⟨w2.heap.size + 1 + 1 + 1, 1, none⟩ = some (.int .i64 0) := (R33.out.cell 1).trans rfl
  have d2 : w3.cell? ⟨w2.heap.size + 1 + 1 + 1, 2, none⟩ = some (.int .i64 1) := (R33.out.cell 2).trans rfl
  clear h1 h2 hb3
  go_wp2_with fail
  refine H2.out.mono ?_
  rintro e w4 ⟨rfl, hb4⟩
  have HB4 := Lib.hid (HB3.out.trans (hb4.mono HB3.out.size))
  clear hb4 d0 d1 d2
  go_wp2
  go_ret
  exact ⟨rfl, HB4.out⟩
end Go.Proofs.Ytopbildpeojgoaa.Ck
