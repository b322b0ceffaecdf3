/- Where it may be behind one event more, at an element. -/
import Derived.Test.YtjciilnbcmaikaaNfE
import Derived.Test.YtjciilnbcmaikaaPaE
import Derived.Test.YtjciilnbcmaikaaApp
import Derived.Deep.RegionLaw
namespace Go.Proofs.Ytjciilnbcmaikaa.Nf
open Go.RowKit Go.Proofs.Ytjciilnbcmaikaa Go.Proofs.Ytjciilnbcmaikaa.Pa Go.Proofs.Ytjciilnbcmaikaa.Pc
set_option linter.unusedVariables false
set_option maxRecDepth 100000

def hasW (L : List (Int × Int)) (s : Int × Int) : List (Int × Int) := if s ∈ L then [s] else []
theorem hasW_len (L : List (Int × Int)) (s : Int × Int) : (hasW L s).length ≤ 1 := by unfold hasW; split <;> simp
theorem Nums.app {L W1 W2 : List (Int × Int)} {R1 R2 : List Int} (h1 : Nums L R1 W1) (h2 : Nums L R2 W2) : Nums L (R1 ++ R2) (W1 ++ W2) := by
  refine ⟨by simp [h1.1, h2.1], fun j hj => ?_⟩
  by_cases h : j < R1.length
  · obtain ⟨q, e1, e2⟩ := h1.2 j h
    exact ⟨q, by rw [List.getElem?_append_left h, e1], by rw [List.getElem?_append_left (by rw [← h1.1]; exact h), e2]⟩
  · obtain ⟨q, e1, e2⟩ := h2.2 (j - R1.length) (by simp at hj; omega)
    exact ⟨q, by rw [List.getElem?_append_right (by omega), e1], by rw [List.getElem?_append_right (by rw [← h1.1]; omega), ← h1.1, e2]⟩
theorem range_getD (R : List Int) : (List.range R.length).map (fun k => Value.int .i64 (R.getD k 0)) = R.map (Value.int .i64) := by
  apply List.ext_getElem
  · simp
  · intro i h1 h2
    simp at h1
    simp [List.getElem?_eq_getElem h1]
theorem BI.join {w0 w w2 : World} {v2 : Value} {R1 R2 : List Int} {ob ob2 : Option Nat} (hob : ∀ g, ob = some g → w0.heap.size ≤ g) (hb : Below w0.heap.size w0 w)
    (hs : Seg w2 3 1 v2 (R1.length + R2.length) (R1.map (Value.int .i64) ++ (List.range R2.length).map (fun k => Value.int .i64 (R2.getD k 0))) ob2) (ht : Turns w w2 (fun k => ob = some k)) (ho : ob2 = ob ∨ ∃ g, ob2 = some g ∧ w.heap.size ≤ g) : BI w0 w2 v2 (R1 ++ R2) := by
  have hz := hb.size
  rw [range_getD] at hs
  refine ⟨⟨ob2, by simpa using hs, fun g hg => ?_⟩, ht.below hb hz (fun k hk e => ?_)⟩
  · rcases ho with h | ⟨g', h, h'⟩
    · exact hob g (by rw [← h, hg])
    · rw [h] at hg; injection hg with hg; omega
  · have := hob k e; omega
section
variable (nb g o n c sg so sc : Nat) (win cap : Int) (E : Nat → ElV) (L : List (Int × Int)) (w : World) (h : NR w nb g o n c win cap E sg so sc L)
include h
theorem there_bi (a b : Int) (W : List (Int × Int)) (hW : hasW L (a, b) = W) : Calls Try.prog 105 #[.pointer (some ⟨nb, 0, none⟩), .agg #[.int .i64 a, .int .i64 b]] w (MvR L W w) := by
  refine (there_any nb g o n c sg so sc win cap E L w h (a, b)).mono ?_
  rintro e w' ⟨⟨v, rfl, ⟨rfl, hn⟩ | ⟨q, k, rfl, hk, hr, hq⟩⟩, hb⟩
  · refine ⟨_, [], rfl, BI.nil hb, ?_⟩
    rw [← hW, hasW, if_neg (fun hm => by obtain ⟨k, hk⟩ := at_of_mem hm; exact hn k hk)]
    exact Nums.nil L
  · refine ⟨_, [(k : Int)], rfl, BI.one hb hr hq, ?_⟩
    rw [← hW, hasW, if_pos (List.mem_of_getElem? hk)]
    exact Nums.one hk
end
set_option maxHeartbeats 8000000 in
theorem moves_more (nb g o n c sg so sc : Nat) (win cap : Int) (E : Nat → ElV) (L : List (Int × Int)) (w : World) (h : NR w nb g o n c win cap E sg so sc L) (hn : n ≤ 100) (k e x : Nat) (hk : L[k]? = some ((e : Int), (x : Int))) (he : e < n) (hx : 1 ≤ x ∧ x ≤ 4) (r : Bool) (hr : decide ((E e).mn ≤ (x : Int)) = r) :
    Calls Try.prog 53 #[.pointer (some ⟨nb, 0, none⟩), .int .i64 k] w (MvR L (hasW L ((e : Int), (x : Int) + 1) ++ (if r then hasW L (nxt (negs E) e n, 1) else [])) w) := by
  obtain ⟨W1, hW1⟩ : ∃ W1, hasW L ((e : Int), (x : Int) + 1) = W1 := ⟨_, rfl⟩
  obtain ⟨W2, hW2⟩ : ∃ W2, hasW L (nxt (negs E) e n, 1) = W2 := ⟨_, rfl⟩
  have l1 := hasW_len L ((e : Int), (x : Int) + 1)
  have l2 := hasW_len L (nxt (negs E) e n, 1)
  rw [hW1] at l1
  rw [hW2] at l2
  rw [hW1, hW2]
  obtain ⟨W3, hW3⟩ : ∃ W3, (if r then W2 else []) = W3 := ⟨_, rfl⟩
  rw [hW3]
  have HW3 := Lib.hid hW3
  have HW1 := Lib.hid hW1
  have HW2 := Lib.hid hW2
  have H := Lib.hid h
  have HK := Lib.hid hk
  have HR := Lib.hid hr
  clear h hk hW1 hW2 hW3 hr
  obtain ⟨i0, hi0, hz0, hz1, hz2⟩ := info_parts int_info
  go_enter Try.func53, Try.ntmps53
  go_wp2_with fail
  refine (at_yes nb g o n c sg so sc win cap E _ _ H.out k ((e : Int), (x : Int)) HK.out).mono ?_
  rintro e1 w1 ⟨rfl, hb⟩
  have H1 := Lib.hid (H.out.call (hb.alloc hb.size (.cells #[.int .i64 e, .int .i64 x] 90)))
  have HB1 := Lib.hid (hb.alloc hb.size (.cells #[.int .i64 e, .int .i64 x] 90))
  have HR1 := Lib.hid (Row.made w1 90 #[.int .i64 e, .int .i64 x])
  clear hb
  have hx0 : ¬ ((x : Int) = 0) := by omega
  go_wp2_with fail
  refine (there_bi nb g o n c sg so sc win cap E _ _ H1.out e ((x : Int) + 1) W1 HW1.out).mono ?_
  rintro e2 w2 ⟨v1, R1, rfl, hv1, hn1⟩
  have hb := hv1.be
  have H2 := Lib.hid (H1.out.call hb)
  have HB2 := Lib.hid (HB1.out.trans (hb.mono HB1.out.size))
  have HR2 := Lib.hid (HR1.out.below hb (by simp))
  have HV1 := Lib.hid hv1
  have HN1 := Lib.hid hn1
  obtain ⟨A1, c1, rfl, _⟩ := BI.lies hv1
  have d0 : w2.cell? ⟨w1.heap.size, 0, none⟩ = some (.int .i64 e) := HR2.out.cell 0
  have d1 : w2.cell? ⟨w1.heap.size, 1, none⟩ = some (.int .i64 x) := HR2.out.cell 1
  have dl := HR2.out.lt
  have lr1 : R1.length ≤ 1 := by rw [hn1.1]; exact l1
  clear hb hv1 hn1
  go_wp2_with fail
  refine (enough_any nb g o n c sg so sc win cap E _ _ H2.out e he x r HR.out).mono ?_
  rintro e3 w3 ⟨rfl, hb⟩
  have H3 := Lib.hid (H2.out.call hb)
  have HB3 := Lib.hid (HB2.out.trans (hb.mono HB2.out.size))
  have HV3 := Lib.hid (HV1.out.call hb)
  have f0 : w3.cell? ⟨w1.heap.size, 0, none⟩ = some (.int .i64 e) := (HR2.out.below hb dl).cell 0
  have f1 : w3.cell? ⟨w1.heap.size, 1, none⟩ = some (.int .i64 x) := (HR2.out.below hb dl).cell 1
  have fl := (HR2.out.below hb dl).lt
  clear hb d0 d1 dl
  have HZ : Hid (Below w.heap.size w w3 → BI w w3 (.slice A1 R1.length c1) R1) := fun hb => by
    obtain ⟨ob, hs, ho⟩ := HV3.out.sg
    exact ⟨⟨ob, hs, fun g hg => Nat.le_trans HB1.out.size (ho g hg)⟩, hb⟩
  cases r with
  | false =>
    go_wp2
    go_ret
    exact ⟨_, R1, rfl, HZ.out HB3.out, by rw [← HW3.out]; simpa using HN1.out⟩
  | true =>
    obtain ⟨ob1, hs1, ho1⟩ := (HZ.out HB3.out).sg
    have HS3 := Lib.hid hs1
    have HO3 := Lib.hid ho1
    clear hs1 ho1
    have e0 : w3.cell? ⟨nb, 0, none⟩ = some (.slice (some ⟨g, o, none⟩) n c) := H3.out.row.cell 0
    have e1 : w3.cell? ⟨nb, 1, none⟩ = some (.int .i64 win) := H3.out.row.cell 1
    have e2 : w3.cell? ⟨nb, 2, none⟩ = some (.int .i64 cap) := H3.out.row.cell 2
    have el := H3.out.row.lt
    have hbd : -9223372036854775808 ≤ (e : Int) ∧ (e : Int) ≤ 9223372036854775807 := by omega
    go_upto_region 8 with fail
    go_region_law (first
      | (go_simp; go_at_call 29; refine (next_any g o n c win cap e E _ (by exact H3.out.le.drewN 1) (by omega) hbd).mono ?_; rintro e4 w4 ⟨rfl, hb4⟩; have HB4 := Lib.hid hb4; clear hb4)
      | (go_simp; go_at_call 105; refine (there_bi nb g o n c sg so sc win cap E _ _ (by exact (H3.out.drewN 1).call HB4.out) _ 1 W2 HW2.out).mono ?_; rintro e5 w5 ⟨v2, R2, rfl, hv2, hn2⟩; have HV2 := Lib.hid hv2; have HN2 := Lib.hid hn2; have lr2 : R2.length ≤ 1 := (by rw [hn2.1]; exact l2); clear hn2; have HX5 : Hid (Below w3.heap.size w3 w5) := ((below_drewN (Below.refl _ w3) 1).trans (by exact HB4.out)).trans (HV2.out.be.mono (by exact HB4.out.size)); have HS5 : Hid (Seg w5 3 1 (.slice A1 R1.length c1) R1.length (R1.map (Value.int .i64)) ob1) := HS3.out.turns (Turns.of_below HX5.out) (fun _ _ x => x); obtain ⟨A2, c2, rfl, hl2⟩ := BI.lies hv2; have HL2 := Lib.hid hl2; clear hl2 hv2)
      | (refine step_append_lies _ rfl (.tmp 38) (.tmp 48) 34 rfl 3 i0 (.int .i64 0) 8 Try.underlying34 hi0 hz0 hz1 hz2 rfl _ _ _ _ rfl HS5.out w5.heap.size A2 R2.length c2 _ rfl HL2.out (fun _ => rfl) (by unfold maxLen; omega) (by omega) ?_; intro v6 w6 ob6 hs6 ht6 ho6; have HF : Hid (BI w w6 v6 (R1 ++ R2)) := BI.join HO3.out (HB3.out.trans (HX5.out.mono HB3.out.size)) hs6 ht6 ho6; clear hs6 ht6 ho6))
    all_goals
      go_wp2
      go_ret
      exact ⟨_, _, rfl, HF.out, by rw [← HW3.out]; exact Nums.app HN1.out HN2.out⟩
end Go.Proofs.Ytjciilnbcmaikaa.Nf
