/- The walk of the law NfaMoves. -/
import Derived.Test.YtjciilnbcmaikaaNfK
import Derived.Test.YtjciilnbcmaikaaBits
import Derived.Deep.CutBlock
namespace Go.Proofs.Ytjciilnbcmaikaa.Nf
open Go.RowKit Go.Proofs.Ytjciilnbcmaikaa Go.Proofs.Ytjciilnbcmaikaa.Pa Go.Proofs.Ytjciilnbcmaikaa.Pc Go.Proofs.Ytjciilnbcmaikaa.Pq
set_option linter.unusedVariables false
set_option maxRecDepth 100000

theorem seg_zero2 (w : World) (e : TypeId) (A : Option Addr) : Seg w e 2 (.slice A 0 0) 0 [] none := ⟨by simp, _, 0, rfl, Nat.le_refl _, by unfold maxLen; omega, .inl ⟨rfl, rfl, fun _ => trivial⟩⟩
theorem field0 (w : World) : (Instr.field 43 (.agg #[.slice none 0 0, .int .i64 0, .int .i64 0]) 0).run Try.prog w = .ok (.slice none 0 0) w := by kernel_rfl
set_option maxHeartbeats 8000000 in
theorem moves_law (A : Option Addr) (m c0 : Nat) (F : Nat → Int) (ln : m ≤ c0) (lc : c0 ≤ 9223372036854775807) (lb : ∀ k, -9223372036854775808 ≤ F k ∧ F k ≤ 9223372036854775807) (w : World) (lies : Lies w w.heap.size A m (fun k => .int .i64 (F k)))
    (k : Int) (hk : -9223372036854775808 ≤ k ∧ k ≤ 9223372036854775807) :
    Calls Try.prog 10 #[.slice A m c0, .int .i64 k] w fun e w' => e = .returned (.bool true) ∧ Below w.heap.size w w' := by
  have HL := Lib.hid lies
  have HB := Lib.hid lb
  clear lies lb
  go_enter Try.func10, Try.ntmps10
  go_wp2_with fail
  refine (query_any A m c0 F ln lc HB.out w HL.out).mono ?_
  rintro e w1 ⟨v, win, cap, es, rfl, hq, hg, h1, h4, _, _, _⟩
  obtain ⟨g, o, c, rfl, hle, g0, g1, hnc⟩ := Pa.QI.le hq (by omega)
  have hgl := hle.lt
  have HN := Lib.hid (new_q w w1 (w1.alloc (.cells #[.slice (some ⟨g, o, none⟩) es.length c, .int .i64 win, .int .i64 cap] 43)) _ g o c win cap es hq hg h1 h4 ((Below.refl _ w1).alloc (Nat.le_refl _) _) (hle.alloc _))
  have HP : Hid (PI w (w1.alloc (.cells #[.slice (some ⟨g, o, none⟩) es.length c, .int .i64 win, .int .i64 cap] 43)) w1.heap.size g o es.length c win cap (elAt es)) := ⟨hle.alloc _, Row.made _ _ _, hq.be.alloc hq.be.size _, g0, hq.be.size, by omega⟩
  clear hq hg hle hgl
  generalize elAt es = E at HN HP
  generalize es.length = n at HN HP h1 h4 hnc ⊢
  go_upto_region 2 with fail
  generalize w1.alloc (.cells #[.slice (some ⟨g, o, none⟩) n c, .int .i64 win, .int .i64 cap] 43) = wa at HN HP ⊢
  generalize w1.heap.size = qv at HP ⊢
  have c00 := HP.out.c0
  have c01 := HP.out.c1
  have c02 := HP.out.c2
  go_wp2_with fail
  refine Calls.mono HN.out ?_
  rintro e w2 ⟨nb, gg, oo, cc, E', sg, so, sc, rfl, hr, hkp, hal, hnb, hb⟩
  have HI : Hid (LawI w w2 qv g o n c win cap E E' nb gg oo cc sg so sc) := ⟨HP.out.call hb, hr⟩
  have HK := Lib.hid hkp
  have HAL := Lib.hid hal
  obtain ⟨N, hN⟩ : ∃ N, (sts E' n).length = N := ⟨_, rfl⟩
  have hNb : 1 ≤ N ∧ N ≤ 500 := by rw [← hN]; exact hr.ln
  obtain ⟨i, hx⟩ : ∃ i : Nat, k % 256 % ((N : Int) + 1) = (i : Int) := ⟨(k % 256 % ((N : Int) + 1)).toNat, by rw [Int.toNat_of_nonneg (Int.emod_nonneg _ (by omega))]⟩
  have hiN : i ≤ N := by have := Int.emod_lt_of_pos (k % 256) (show (0 : Int) < (N : Int) + 1 by omega); omega
  have HX := Lib.hid hx
  have HNN := Lib.hid hN
  have h255 := and255 k
  clear HP HN c00 c01 c02 hr hkp hal hnb hb hx hN
  go_upto_region 3 with fail
  go_cut [7] (fun s7 wx => s7 = .int .i64 i ∧ w2 = wx)
  case first =>
    go_wp2_with fail
    refine (len_is nb gg oo n cc sg so sc win cap E' _ _ HI.out.nr N HNN.out).mono ?_
    rintro e w' ⟨rfl, rfl⟩
    go_wp2
    go_meet
    exact ⟨i64_of (by rw [← HX.out]), rfl⟩
  case rest =>
    obtain ⟨rfl, rfl⟩ := hcut
    clear h255
    go_wp2_with fail
    refine (at_any nb gg oo n cc sg so sc win cap E' _ _ HI.out.nr i).mono ?_
    rintro e w3 ⟨a, b, ok, rfl, ha, hb⟩
    obtain ⟨Wx, hmv, hwl, hw0, hw1⟩ := mv_spec nb gg oo n cc sg so sc win cap E' (by omega) (by omega) HK.out i a b ok ha
    have HMV := Lib.hid hmv
    have HW0 := Lib.hid hw0
    have HW1 := Lib.hid hw1
    have HI3 := Lib.hid (HI.out.call (hb.alloc hb.size (.cells #[.int .i64 a, .int .i64 b] 90)))
    have HS3 := Lib.hid (Row.made w3 90 #[.int .i64 a, .int .i64 b])
    clear ha hmv hw0 hw1 hb HI
    go_upto_if 34 with fail
    have HS4 : Hid (Row ((w3.alloc (.cells #[.int .i64 a, .int .i64 b] 90)).alloc (.cells #[] 90)) w3.heap.size 90 #[.int .i64 a, .int .i64 b]) := HS3.out.alloc _
    have HI4 : Hid (LawI w ((w3.alloc (.cells #[.int .i64 a, .int .i64 b] 90)).alloc (.cells #[] 90)) qv g o n c win cap E E' nb gg oo cc sg so sc) := HI3.out.call ((Below.refl _ _).alloc (Nat.le_refl _) _)
    have HW4 : Hid (WI ((w3.alloc (.cells #[.int .i64 a, .int .i64 b] 90)).alloc (.cells #[] 90)) ((w3.alloc (.cells #[.int .i64 a, .int .i64 b] 90)).alloc (.cells #[] 90)) (.slice (some ⟨w3.heap.size + 1, 0, none⟩) 0 0) []) := ⟨⟨none, seg_zero2 _ _ _, fun g hg => by cases hg⟩, Below.refl _ _⟩
    generalize (w3.alloc (.cells #[.int .i64 a, .int .i64 b] 90)).alloc (.cells #[] 90) = w4 at HS4 HI4 HW4 ⊢
    generalize Value.slice (some ⟨w3.heap.size + 1, 0, none⟩) 0 0 = v00 at HW4 ⊢
    generalize w3.heap.size = sb at HS4 ⊢
    clear HI3 HS3
    go_cut [10] (fun v10 wx => Hid (WI w4 wx v10 Wx))
    case first =>
      obtain ⟨i0, hi0, hz0, hz1, hz2⟩ := info_parts state_info
      cases ok with
      | false =>
        have hz := HW0.out rfl
        subst hz
        go_wp2
        go_meet
        exact HW4
      | true =>
        obtain ⟨e, x, rfl, hbx, he, hne, hxm, hWx⟩ := HW1.out rfl
        have hbb : 0 ≤ b ∧ b ≤ 3 := by have := HK.out.2 e he; omega
        obtain ⟨mx, hmx⟩ : ∃ mx, (E' e).mx = mx := ⟨_, rfl⟩
        obtain ⟨mn, hmn⟩ : ∃ mn, (E' e).mn = mn := ⟨_, rfl⟩
        have HWX : Hid (Wx = (if b < mx then [((e : Int), b + 1)] else []) ++ (if mn ≤ b ∧ 0 ≤ nxt (negs E') e n then [(nxt (negs E') e n, 1)] else [])) := by show _ = _; rw [hWx, mvW, hmx, hmn]
        have HE : Hid (∀ wx, Below w4.heap.size w4 wx → (wx.cell? ⟨sb, 0, none⟩ = some (.int .i64 e) ∧ wx.cell? ⟨sb, 1, none⟩ = some (.int .i64 b) ∧ sb < wx.heap.size) ∧ (wx.cell? ⟨qv, 0, none⟩ = some (.slice (some ⟨g, o, none⟩) n c) ∧ qv < wx.heap.size) ∧ wx.cell? ⟨g, o + e * 6 + 4, none⟩ = some (.int .i64 mx) ∧ wx.cell? ⟨g, o + e * 6 + 3, none⟩ = some (.int .i64 mn) ∧ g < wx.heap.size ∧ LE wx g o n E) := fun wx hb => by
          have hs := HS4.out.below hb HS4.out.lt
          have hi := (HI4.out.call hb).pi
          have ha := HAL.out e he
          have c4 := hi.le.cell he (j := 4) (by omega)
          have c3 := hi.le.cell he (j := 3) (by omega)
          refine ⟨⟨hs.cell 0, hs.cell 1, hs.lt⟩, ⟨hi.c0, hi.row.lt⟩, ?_, ?_, hi.le.lt, hi.le⟩
          · rw [c4, ← hmx, ha.2.2.2.1]; rfl
          · rw [c3, ← hmn, ha.2.2.1]; rfl
        have HAN : Hid (∀ j, j < n → negs E j = negs E' j) := fun j hj => (HAL.out j hj).2.1.symm
        have hei : (e : Int) < (n : Int) := by omega
        have he0 : (0 : Int) ≤ (e : Int) := by omega
        have he00 : ¬ (e : Int) < 0 := by omega
        have hbi : b + 1 ≤ 9223372036854775807 := by omega
        clear HW0 HW1 HMV hbx hxm hWx hmx hmn hne
        obtain ⟨⟨q0, q1, ql⟩, ⟨q2, ql2⟩, q3, q4, ql3, _⟩ := HE.out _ (Below.refl _ w4)
        go_upto_region 7 with fail
        go_cut [49] (fun v wx => v = .bool (decide (b < mx)) ∧ Hid (Below w4.heap.size w4 wx))
        case first =>
          go_quiet (fail)
          go_wp2
          go_meet
          exact ⟨rfl, below_drewN (Below.refl _ _) _⟩
        case rest =>
          obtain ⟨rfl, HB5⟩ := hcut
          clear q0 q1 q2 q3 q4 ql ql2 ql3
          obtain ⟨⟨q0, q1, ql⟩, ⟨q2, ql2⟩, q3, q4, ql3, _⟩ := HE.out _ HB5.out
          have HW5 := Lib.hid (HW4.out.call HB5.out)
          obtain ⟨wa5, hwa5⟩ : ∃ wa5, wa5 = wc := ⟨_, rfl⟩
          subst hwa5
          go_upto_if 49 with fail
          go_cut [10] (fun v wx => Hid (WI w4 wx v (if b < mx then [((e : Int), b + 1)] else [])))
          case first =>
            by_cases hlt : b < mx
            · have hd : decide (b < mx) = true := by simpa using hlt
              obtain ⟨L0, hl0, h00⟩ : ∃ L0 : List (Int × Int), L0.length ≤ 1 ∧ L0 = [] := ⟨[], by simp, rfl⟩
              rw [← h00] at HW5
              have H00 := Lib.hid h00
              clear h00
              obtain ⟨ob, hs, hob⟩ := HW5.out.sg
              have HS := Lib.hid hs
              have HOB := Lib.hid hob
              have HBE := Lib.hid HW5.out.be
              clear hs hob
              go_wp2_with (at_builtin; go_loud (refine wpList_append_seg _ rfl _ _ 93 rfl 90 i0 _ 2 16 Try.underlying93 hi0 hz0 hz1 hz2 rfl (by decide) _ _ _ _ rfl (HS.out.alloc _) ⟨wa5.heap.size, 0, none⟩ 1 1 [.int .i64 e, .int .i64 (b + 1)] rfl rfl (two_news _ _ _ _ rfl) (by simp [Value.oneCell']) (by decide) (by unfold maxLen; omega) (by omega) ?_; intro v2 w2' ob2 hs2 ht2 ho2; have HF : Hid (WI w4 w2' v2 (L0 ++ [((e : Int), b + 1)])) := WI.more (s := ((e : Int), b + 1)) HOB.out (HBE.out.alloc HBE.out.size _) hs2 ht2 ho2; clear hs2 ht2 ho2))
              go_meet
              exact (by rw [if_pos hlt]; have hf := HF.out; rw [H00.out] at hf; exact hf)
            · have hd : decide (b < mx) = false := by simpa using hlt
              go_wp2
              go_meet
              exact (by rw [if_neg (by omega)]; exact HW5)
          case rest =>
            have HW6 := Lib.hid hcut.out
            have HB6 := Lib.hid hcut.out.be
            clear hcut q0 q1 q2 q3 q4 ql ql2 ql3 HW5 HB5
            obtain ⟨⟨q0, q1, ql⟩, ⟨q2, ql2⟩, q3, q4, ql3, _⟩ := HE.out _ HB6.out
            obtain ⟨LL, hLL⟩ : ∃ LL, (if b < mx then [((e : Int), b + 1)] else []) = LL := ⟨_, rfl⟩
            have hll : LL.length ≤ 1 := by rw [← hLL]; split <;> simp
            rw [hLL] at HWX HW6
            clear hLL
            obtain ⟨wa6, hwa6⟩ : ∃ wa6, wa6 = wc := ⟨_, rfl⟩
            subst hwa6
            go_upto_region 9 with fail
            go_cut [73] (fun v wx => v = .bool (decide (mn ≤ b)) ∧ Hid (Below wa6.heap.size wa6 wx))
            case first =>
              go_quiet (fail)
              go_wp2
              go_meet
              exact ⟨rfl, below_drewN (Below.refl _ _) _⟩
            case rest =>
              obtain ⟨rfl, HB7⟩ := hcut
              have HW7 := Lib.hid (HW6.out.call HB7.out)
              clear q0 q1 q2 q3 q4 ql ql2 ql3 HW6 HB6
              obtain ⟨⟨q0, q1, ql⟩, ⟨q2, ql2⟩, q3, q4, ql3, _⟩ := HE.out _ HW7.out.be
              obtain ⟨wa7, hwa7⟩ : ∃ wa7, wa7 = wc := ⟨_, rfl⟩
              subst hwa7
              by_cases hm : mn ≤ b
              · have hd : decide (mn ≤ b) = true := by simpa using hm
                go_wp2
                go_loopw [10, 11] (fun v s wx => ∃ j : Nat, e + 1 ≤ j ∧ j ≤ n ∧ s = .int .i64 j ∧ Hid (∀ i, e < i → i < j → negs E' i = true) ∧ Hid (WI w4 wx v LL)) (fun _ s _ => n - (intOf s).toNat)
                case atStart => exact ⟨e + 1, by omega, by omega, by simp, (fun i hi1 hi2 => by omega), HW7.out⟩
                case round =>
                  clear q0 q1 q2 q3 q4 ql ql2 ql3
                  obtain ⟨j, hj1, hj2, rfl, HJ, HWJ⟩ := hrel
                  obtain ⟨⟨q0, q1, ql⟩, ⟨q2, ql2⟩, q3, q4, ql3, hle⟩ := HE.out _ HWJ.out.be
                  by_cases hjn : j < n
                  · have hji : (j : Int) < (n : Int) := by omega
                    have hj0 : (0 : Int) ≤ (j : Int) := by omega
                    have cn := hle.neg hjn
                    cases hng : (E j).neg with
                    | true =>
                      have HNJ : Hid (negs E' j = true) := by show _ = _; rw [← HAN.out j hjn]; exact hng
                      rw [hng] at cn
                      clear hng hle
                      go_wp2
                      go_roundw
                      case measure => simp [intOf]; omega
                      case rel => exact ⟨j + 1, by omega, by omega, by go_num, (fun i hi1 hi2 => by
                        by_cases e2 : i = j
                        · subst e2; exact HNJ.out
                        · exact HJ.out i hi1 (by omega)), HWJ⟩
                    | false =>
                      have HNX : Hid (nxt (negs E') e n = j) := nxt_is _ e j n (by omega) hjn (by rw [← HAN.out j hjn]; exact hng) HJ.out
                      rw [hng] at cn
                      clear hng hle
                      obtain ⟨ob, hs, hob⟩ := HWJ.out.sg
                      have HS := Lib.hid hs
                      have HOB := Lib.hid hob
                      have HBE := Lib.hid HWJ.out.be
                      clear hs hob
                      go_wp2_with (at_builtin; go_loud (refine wpList_append_seg _ rfl _ _ 93 rfl 90 i0 _ 2 16 Try.underlying93 hi0 hz0 hz1 hz2 rfl (by decide) _ _ _ _ rfl (HS.out.alloc _) ⟨wr.heap.size, 0, none⟩ 1 1 [.int .i64 j, .int .i64 1] rfl rfl (two_news _ _ _ _ rfl) (by simp [Value.oneCell']) (by decide) (by unfold maxLen; omega) (by omega) ?_; intro v2 w2' ob2 hs2 ht2 ho2; have HF : Hid (WI w4 w2' v2 (LL ++ [((j : Int), 1)])) := WI.more (s := ((j : Int), 1)) HOB.out (HBE.out.alloc HBE.out.size _) hs2 ht2 ho2; clear hs2 ht2 ho2))
                      go_meet
                      exact (by rw [HWX.out, HNX.out, if_pos ⟨hm, by omega⟩]; exact HF)
                  · have hji : ¬ (j : Int) < (n : Int) := by omega
                    have HNX : Hid (nxt (negs E') e n = -1) := nxt_not _ e n (fun i hi1 hi2 => HJ.out i hi1 (by omega))
                    go_wp2
                    go_meet
                    exact (by rw [HWX.out, HNX.out, if_neg (fun x => by have := x.2; omega), List.append_nil]; exact HWJ)
              · have hd : decide (mn ≤ b) = false := by simpa using hm
                go_wp2
                go_meet
                exact (by rw [HWX.out, if_neg (fun x => by have := x.1; omega), List.append_nil]; exact HW7)
    case rest =>
      have HW5 := Lib.hid hcut.out
      have HB5 := Lib.hid hcut.out.be
      clear hcut
      have HI5 := Lib.hid (HI4.out.call HB5.out)
      have HS5 := Lib.hid (HS4.out.below HB5.out HS4.out.lt)
      clear HI4 HS4 HW4
      go_wp2_with fail
      refine Calls.mono (HMV.out _ HI5.out.nr) ?_
      rintro e w6 ⟨v12, R, rfl, hbi, hnu⟩
      have HI6 := Lib.hid (HI5.out.call hbi.be)
      have HS6 := Lib.hid (HS5.out.below hbi.be HS5.out.lt)
      obtain ⟨A1, c1, rfl, hl1⟩ := WI.lies (HW5.out.call hbi.be)
      obtain ⟨A2, c2, rfl, hl2⟩ := BI.lies hbi
      have HL1 := Lib.hid hl1
      have HL2 := Lib.hid hl2
      have HNU := Lib.hid hnu
      have hlen : R.length = Wx.length := hnu.1
      clear hl1 hl2 hnu hbi HI5 HS5 HW5 HB5 HMV HW0 HW1
      obtain ⟨M, hM⟩ : ∃ M, Wx.length = M := ⟨_, rfl⟩
      rw [hlen, hM]
      rw [hM] at hwl hlen
      rw [hlen] at HL2
      have HM := Lib.hid hM
      have HLR := Lib.hid hlen
      clear hM hlen
      have hne : ((M : Int) == (M : Int)) = true := by simp
      go_wp2
      go_loopw [13] (fun s wx => ∃ j : Nat, j ≤ M ∧ s = .int .i64 j ∧ Hid (Below w6.heap.size w6 wx)) (fun s _ => M - (intOf s).toNat)
      case atStart => exact ⟨0, by omega, rfl, Below.refl _ _⟩
      case round =>
        obtain ⟨j, hj, rfl, HBX⟩ := hrel
        have HIX := Lib.hid (HI6.out.call HBX.out)
        by_cases hjm : j < M
        · have hji : (j : Int) < (M : Int) := by omega
          obtain ⟨q, hq1, hq2⟩ := HNU.out.2 j (by rw [HLR.out]; exact hjm)
          obtain ⟨s, hs⟩ : ∃ s, Wx[j]? = some s := ⟨_, List.getElem?_eq_getElem (by rw [HM.out]; exact hjm)⟩
          obtain ⟨ga, oa, rfl, hga, hca⟩ := HL2.out j hjm
          obtain ⟨gb, ob, rfl, hgb, hcb0, hcb1⟩ := HL1.out j s hs
          have ca : wr.cell? ⟨ga, oa + j, none⟩ = some (.int .i64 q) := by
            rw [HBX.out.cell (p := ⟨ga, oa + j, none⟩) hga, hca]; show some (Value.int .i64 (R.getD j 0)) = _; rw [List.getD_eq_getElem?_getD, hq1]; rfl
          have HQ := Lib.hid (hq2.trans hs)
          clear hca hq1 hq2 hs
          go_wp2_with fail
          refine (at_yes nb gg oo n cc sg so sc win cap E' _ _ HIX.out.nr q s HQ.out).mono ?_
          rintro e w7 ⟨rfl, hb⟩
          have HB7 := Lib.hid (HBX.out.trans (hb.mono HBX.out.size))
          have cb0 : w7.cell? ⟨gb, ob + j * 2, none⟩ = some (.int .i64 s.1) := (HB7.out.cell (p := ⟨gb, ob + j * 2, none⟩) hgb).trans hcb0
          have cb1 : w7.cell? ⟨gb, ob + j * 2 + 1, none⟩ = some (.int .i64 s.2) := (HB7.out.cell (p := ⟨gb, ob + j * 2 + 1, none⟩) hgb).trans hcb1
          have hgb7 : gb < w7.heap.size := Nat.lt_of_lt_of_le hgb HB7.out.size
          have he := eq2 s.1 s.2 s.1 s.2 true (by simp)
          clear hb ca hcb0 hcb1
          go_upto_region 22 with fail
          go_quiet (fail)
          go_wp2
          go_roundw
          case measure => simp [intOf]; omega
          case rel => exact ⟨j + 1, by omega, by go_num, below_drewN (HB7.out.alloc HB7.out.size _) _⟩
        · have hji : ¬ (j : Int) < (M : Int) := by omega
          have HSX := Lib.hid (HS6.out.below HBX.out HS6.out.lt)
          go_wp2_with fail
          refine (awake_any _).mono ?_
          rintro e w7 ⟨rfl, hb⟩
          have HI7 := Lib.hid (HIX.out.call hb)
          have HS7 := Lib.hid (HSX.out.below hb HSX.out.lt)
          clear hb
          have d0 : w7.cell? ⟨sb, 0, none⟩ = some (.int .i64 a) := HS7.out.cell 0
          have d1 : w7.cell? ⟨sb, 1, none⟩ = some (.int .i64 b) := HS7.out.cell 1
          have dl := HS7.out.lt
          go_wp2_with fail
          refine (len_nil _).mono ?_
          rintro e w' ⟨rfl, rfl⟩
          go_wp2_with fail
          refine (find_nil a b _).mono ?_
          rintro e w8 ⟨rfl, hb⟩
          have HI8 := Lib.hid (HI7.out.call hb)
          clear hb d0 d1 dl
          go_wp2_with fail
          refine (moves_nil _).mono ?_
          rintro e w9 ⟨rfl, hb⟩
          have HI9 := Lib.hid (HI8.out.call hb)
          clear hb
          go_wp2_with fail
          refine (ends_nil _).mono ?_
          rintro e wA ⟨rfl, hb⟩
          have HIA := Lib.hid (HI9.out.call hb)
          clear hb
          go_wp2_with fail
          refine (query_nil _).mono ?_
          rintro e wB ⟨rfl, hb⟩
          have HIB := Lib.hid (HIA.out.call hb)
          clear hb
          have hf := field0 wB
          go_wp2
          go_ret
          exact ⟨rfl, HIB.out.pi.be⟩
end Go.Proofs.Ytjciilnbcmaikaa.Nf
