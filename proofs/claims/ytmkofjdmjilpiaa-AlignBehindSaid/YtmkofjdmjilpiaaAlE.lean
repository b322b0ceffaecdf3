/- The walk of the law AlignBehind. -/
import Derived.Test.YtmkofjdmjilpiaaAlD
import Derived.Test.YtmkofjdmjilpiaaOpen
import Derived.Deep.DeepCutAuto
import Derived.Deep.CutBlock
import Derived.Outline
namespace Go.Proofs.Ytmkofjdmjilpiaa.Al
open Go.RowKit Go.Proofs.Ytmkofjdmjilpiaa Go.Proofs.Ytmkofjdmjilpiaa.Mark
set_option linter.unusedVariables false

set_option maxRecDepth 100000 in
set_option maxHeartbeats 16000000 in
theorem behind_law (p0 : Int) (wp : (Lit.int .i64 p0).wf = true) (t0 : Int) (wt : (Lit.int .i64 t0).wf = true)
    (A : Option Addr) (n c : Nat) (f : Nat → Int) (ln : n ≤ c) (lc : c ≤ 9223372036854775807) (lb : ∀ k, -9223372036854775808 ≤ f k ∧ f k ≤ 9223372036854775807)
    (w : World) (lies : Lies w w.heap.size A n (fun k => .int .i64 (f k))) :
    Calls Try.prog 13 #[.int .i64 p0, .int .i64 t0, .slice A n c] w fun e w' => e = .returned (.bool true) ∧ Below w.heap.size w w' := by
  have HL := Lib.hid lies
  have HLB := Lib.hid lb
  clear lies lb wp wt
  have h7 := and7 p0
  obtain ⟨N, hN⟩ : ∃ N : Nat, p0 % 8 + 1 = (N : Int) := ⟨(p0 % 8 + 1).toNat, by omega⟩
  have hN1 : 1 ≤ N ∧ N ≤ 8 := by omega
  have HN := Lib.hid hN
  have hat := and65535 t0
  obtain ⟨a, ha⟩ : ∃ a, t0 % 65536 = a := ⟨_, rfl⟩
  have ha0 : 0 ≤ a ∧ a ≤ 65535 := by omega
  have HA0 := Lib.hid ha
  clear hN ha
  go_enter Try.func13, Try.ntmps13
  go_upto_region 1 with fail
  go_cut [7] (fun s7 wx => s7 = .int .i64 (N : Int) ∧ w = wx)
  case first =>
    go_wp2
    go_meet
    exact ⟨i64_of HN.out, rfl⟩
  case rest =>
    obtain ⟨rfl, rfl⟩ := hcut
    obtain ⟨b, hbs⟩ : ∃ b, w.heap.size + 1 = b := ⟨_, rfl⟩
    obtain ⟨mb, hmb⟩ : ∃ mb, w.heap.size = mb := ⟨_, rfl⟩
    have hp : partsV (N : Int) = N := by unfold partsV; omega
    have HP := Lib.hid hp
    have HB0 := Lib.hid hbs
    have HMB := Lib.hid hmb
    clear hp hbs hmb
    go_upto_region 2 with fail
    go_cut [8, 9] (fun s8 s9 wx => s8 = .pointer (some ⟨b, 0, none⟩) ∧ s9 = .int .i64 a ∧ Hid (Al wx b mb N (fun _ => 0) ∧ Below w.heap.size w wx))
    case first =>
      go_wp2_with fail
      refine (new_any _ _).mono ?_
      rintro e w1 ⟨rfl, hal, hb⟩
      rw [HP.out] at hal
      rw [HB0.out] at hal ⊢
      rw [HMB.out] at hal
      have HAL := Lib.hid hal
      have HB := Lib.hid hb
      clear hal hb
      go_wp2
      go_meet
      exact ⟨rfl, i64_of HA0.out, HAL.out, HB.out⟩
    case rest =>
      obtain ⟨rfl, rfl, hh⟩ := hcut
      obtain ⟨hal, hb⟩ := hh.out
      have hm0 : Bp w (wc.alloc (.cells #[.bool false, .bool false, .bool false, .bool false, .bool false, .bool false, .bool false, .bool false] 71)) b mb wc.heap.size N a (fun _ => false) :=
        ⟨hal.call ((Below.refl _ _).alloc (Nat.le_refl _) _), tab_start wc, hb.alloc hb.size _, by have := HB0.out; omega, by have := HMB.out; omega, hb.size, by have := hal.row.lt; omega, by have := hal.tab.lt; omega⟩
      have HM0 := Lib.hid hm0
      clear hm0 hal hb hh HP HB0 HMB
      clear h7 hat
      go_wp2
      generalize wc.alloc (.cells #[.bool false, .bool false, .bool false, .bool false, .bool false, .bool false, .bool false, .bool false] 71) = w2 at HM0 ⊢
      generalize wc.heap.size = tb at HM0 ⊢
      go_loopw [11, 12] (fun v11 i wr => ∃ (j : Nat) (S : Nat → Bool), j ≤ n ∧ j ≤ 40 ∧ i = .int .i64 j ∧ v11 = .int .i64 (left S N) ∧ Hid (Bp w wr b mb tb N a S)) (fun _ i _ => n - (intOf i).toNat)
      case atStart => exact ⟨0, _, by omega, by omega, rfl, by rw [left_start], HM0⟩
      case round =>
        clear HM0
        obtain ⟨j, S, hj, hj40, rfl, rfl, hm⟩ := hrel
        by_cases hjn : j < n ∧ j < 40
        · obtain ⟨hjn, h40⟩ := hjn
          have e40 : decide ((j : Int) < 40) = true := by simp; omega
          obtain ⟨g, o, rfl, hg, hcell⟩ := HL.out j hjn
          have hcj := (hm.out.be.cell (p := ⟨g, o + j, none⟩) hg).trans hcell
          have h255 := and255 (f j)
          obtain ⟨x, hx⟩ : ∃ x : Nat, f j % 256 % (N : Int) = (x : Int) := ⟨(f j % 256 % (N : Int)).toNat, by rw [Int.toNat_of_nonneg (Int.emod_nonneg _ (by omega))]⟩
          have hxN : x < N := by have := Int.emod_lt_of_pos (f j % 256) (show (0 : Int) < N by omega); omega
          have hx2 : Int.tmod (f j % 256) (N : Int) = (x : Int) := by rw [Int.tmod_eq_emod_of_nonneg (by omega)]; exact hx
          have HX := Lib.hid hx
          clear hx hx2 hcell
          go_upto_region 7 with fail
          go_cut [13] (fun s13 wx => s13 = .int .i64 x ∧ wr = wx)
          case first =>
            go_wp2
            go_meet
            exact ⟨i64_of (by rw [← HX.out]), rfl⟩
          case rest =>
            obtain ⟨rfl, rfl⟩ := hcut
            have hx8 : x < 8 := by omega
            have hck := hm.out.tab.cell hx8
            have hfk := hm.out.tab.free x
            unfold bools at hck
            clear hcj h255
            have hle := left_le S N
            cases hS : S x with
            | true =>
              have hfx : tf S a x = a + 1 := by unfold tf; rw [hS]; rfl
              have HR : Hid (ToR (tf S a x) a (a + 1) 7) := by show ToR _ _ _ _; rw [hfx]; exact ⟨.inr (.inl ⟨by unfold timeB; simp; omega, by omega, rfl, rfl⟩)⟩
              rw [hS] at hck
              have HFX := Lib.hid hfx
              clear hS hfx
              go_wp2_with fail
              refine (to_yes _ _ _ _ _ hm.out.al x hxN a (a + 1) 7 HR.out (by omega)).mono ?_
              rintro e w3 ⟨rfl, h3, ht3⟩
              have hm3 := Lib.hid (hm.out.again HFX.out h3 ht3)
              clear h3 ht3 HR HFX hck hfk
              go_wp2_with fail
              refine (at_all _ _ _ _ _ hm3.out.al).mono ?_
              rintro e w4 ⟨rfl, hb⟩
              have hm4 := Lib.hid (hm3.out.call hb)
              clear hb
              by_cases hl : left S N = 0
              · rw [mn_all S a ha0.1 N hN1.1 hl, hl]
                go_wp2
                go_roundw
                case measure => simp [intOf]; omega
                case rel => exact ⟨j + 1, S, by omega, by omega, by go_num, by rw [hl]; rfl, hm4⟩
              · rw [mn_some S a ha0.1 N hN1.1 hl]
                have HBL := Lib.hid (beh_tf S a ha0.1 N hN1.1 hl N)
                have ene : ((-1 : Int) == a) = false := by simp; omega
                have ene2 : (((left S N : Nat) : Int) == 0) = false := by simp; omega
                have hl1 : (0 : Int) < (left S N : Nat) := by omega
                clear hl
                go_wp2_with fail
                refine (behind_any _ _ _ _ _ hm4.out.al).mono ?_
                rintro e w5 ⟨v, rfl, hv⟩
                obtain ⟨ob, hs, ho⟩ := hv.sg
                rw [HBL.out] at hs
                obtain ⟨A5, cap, rfl, -, -⟩ := hs.form
                have hm5 := Lib.hid (hm4.out.call hv.be)
                clear hv hs ho
                go_wp2
                go_roundw
                case measure => simp [intOf]; omega
                case rel => exact ⟨j + 1, S, by omega, by omega, by go_num, rfl, hm5⟩
            | false =>
              have hfx : tf S a x = 0 := by unfold tf; rw [hS]; rfl
              have HR : Hid (ToR (tf S a x) a (a + 1) 0) := by show ToR _ _ _ _; rw [hfx]; exact ⟨.inr (.inr ⟨by unfold timeB; simp; omega, by omega, rfl, rfl⟩)⟩
              have hlt := left_told S x hS N hxN
              rw [hS] at hck
              clear hS hfx
              go_wp2_with fail
              refine (to_yes _ _ _ _ _ (hm.out.store x _) x hxN a (a + 1) 0 HR.out (by omega)).mono ?_
              rintro e w3 ⟨rfl, h3, ht3⟩
              have hm3 := Lib.hid (hm.out.told h3 ht3)
              clear h3 ht3 HR hck hfk
              obtain ⟨S', hS'⟩ : ∃ S', updB S x true = S' := ⟨_, rfl⟩
              rw [hS'] at hm3 hlt
              have el : ((left S N : Nat) : Int) - 1 = (left S' N : Nat) := by omega
              go_wp2_with fail
              refine (at_all _ _ _ _ _ hm3.out.al).mono ?_
              rintro e w4 ⟨rfl, hb⟩
              have hm4 := Lib.hid (hm3.out.call hb)
              clear hb
              by_cases hl : left S' N = 0
              · rw [mn_all S' a ha0.1 N hN1.1 hl]
                have el0 : left S N = 1 := by omega
                go_wp2
                go_roundw
                case measure => simp [intOf]; omega
                case rel => exact ⟨j + 1, S', by omega, by omega, by go_num, i64_of (by omega), hm4⟩
              · rw [mn_some S' a ha0.1 N hN1.1 hl]
                have HBL := Lib.hid (beh_tf S' a ha0.1 N hN1.1 hl N)
                have ene : ((-1 : Int) == a) = false := by simp; omega
                have ene2 : (((left S N : Nat) : Int) - 1 == 0) = false := by simp; omega
                have hl1 : (0 : Int) < (left S N : Nat) - 1 := by omega
                clear hl
                go_wp2_with fail
                refine (behind_any _ _ _ _ _ hm4.out.al).mono ?_
                rintro e w5 ⟨v, rfl, hv⟩
                obtain ⟨ob, hs, ho⟩ := hv.sg
                rw [HBL.out] at hs
                obtain ⟨A5, cap, rfl, -, -⟩ := hs.form
                have hm5 := Lib.hid (hm4.out.call hv.be)
                clear hv hs ho
                go_wp2
                go_roundw
                case measure => simp [intOf]; omega
                case rel => exact ⟨j + 1, S', by omega, by omega, by go_num, i64_of (by omega), hm5⟩
        · have HB := Lib.hid hm.out.be
          by_cases hjn' : j < n
          all_goals
            try have e40 : decide ((j : Int) < 40) = false := by simp; omega
            clear hjn
            go_wp2_with fail
            refine (awake_any _).mono ?_
            rintro e w3 ⟨rfl, hb⟩
            have HB3 := Lib.hid (HB.out.trans (hb.mono HB.out.size))
            clear hb
            go_wp2
            go_ret
            exact ⟨rfl, HB3.out⟩
end Go.Proofs.Ytmkofjdmjilpiaa.Al
