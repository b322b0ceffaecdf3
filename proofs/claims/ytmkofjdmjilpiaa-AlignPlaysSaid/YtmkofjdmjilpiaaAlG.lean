/- The walk of the law AlignPlays. -/
import Derived.Test.YtmkofjdmjilpiaaAlF
import Derived.Test.YtmkofjdmjilpiaaOpen2
import Derived.Deep.DeepCutAuto
import Derived.Deep.CutBlock
import Derived.BigQuiet
import Derived.Outline
namespace Go.Proofs.Ytmkofjdmjilpiaa.Al
open Go.RowKit Go.Proofs.Ytmkofjdmjilpiaa Go.Proofs.Ytmkofjdmjilpiaa.Mark
set_option linter.unusedVariables false

theorem i64_info : (Try.prog.info? 2).map (fun i => (i.zero, i.size, i.bytes)) = some (some (.int .i64 0), 1, 8) := by kernel_rfl
set_option maxRecDepth 100000 in
set_option maxHeartbeats 16000000 in
theorem plays_law (p0 : Int) (wp : (Lit.int .i64 p0).wf = true)
    (A : Option Addr) (n c : Nat) (F G : Nat → Int) (ln : n ≤ c) (lc : c ≤ 9223372036854775807) (lb : ∀ k, -9223372036854775808 ≤ F k ∧ F k ≤ 9223372036854775807) (lg : ∀ k, -9223372036854775808 ≤ G k ∧ G k ≤ 9223372036854775807)
    (w : World) (lies : LiesTwo w w.heap.size A n (fun k => .int .i64 (F k)) (fun k => .int .i64 (G k))) :
    Calls Try.prog 12 #[.int .i64 p0, .slice A n c] w fun e w' => e = .returned (.bool true) ∧ Below w.heap.size w w' := by
  have HL := Lib.hid lies
  have HLB := Lib.hid lb
  have HLG := Lib.hid lg
  clear lies lb lg wp
  obtain ⟨N, hN⟩ : ∃ N, partsV p0 = N := ⟨_, rfl⟩
  have hN1 : 1 ≤ N ∧ N ≤ 64 := by have := partsV_pos p0; omega
  have HN := Lib.hid hN
  clear hN
  go_enter Try.func12, Try.ntmps12
  go_wp2_with fail
  refine (new_any _ _).mono ?_
  rintro e w1 ⟨rfl, hal, hb⟩
  rw [HN.out] at hal
  have HM0 := Lib.hid (pp_start hal hb (by omega) (by omega))
  clear hal hb
  generalize w.heap.size + 1 = b at HM0 ⊢
  obtain ⟨mb, hmb⟩ : ∃ mb, w.heap.size = mb := ⟨_, rfl⟩
  have HMB := Lib.hid hmb
  have HM0 : Hid (Pp w (w1.alloc (.cells (madeCells #[.int .i64 0] N) 2)) b mb w1.heap.size N (fun _ => 0) (ini 0)) := by have := HM0.out; rw [hmb] at this; exact this
  clear hmb
  go_upto_region 2 with fail
  go_cut [6] (fun s6 wx => s6 = .int .i64 (N : Int) ∧ w1 = wx)
  case first =>
    rcases (show (p0 < 1 ∧ (N : Int) = 1) ∨ (1 ≤ p0 ∧ p0 ≤ 64 ∧ (N : Int) = p0) ∨ (64 < p0 ∧ (N : Int) = 64) from by have := HN.out; unfold partsV at this; omega) with ⟨g, g2⟩ | ⟨g, g1, g2⟩ | ⟨g, g2⟩
    all_goals
      go_wp2
      go_meet
      exact ⟨i64_of (by omega), rfl⟩
  case rest =>
    obtain ⟨rfl, rfl⟩ := hcut
    clear HN
    have hmk := fun wx => run_make_cell (P := Try.prog) 31 2 (.int .i64 0) (.int .i64 0) 8 Try.underlying31 i64_info rfl .i64 .i64 N (by omega) (by omega) wx
    go_wp2
    clear hmk
    generalize w1.alloc (.cells (madeCells #[.int .i64 0] N) 2) = w2 at HM0 ⊢
    generalize w1.heap.size = ab at HM0 ⊢
    go_loopw [8] (fun i wr => ∃ k : Nat, k ≤ N ∧ i = .int .i64 k ∧ Hid (Pp w wr b mb ab N (fun _ => 0) (ini k))) (fun i _ => N - (intOf i).toNat)
    case atStart => exact ⟨0, by omega, rfl, HM0⟩
    case round =>
      clear HM0
      obtain ⟨k, hk, rfl, hm⟩ := hrel
      by_cases hkn : k < N
      · have hck := hm.out.cell hkn
        have hfk := hm.out.tab.free k
        go_wp2
        go_roundw
        case measure => simp [intOf]; omega
        case rel => exact ⟨k + 1, by omega, by go_num, by rw [← ini_succ]; exact hm.out.put k (-1) 0 (by omega)⟩
      · obtain rfl : k = N := by omega
        have HM : Hid (Pp w wr b mb ab k (fun _ => 0) (fun _ => 0)) := hm.out.congr (fun i hi => by unfold ini; rw [if_pos hi])
        clear hm hkn
        go_wp2_with fail
        refine (parts_any _ _ _ _ _ HM.out.al).mono ?_
        rintro e w' ⟨rfl, rfl⟩
        go_wp2
        go_loopw [9] (fun i wq => ∃ (j : Nat) (f : Nat → Int), j ≤ n ∧ j ≤ 60 ∧ i = .int .i64 j ∧ Hid (Pp w wq b mb ab k f f)) (fun i _ => n - (intOf i).toNat)
        case atStart => exact ⟨0, _, by omega, by omega, rfl, HM⟩
        case round =>
          clear HM
          obtain ⟨j, f, hj, hj60, rfl, hm⟩ := hrel
          by_cases hjn : j < n ∧ j < 60
          · obtain ⟨hjn, h60⟩ := hjn
            have e60 : decide ((j : Int) < 60) = true := by simp; omega
            obtain ⟨g, o, rfl, hg, hcell1, hcell2⟩ := HL.out j hjn
            have hc1 := (hm.out.be.cell (p := ⟨g, o + j * 2, none⟩) hg).trans hcell1
            have hc2 := (hm.out.be.cell (p := ⟨g, o + j * 2 + 1, none⟩) hg).trans hcell2
            have h7 := and7 (F j)
            have h31 := and31 (G j)
            clear hcell1 hcell2
            go_upto_region 13 with fail
            go_cut [10, 11] (fun s10 s11 wx => ∃ (x t : Int) (q : Nat), s10 = .int .i64 x ∧ s11 = .int .i64 t ∧ -9223372036854775808 ≤ x ∧ x ≤ 9223372036854775807 ∧ -9223372036854775808 ≤ t ∧ t ≤ 9223372036854775807 ∧ wx = wr.drewN q)
            case first =>
              go_quiet (fail)
              go_wp2
              go_meet
              exact ⟨_, _, _, rfl, rfl, by omega, by omega, by omega, by omega, rfl⟩
            case rest =>
              obtain ⟨x0, t0, q0, rfl, rfl, -, -, -, -, rfl⟩ := hcut
              have h15 := and15 (j : Int)
              go_upto_if 62 with fail
              go_cut [10, 11] (fun s10 s11 wx => ∃ (x t : Int) (q : Nat), s10 = .int .i64 x ∧ s11 = .int .i64 t ∧ wx = wr.drewN q)
              case first =>
                by_cases hq : (j : Int) % 16 = 15
                · have hq2 : ((j : Int) % 16 == 15) = true := by simp; omega
                  go_wp2
                  go_quiet (fail)
                  go_wp2
                  go_meet
                  exact ⟨_, _, _, rfl, rfl, World.drewN_drewN ..⟩
                · have hq2 : ((j : Int) % 16 == 15) = false := by simp; omega
                  go_wp2
                  go_meet
                  exact ⟨_, _, _, rfl, rfl, rfl⟩
              case rest =>
                obtain ⟨x, t, q, rfl, rfl, rfl⟩ := hcut
                have HD := Lib.hid (hm.out.drewN q)
                generalize wr.drewN q = wd at HD ⊢
                clear hc1 hc2 h7 h31 h15 hm
                go_upto_block 4 with fail
                go_cut [12] (fun s12 wx => Hid (Sw w wx b mb ab k f x t s12 wx))
                case first =>
                  rcases (show x < 0 ∨ (0 ≤ x ∧ (k : Int) ≤ x) ∨ (0 ≤ x ∧ x < (k : Int)) from by omega) with h | ⟨h, h2⟩ | ⟨h, h2⟩
                  · go_wp2
                    go_meet
                    exact .inl ⟨rfl, .inl h, HD.out⟩
                  · go_wp2
                    go_meet
                    exact .inl ⟨rfl, .inr h2, HD.out⟩
                  · obtain ⟨y, rfl⟩ : ∃ y : Nat, x = (y : Int) := ⟨x.toNat, by omega⟩
                    have hy : y < k := by omega
                    have hcy := HD.out.cell hy
                    have hfy := HD.out.tab.free y
                    obtain ⟨m0, m1⟩ := HD.out.al.lo y hy
                    rcases (show t < 0 ∨ (0 ≤ t ∧ 1099511627776 < t) ∨ (0 ≤ t ∧ t ≤ 1099511627776 ∧ t ≤ f y - 1) ∨ (0 ≤ t ∧ t ≤ 1099511627776 ∧ f y - 1 < t) from by omega) with g | ⟨g, g2⟩ | ⟨g, g2, g3⟩ | ⟨g, g2, g3⟩
                    · go_wp2
                      go_meet
                      exact .inr ⟨y, f y, 12, rfl, hy, rfl, ⟨.inl ⟨by unfold timeB; simp; omega, rfl, rfl⟩⟩, m0, m1, by rw [upd_self]; exact HD.out⟩
                    · go_wp2
                      go_meet
                      exact .inr ⟨y, f y, 12, rfl, hy, rfl, ⟨.inl ⟨by unfold timeB; simp; omega, rfl, rfl⟩⟩, m0, m1, by rw [upd_self]; exact HD.out⟩
                    · go_wp2
                      go_meet
                      exact .inr ⟨y, f y, 7, rfl, hy, rfl, ⟨.inr (.inl ⟨by unfold timeB; simp; omega, by omega, rfl, rfl⟩)⟩, m0, m1, by rw [upd_self]; exact HD.out⟩
                    · go_wp2
                      go_meet
                      exact .inr ⟨y, t + 1, 0, rfl, hy, rfl, ⟨.inr (.inr ⟨by unfold timeB; simp; omega, by omega, rfl, rfl⟩)⟩, by omega, by omega, HD.out.put y t (t + 1) (by omega)⟩
                case rest =>
                  clear HD
                  have HSW := hcut
                  clear hcut
                  go_upto_region 24 with fail
                  go_cut [104] (fun s104 wx => s104 = .bool false ∧ ∃ f' : Nat → Int, Hid (Pp w wx b mb ab k f' f'))
                  case first =>
                    obtain (⟨rfl, hr, hp⟩ | ⟨y, m', e, rfl, hy, rfl, hr, h0, h1, hp⟩) := HSW.out
                    · have HP := Lib.hid hp
                      clear hp HSW
                      go_wp2_with fail
                      refine (to_no _ _ _ _ _ HP.out.al _ _ hr).mono ?_
                      rintro e w' ⟨rfl, rfl⟩
                      go_wp2
                      go_meet
                      exact ⟨rfl, _, HP⟩
                    · have HP := Lib.hid hp
                      have HR := Lib.hid hr
                      clear hp hr HSW
                      go_wp2_with fail
                      refine (to_yes _ _ _ _ _ HP.out.al y hy _ m' e HR.out ⟨h0, h1⟩).mono ?_
                      rintro e w3 ⟨rfl, h3, ht3⟩
                      have HP3 := Lib.hid (HP.out.to h3 ht3)
                      clear h3 ht3
                      go_wp2
                      go_meet
                      exact ⟨by simp, _, HP3⟩
                  case rest =>
                    clear HSW f
                    obtain ⟨rfl, f, HP⟩ := hcut
                    have hc0 := HP.out.cell (show 0 < k by omega)
                    go_wp2
                    clear hc0
                    go_loopw [13, 15] (fun v13 i wr => ∃ y : Nat, y ≤ k ∧ i = .int .i64 y ∧ v13 = .int .i64 (mn f y - 1) ∧ wc = wr) (fun _ i _ => k - (intOf i).toNat)
                    case atStart => exact ⟨0, by omega, rfl, rfl, rfl⟩
                    case round =>
                      obtain ⟨y, hy, rfl, rfl, rfl⟩ := hrel
                      obtain ⟨m0, m1⟩ := mn_lo f 0 1099511627777 k (by omega) HP.out.al.lo y hy
                      by_cases hyk : y < k
                      · have hcy := HP.out.cell hyk
                        obtain ⟨m2, m3⟩ := HP.out.al.lo y hyk
                        have hmn : mn f (y + 1) = if f y < mn f y then f y else mn f y := rfl
                        by_cases hlt : f y < mn f y
                        · rw [if_pos hlt] at hmn
                          go_wp2
                          go_roundw
                          case measure => simp [intOf]; omega
                          case rel => exact ⟨y + 1, by omega, by go_num, i64_of (by omega), trivial⟩
                        · rw [if_neg hlt] at hmn
                          go_wp2
                          go_roundw
                          case measure => simp [intOf]; omega
                          case rel => exact ⟨y + 1, by omega, by go_num, i64_of (by omega), trivial⟩
                      · obtain rfl : y = k := by omega
                        clear hyk m0 m1
                        go_wp2_with fail
                        refine (behind_any _ _ _ _ _ HP.out.al).mono ?_
                        rintro e w3 ⟨v, rfl, hv⟩
                        have HLp : Hid (Lp w w3 b mb ab y f v (behL f y y)) := ⟨HP.out.call hv.be, by obtain ⟨ob, hs, _⟩ := hv.sg; exact ⟨ob, hs⟩⟩
                        clear hv HP
                        go_wp2
                        go_loopw [14, 17] (fun v14 i wr => ∃ z : Nat, z ≤ y ∧ i = .int .i64 z ∧ v14 = .int .i64 ((behL f y z).length : Nat) ∧ Hid (Lp w wr b mb ab y f v (behL f y y))) (fun _ i _ => y - (intOf i).toNat)
                        case atStart => exact ⟨0, by omega, rfl, rfl, HLp⟩
                        case round =>
                          clear HLp
                          obtain ⟨z, hz, rfl, rfl, hl⟩ := hrel
                          have hz1 := behL_len f y z
                          by_cases hzy : z < y
                          · have hcz := hl.out.pp.cell hzy
                            obtain ⟨m0, m1⟩ := hl.out.pp.al.lo z hzy
                            go_upto_if 131 with fail
                            go_cut [14] (fun s14 wx => s14 = .int .i64 ((behL f y (z + 1)).length : Nat) ∧ wr = wx)
                            case first =>
                              by_cases he : f z = mn f y
                              · have e1 : (f z - 1 == mn f y - 1) = true := by simp; omega
                                obtain ⟨hget, hlt, hsucc⟩ := behL_get f y z hzy he
                                obtain ⟨g3, o3, cap, rfl, hcl⟩ := hl.out.shape (by omega)
                                have hcb := hcl _ _ hget
                                have HS := Lib.hid hsucc
                                clear he hget hcl hsucc
                                generalize (behL f y z).length = q at *
                                generalize (behL f y y).length = r at *
                                go_wp2
                                go_meet
                                exact ⟨i64_of (by rw [HS.out]; omega), rfl⟩
                              · have e1 : (f z - 1 == mn f y - 1) = false := by simp; omega
                                have HS := Lib.hid (behL_not f y z he)
                                clear he
                                go_wp2
                                go_meet
                                exact ⟨i64_of (by rw [HS.out]), rfl⟩
                            case rest =>
                              obtain ⟨rfl, rfl⟩ := hcut
                              have HLD := Lib.hid (hl.out.drewN 1)
                              go_upto_region 39 with fail
                              go_cut [153] (fun s153 wx => s153 = .bool false ∧ Hid (Lp w wx b mb ab y f v (behL f y y)))
                              case first =>
                                go_region_law (first
                                  | (go_simp; go_at_call 49; refine (of_yes _ _ _ _ _ HLD.out.pp.al z hzy).mono ?_; rintro e w4 ⟨rfl, hb⟩; have HB : Hid (Lp w w4 b mb ab y f v (behL f y y)) := HLD.out.call hb; have d0 := HB.out.pp.cell hzy; clear hb))
                                all_goals
                                  go_wp2_with fail
                                  go_meet
                                  exact ⟨by simp, HB.out⟩
                              case rest =>
                                obtain ⟨rfl, hl2⟩ := hcut
                                go_wp2
                                go_roundw
                                case measure => simp [intOf]; omega
                                case rel => exact ⟨z + 1, by omega, by go_num, rfl, hl2⟩
                          · obtain rfl : z = y := by omega
                            obtain ⟨A5, cap, rfl⟩ := hl.out.form
                            generalize (behL f z z).length = r at *
                            go_wp2_with fail
                            refine (at_all _ _ _ _ _ hl.out.pp.al).mono ?_
                            rintro e w4 ⟨rfl, hb⟩
                            have HE := Lib.hid (hl.out.pp.call hb)
                            clear hb
                            go_wp2
                            go_roundw
                            case measure => simp [intOf]; omega
                            case rel => exact ⟨j + 1, f, by omega, by omega, by go_num, HE⟩
          · have HM := Lib.hid hm.out
            clear hm
            by_cases hjn' : j < n
            all_goals
              try have e60 : decide ((j : Int) < 60) = false := by simp; omega
              clear hjn
              go_wp2_with fail
              refine (awake_any _).mono ?_
              rintro e w3 ⟨rfl, hb⟩
              have HM3 := Lib.hid (HM.out.call hb)
              clear hb
              go_wp2_with fail
              refine (of_no _ _ _ _ _ HM3.out.al (-1) (.inl (by omega))).mono ?_
              rintro e w' ⟨rfl, rfl⟩
              go_wp2_with fail
              refine (of_no _ _ _ _ _ HM3.out.al k (.inr (Int.le_refl _))).mono ?_
              rintro e w' ⟨rfl, rfl⟩
              go_wp2_with fail
              refine (to_nil _ _ _).mono ?_
              rintro e w' ⟨rfl, rfl⟩
              go_wp2_with fail
              refine (at_nil _).mono ?_
              rintro e w4 ⟨rfl, hb⟩
              have HM4 := Lib.hid (HM3.out.call hb)
              clear hb
              go_wp2_with fail
              refine (parts_nil _).mono ?_
              rintro e w' ⟨rfl, rfl⟩
              go_wp2_with fail
              refine (behind_nil _).mono ?_
              rintro e w5 ⟨rfl, hb⟩
              have HM5 := Lib.hid (HM4.out.call hb)
              clear hb
              go_wp2
              go_ret
              exact ⟨rfl, HM5.out.be⟩
end Go.Proofs.Ytmkofjdmjilpiaa.Al
