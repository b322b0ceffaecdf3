/- The walk of the law QueuePlays. -/
import Derived.Test.YtmkofjdmjilpiabQuE
import Derived.Deep.LoopGhost
import Derived.Deep.CutBlock
namespace Go.Proofs.Ytmkofjdmjilpiab.Qu
open Go.RowKit Go.Proofs.Ytmkofjdmjilpiab
set_option linter.unusedVariables false

set_option maxRecDepth 100000 in
set_option maxHeartbeats 16000000 in
theorem plays_law (a : Int) (wa : (Lit.int .i64 a).wf = true) (A : Option Addr) (n c : Nat) (f : Nat → Int) (ln : n ≤ c) (lc : c ≤ 9223372036854775807) (lb : ∀ k, -9223372036854775808 ≤ f k ∧ f k ≤ 9223372036854775807)
    (w : World) (lies : Lies w w.heap.size A n (fun k => .int .i64 (f k))) :
    Calls Try.prog 4 #[.int .i64 a, .slice A n c] w fun e w' => e = .returned (.bool true) ∧ Below w.heap.size w w' := by
  obtain ⟨ha0, ha1⟩ := bounds_i64 wa
  have HL := Lib.hid lies
  have HLB := Lib.hid lb
  have HR := Lib.hid (Fifo.roomV_int a)
  have hrp := Fifo.roomV_pos a
  clear lies lb wa
  obtain ⟨i0, hi0, hz0, hz1, hz2⟩ := info_parts Fifo.int_info
  go_enter Try.func4, Try.ntmps4
  go_wp2_with fail
  refine (new_any a _ ha0 ha1).mono ?_
  rintro e w1 ⟨rfl, hq, hb⟩
  have hp0 := pr_start hq hb
  clear hq hb
  generalize Fifo.roomV a = room at HR hrp hp0 ⊢
  obtain ⟨hr1, hr2⟩ := hrp
  have hm0 : Md w (w1.alloc (.cells #[] 3)) (w.heap.size + 1) w.heap.size room 0 [] ⟨false, 0, 0, 0, 0⟩ (.slice (some ⟨w1.heap.size, 0, none⟩) 0 0) := ⟨⟨none, none, hp0⟩, by simp, by simp, by simp, by simp, by simp, by simp⟩
  have HM0 := Lib.hid hm0
  clear hm0 hp0
  go_upto_region 2 with fail
  generalize w1.alloc (.cells #[] 3) = w2 at HM0 ⊢
  go_cut [7] (fun s7 wx => s7 = .int .i64 room ∧ w2 = wx)
  case first =>
    rcases (show (a < 1 ∧ (room : Int) = 1) ∨ (1 ≤ a ∧ a ≤ 1024 ∧ (room : Int) = a) ∨ (1024 < a ∧ (room : Int) = 1024) from by have := HR.out; omega) with ⟨g, hv⟩ | ⟨g, g1, hv⟩ | ⟨g, hv⟩
    all_goals
      have HV := Lib.hid hv
      clear hv
      go_wp2
      go_meet
      exact ⟨by rw [HV.out], rfl⟩
  case rest =>
    obtain ⟨rfl, rfl⟩ := hcut
    go_wp2
    go_loopg [6, 8, 9, 10, 11, 12, 13] n (fun gk mv v8 v9 v10 v11 v12 i wr => ∃ (j : Nat) (zs : List Int) (s : QS), j + gk = n ∧ j ≤ 80 ∧ i = .int .i64 j ∧ v8 = .int .i64 s.most ∧ v9 = .int .i64 s.put ∧ v10 = .int .i64 s.taken ∧ v11 = .int .i64 s.full ∧ v12 = .bool s.closed ∧ Hid (Md w wr (w.heap.size + 1) w.heap.size room j zs s mv))
    case atStart => exact ⟨0, [], ⟨false, 0, 0, 0, 0⟩, by omega, by omega, rfl, rfl, rfl, rfl, rfl, rfl, HM0⟩
    case round =>
      obtain ⟨j, zs, ⟨cl, mo, pu, ta, fu⟩, hj, hj80, rfl, rfl, rfl, rfl, rfl, rfl, hm⟩ := hrel
      by_cases hjn : j < n ∧ j < 80
      · obtain ⟨hjn, h80⟩ := hjn
        have e80 : decide ((j : Int) < 80) = true := by simp; omega
        obtain ⟨ob, om, hp⟩ := hm.out.pr
        have hle := hm.out.le
        have hln := hm.out.ln
        have hp1 : pu ≤ j := hm.out.p1
        have hp2 : ta ≤ j := hm.out.p2
        have hp3 : fu ≤ j := hm.out.p3
        have hp4 : mo ≤ j := hm.out.p4
        have HP := Lib.hid hp
        obtain ⟨Am, capm, rfl, hnc, hcm⟩ := hp.sg.form
        obtain ⟨g, o, rfl, hg, hcell⟩ := HL.out j hjn
        have hcj : wr.cell? ⟨g, o + j, none⟩ = some (.int .i64 (f j)) := (hp.li.be.cell (p := ⟨g, o + j, none⟩) hg).trans hcell
        have HCELL := Lib.hid hcell
        clear hcell hp hcm
        go_upto_block 2 with fail
        go_cut [6, 8, 9, 10, 11, 12] (fun mv v8 v9 v10 v11 v12 wc => ∃ (zs' : List Int) (s' : QS), v8 = .int .i64 s'.most ∧ v9 = .int .i64 s'.put ∧ v10 = .int .i64 s'.taken ∧ v11 = .int .i64 s'.full ∧ v12 = .bool s'.closed ∧ Hid (Md w wc (w.heap.size + 1) w.heap.size room (j + 1) zs' s' mv))
        case first =>
          by_cases h31 : bits .and .i64 (f j) 31 = 31
          · have e31 : (bits .and .i64 (f j) 31 == 31) = true := by simpa using h31
            clear h31
            go_wp2_with fail
            refine (close_any _ _ ob room zs _ _ HP.out.li.qu).mono ?_
            rintro e w3 ⟨rfl, hl⟩
            obtain ⟨ob2, hp⟩ := HP.out.left hl
            have HM2 : Hid (Md w w3 (w.heap.size + 1) w.heap.size room (j + 1) zs ⟨true, mo, pu, ta, fu⟩ (.slice Am zs.length capm)) := ⟨⟨ob2, om, hp⟩, hle, by omega, by simp; omega, by simp; omega, by simp; omega, by simp; omega⟩
            clear hl hp
            go_wp2
            go_meet
            exact ⟨zs, ⟨true, mo, pu, ta, fu⟩, rfl, rfl, rfl, rfl, rfl, HM2⟩
          · have e31 : (bits .and .i64 (f j) 31 == 31) = false := by simpa using h31
            clear h31
            rcases (show 0 < bits .and .i64 (f j) 3 ∨ bits .and .i64 (f j) 3 ≤ 0 from by omega) with h3 | h3
            · cases cl with
              | true =>
                go_wp2_with fail
                refine (canPut_any _ _ ob room zs _ _ HP.out.li.qu false rfl).mono ?_
                rintro e w' ⟨rfl, rfl⟩
                go_wp2_with fail
                refine (put_closed _ _ ob room zs _ _ (f j) HP.out.li.qu rfl).mono ?_
                rintro e w' ⟨rfl, rfl⟩
                go_wp2
                go_meet
                exact ⟨zs, ⟨true, mo, pu, ta, fu⟩, rfl, rfl, rfl, rfl, rfl, hm.out.mono (by omega)⟩
              | false =>
                rcases Nat.lt_or_ge zs.length room with hlt | hge
                · have hcp : (!false && decide (zs.length < room)) = true := by simpa using hlt
                  have HCP := Lib.hid hcp
                  clear hcp
                  go_wp2_with fail
                  refine (canPut_any _ _ ob room zs _ _ HP.out.li.qu true HCP.out).mono ?_
                  rintro e w' ⟨rfl, rfl⟩
                  go_wp2_with fail
                  refine (put_yes _ _ ob room zs _ _ (f j) HP.out.li.qu rfl hlt hr2 (by simp; omega) (by simp; omega)).mono ?_
                  rintro e w3 ⟨rfl, hl⟩
                  obtain ⟨ob2, hp⟩ := HP.out.left hl
                  have HP2 := Lib.hid hp
                  have hcj2 : w3.cell? ⟨g, o + j, none⟩ = some (.int .i64 (f j)) := (hp.li.be.cell (p := ⟨g, o + j, none⟩) hg).trans HCELL.out
                  have hgw : g < w3.heap.size := by have := hp.li.be.size; omega
                  clear hl hp hcj
                  go_wp2_with (at_builtin; refine wpList_append_seg _ rfl _ _ 22 rfl 3 i0 (.int .i64 0) 1 8 Try.underlying22 hi0 hz0 hz1 hz2 rfl (by decide) _ _ _ _ rfl (HP2.out.sg.alloc _) ⟨w3.heap.size, 0, none⟩ 1 1 [.int .i64 (f j)] rfl rfl (Fifo.one_news _ _) (by simp [Value.oneCell']) (by decide) (by unfold maxLen; omega) (by omega) ?_; intro mv2 w4 om2 hs2 ht2 ho2; have HP3 := Lib.hid (HP2.out.more hs2 ht2 ho2); obtain ⟨Am2, capm2, rfl, hnc2, _⟩ := hs2.form; clear hs2 ht2 ho2)
                  all_goals
                    go_meet
                    have hM : Md w w4 (w.heap.size + 1) w.heap.size room (j + 1) (zs ++ [f j]) ⟨false, max mo (zs.length + 1), pu + 1, ta, fu⟩ (.slice Am2 (zs.length + 1) capm2) := ⟨⟨ob2, om2, HP3.out⟩, by simp; omega, by simp; omega, by simp; omega, by simp; omega, by simp; omega, by simp; omega⟩
                    exact ⟨zs ++ [f j], ⟨false, max mo (zs.length + 1), pu + 1, ta, fu⟩, i64_of (by simp only; omega), i64_of (by simp), rfl, rfl, rfl, hM⟩
                · have hcp : (!false && decide (zs.length < room)) = false := by simp; omega
                  have HCP := Lib.hid hcp
                  clear hcp
                  go_wp2_with fail
                  refine (canPut_any _ _ ob room zs _ _ HP.out.li.qu false HCP.out).mono ?_
                  rintro e w' ⟨rfl, rfl⟩
                  go_wp2_with fail
                  refine (put_full _ _ ob room zs _ _ (f j) HP.out.li.qu rfl hge (by simp; omega)).mono ?_
                  rintro e w3 ⟨rfl, hl⟩
                  obtain ⟨ob2, hp⟩ := HP.out.left hl
                  have HM2 : Hid (Md w w3 (w.heap.size + 1) w.heap.size room (j + 1) zs ⟨false, mo, pu, ta, fu + 1⟩ (.slice Am zs.length capm)) := ⟨⟨ob2, om, hp⟩, hle, by omega, by simp; omega, by simp; omega, by simp; omega, by simp; omega⟩
                  clear hl hp
                  go_wp2
                  go_meet
                  exact ⟨zs, ⟨false, mo, pu, ta, fu + 1⟩, rfl, rfl, rfl, i64_of (by simp), rfl, HM2⟩
            · cases zs with
              | nil =>
                go_wp2_with fail
                refine (canTake_any _ _ ob room [] _ _ HP.out.li.qu false rfl).mono ?_
                rintro e w' ⟨rfl, rfl⟩
                go_wp2_with fail
                cases cl with
                | true =>
                  refine (take_closed _ _ ob room [] _ _ HP.out.li.qu rfl rfl).mono ?_
                  rintro e w' ⟨rfl, rfl⟩
                  go_wp2
                  go_roundg (gk - 1)
                  case measure => omega
                  case rel => exact ⟨j + 1, [], ⟨true, mo, pu, ta, fu⟩, by omega, by omega, by go_num, rfl, rfl, rfl, rfl, rfl, hm.out.mono (by omega)⟩
                | false =>
                  refine (take_blocked _ _ ob room [] _ _ HP.out.li.qu rfl rfl).mono ?_
                  rintro e w' ⟨rfl, rfl⟩
                  go_wp2
                  go_roundg (gk - 1)
                  case measure => omega
                  case rel => exact ⟨j + 1, [], ⟨false, mo, pu, ta, fu⟩, by omega, by omega, by go_num, rfl, rfl, rfl, rfl, rfl, hm.out.mono (by omega)⟩
              | cons x r =>
                have hlr : r.length < room := by simp only [List.length_cons] at hle; omega
                have hlj : r.length ≤ j := by simp only [List.length_cons] at hln; omega
                obtain ⟨gm, o2, capm', hv, _, _, _, _, _⟩ := HP.out.sg.shape (by simp)
                injection hv with e1 _ e3
                subst e1 e3
                have hct : decide (0 < (x :: r).length) = true := by simp
                have HCT := Lib.hid hct
                clear hct
                by_cases hcap : capm = 1
                all_goals
                  go_wp2_with fail
                  refine (canTake_any _ _ ob room (x :: r) _ _ HP.out.li.qu true HCT.out).mono ?_
                  rintro e w' ⟨rfl, rfl⟩
                  go_wp2_with fail
                  refine (take_yes _ _ ob room _ _ x r HP.out.li.qu (by omega) (by simp only; omega)).mono ?_
                  rintro e w3 ⟨rfl, hl⟩
                  obtain ⟨ob2, hp⟩ := HP.out.left hl
                  have HP2 := Lib.hid hp
                  have hc0 : w3.cell? ⟨gm, o2, none⟩ = some (.int .i64 x) := by
                    obtain ⟨g', o', cap', hv, _, _, _, hc, _⟩ := hp.sg.shape (by simp)
                    injection hv with e1 _ _
                    injection e1 with e1
                    injection e1 with e1 e2
                    subst e1 e2
                    exact hc 0 _ (by simp)
                  clear hl hp hcj
                  go_wp2
                  go_meet
                · subst hcap
                  have hr0 : r = [] := List.eq_nil_of_length_eq_zero (by simp only [List.length_cons] at hnc; omega)
                  subst hr0
                  have hM : Md w w3 (w.heap.size + 1) w.heap.size room (j + 1) [] ⟨cl, mo, pu, ta + 1, fu⟩ (.slice (some ⟨gm, o2, none⟩) 0 0) := ⟨⟨ob2, none, HP2.out.less (seg_zero _ _ _) (.inr rfl)⟩, by simp, by simp, by simp; omega, by simp; omega, by simp; omega, by simp; omega⟩
                  exact ⟨[], ⟨cl, mo, pu, ta + 1, fu⟩, rfl, rfl, i64_of (by simp), rfl, rfl, hM⟩
                · have hM : Md w w3 (w.heap.size + 1) w.heap.size room (j + 1) r ⟨cl, mo, pu, ta + 1, fu⟩ (.slice (some ⟨gm, o2 + 1, none⟩) r.length (capm - 1)) :=
                    ⟨⟨ob2, om, HP2.out.less (seg_rest HP2.out.sg (by simp only [List.length_cons] at hnc; omega)) (.inl rfl)⟩, by omega, by omega, by simp; omega, by simp; omega, by simp; omega, by simp; omega⟩
                  exact ⟨r, ⟨cl, mo, pu, ta + 1, fu⟩, rfl, rfl, i64_of (by simp), rfl, rfl, hM⟩
        case rest =>
          clear hm HP hle hln hp1 hp2 hp3 hp4 hnc hcj HCELL
          obtain ⟨zs', ⟨cl', mo', pu', ta', fu'⟩, rfl, rfl, rfl, rfl, rfl, hm'⟩ := hcut
          obtain ⟨ob', om', hp⟩ := hm'.out.pr
          have hle := hm'.out.le
          have HP := Lib.hid hp
          obtain ⟨Am', capm', rfl, hnc, hcm⟩ := hp.sg.form
          have hzl : zs'.length ≤ 1024 := by omega
          clear hp hcm
          go_wp2_with fail
          refine (counts_any _ _ ob' room zs' _ _ HP.out.li.qu).mono ?_
          rintro e w3 ⟨rfl, nq, rfl⟩
          have HM3 : Hid (Md w (wc.drewN nq) (w.heap.size + 1) w.heap.size room (j + 1) zs' ⟨cl', mo', pu', ta', fu'⟩ (.slice Am' zs'.length capm')) := ⟨⟨ob', om', HP.out.drewN nq⟩, hm'.out.le, hm'.out.ln, hm'.out.p1, hm'.out.p2, hm'.out.p3, hm'.out.p4⟩
          have HP3 := Lib.hid (HP.out.drewN nq)
          clear HP hm'
          generalize wc.drewN nq = w3 at HM3 HP3 ⊢
          have HQ : Hid (decide (zs'.length = 0) = ((zs'.length : Int) == 0)) := by show decide (zs'.length = 0) = ((zs'.length : Int) == 0); rw [Bool.eq_iff_iff]; simp
          go_wp2_with fail
          refine (len_any _ _ ob' room zs' _ _ HP3.out.li.qu).mono ?_
          rintro e w' ⟨rfl, rfl⟩
          go_wp2_with fail
          refine (room_any _ _ ob' room zs' _ _ HP3.out.li.qu).mono ?_
          rintro e w' ⟨rfl, rfl⟩
          go_wp2_with fail
          refine (most_any _ _ ob' room zs' _ _ HP3.out.li.qu).mono ?_
          rintro e w' ⟨rfl, rfl⟩
          go_wp2_with fail
          cases cl' with
          | true =>
            refine (closed_any _ _ ob' room zs' _ _ HP3.out.li.qu true rfl).mono ?_
            rintro e w' ⟨rfl, rfl⟩
            go_wp2_with fail
            refine (done_any _ _ ob' room zs' _ _ HP3.out.li.qu ((zs'.length : Int) == 0) (by rw [HQ.out]; rfl)).mono ?_
            rintro e w' ⟨rfl, rfl⟩
            go_wp2
            go_roundg (gk - 1)
            case measure => omega
            case rel => exact ⟨j + 1, zs', ⟨true, mo', pu', ta', fu'⟩, by omega, by omega, by go_num, rfl, rfl, rfl, rfl, rfl, HM3⟩
          | false =>
            refine (closed_any _ _ ob' room zs' _ _ HP3.out.li.qu false rfl).mono ?_
            rintro e w' ⟨rfl, rfl⟩
            go_wp2_with fail
            refine (done_any _ _ ob' room zs' _ _ HP3.out.li.qu false rfl).mono ?_
            rintro e w' ⟨rfl, rfl⟩
            go_wp2
            go_roundg (gk - 1)
            case measure => omega
            case rel => exact ⟨j + 1, zs', ⟨false, mo', pu', ta', fu'⟩, by omega, by omega, by go_num, rfl, rfl, rfl, rfl, rfl, HM3⟩
      · by_cases hjn' : j < n
        all_goals
          try have e80 : decide ((j : Int) < 80) = false := by simp; omega
          obtain ⟨ob, om, hp⟩ := hm.out.pr
          have HBE := Lib.hid hp.li.be
          clear hp
          go_wp2_with fail
          refine (awake_any _).mono ?_
          rintro e w2 ⟨rfl, hb⟩
          go_wp2
          go_ret
          exact ⟨rfl, HBE.out.trans (hb.mono HBE.out.size)⟩
end Go.Proofs.Ytmkofjdmjilpiab.Qu
