/- The walk of the law TicketPlays. -/
import Derived.Test.YtmkofjdmjilpiaaTickE
import Derived.Deep.LoopGhost
import Derived.Deep.RegionLaw
namespace Go.Proofs.Ytmkofjdmjilpiaa.Tick
open Go.RowKit Go.Proofs.Ytmkofjdmjilpiaa
set_option linter.unusedVariables false

/-- What holds between two rounds. -/
structure Md (w0 w : World) (j : Nat) (zs ws : List Int) (t : Nat) (mv : Value) : Prop where
  pr : ∃ ob om, Pr w0 w w0.heap.size zs t ob ws om mv
  dr : zs.drop 1 = ws
  ln : zs.length ≤ j
  tn : t ≤ j
  nn : ∀ x ∈ zs, 0 ≤ x ∧ x ≤ 6
theorem Md.mono {w0 w : World} {j j' : Nat} {zs ws : List Int} {t : Nat} {mv : Value} (h : Md w0 w j zs ws t mv) (hj : j ≤ j') : Md w0 w j' zs ws t mv := ⟨h.pr, h.dr, Nat.le_trans h.ln hj, Nat.le_trans h.tn hj, h.nn⟩
theorem Md.wl {w0 w : World} {j : Nat} {zs ws : List Int} {t : Nat} {mv : Value} (h : Md w0 w j zs ws t mv) : ws.length = zs.length - 1 := by rw [← h.dr, List.length_drop]
section
variable {w0 w : World} {j t : Nat} {zs ws r : List Int} {x y : Int} {mv : Value} {ob om : Option Nat}
theorem Md.ask0 (hz : zs = []) (hw : ws = []) (h : Pr w0 w w0.heap.size (zs ++ [x]) (if zs = [] then t + 1 else t) ob ws om mv) (h0 : 0 ≤ x) (h6 : x ≤ 6) (ht : t ≤ j) : Md w0 w (j + 1) [x] [] (t + 1) mv := by
  subst hz hw
  exact ⟨⟨ob, om, by simpa using h⟩, rfl, by simp, by omega, fun z hz => by simp at hz; omega⟩
theorem Md.ask1 (hd : zs.drop 1 = ws) (hz : zs ≠ []) (hn : ∀ x ∈ zs, 0 ≤ x ∧ x ≤ 6) (hl : zs.length ≤ j) (h : Pr w0 w w0.heap.size (zs ++ [x]) (if zs = [] then t + 1 else t) ob (ws ++ [x]) om mv) (h0 : 0 ≤ x) (h6 : x ≤ 6) (ht : t ≤ j) : Md w0 w (j + 1) (zs ++ [x]) (ws ++ [x]) t mv := by
  rw [if_neg hz] at h
  refine ⟨⟨ob, om, h⟩, ?_, by simp; omega, by omega, fun z hz' => ?_⟩
  · cases zs with
    | nil => exact absurd rfl hz
    | cons y r => simp at hd ⊢; exact hd
  · rcases List.mem_append.1 hz' with h1 | h1
    · exact hn z h1
    · simp at h1; omega
theorem whoV_app (hz : zs ≠ []) : whoV (zs ++ [x]) = whoV zs := by
  cases zs with
  | nil => exact absurd rfl hz
  | cons y r => rfl
theorem Md.give0 (h : Pr w0 w w0.heap.size ([] : List Int) (if ([] : List Int) = [] then t else t + 1) ob [] om mv) (ht : t ≤ j) : Md w0 w (j + 1) [] [] t mv :=
  ⟨⟨ob, om, by simpa using h⟩, rfl, by simp, by omega, fun _ h => by cases h⟩
theorem Md.give1 (h : Pr w0 w w0.heap.size (y :: r) (if (y :: r) = [] then t else t + 1) ob r om mv) (hn : ∀ z ∈ x :: y :: r, 0 ≤ z ∧ z ≤ 6) (hl : (x :: y :: r).length ≤ j) (ht : t ≤ j) : Md w0 w (j + 1) (y :: r) r (t + 1) mv :=
  ⟨⟨ob, om, by simpa using h⟩, rfl, by simp at hl ⊢; omega, by omega, fun z hz => hn z (List.mem_cons_of_mem _ hz)⟩
theorem fresh_seg {wr w1 : World} {v1 : Value} {r : List Int} {ob1 : Option Nat} (hs1 : Seg w1 3 1 v1 (0 + r.length) ([] ++ (List.range r.length).map (fun k => Value.int .i64 (r.getD k 0))) ob1)
    (ho1 : ob1 = none ∨ ∃ g, ob1 = some g ∧ wr.heap.size + 1 ≤ g) (hbw : Below wr.heap.size wr w1) : ∃ ob2, Seg w1 3 1 v1 r.length (r.map (Value.int .i64)) ob2 ∧ (∀ g, ob2 = some g → wr.heap.size ≤ g) ∧ Below wr.heap.size wr w1 := by
  refine ⟨ob1, ?_, fun g hg => ?_, hbw⟩
  · have e : (List.range r.length).map (fun k => Value.int .i64 (r.getD k 0)) = r.map (Value.int .i64) := by
      apply List.ext_getElem
      · simp
      · intro i h1 h2
        simp at h2
        simp [List.getD, List.getElem?_eq_getElem h2]
    rw [e] at hs1
    simpa using hs1
  · rcases ho1 with h | ⟨g', h, h'⟩
    · rw [h] at hg; cases hg
    · rw [h] at hg; injection hg with hg; omega
end
set_option maxRecDepth 100000 in
set_option maxHeartbeats 16000000 in
theorem plays_law (A : Option Addr) (n c : Nat) (f : Nat → Int) (ln : n ≤ c) (lc : c ≤ 9223372036854775807) (lb : ∀ k, -9223372036854775808 ≤ f k ∧ f k ≤ 9223372036854775807) {w : World} (lies : Lies w w.heap.size A n (fun k => .int .i64 (f k))) :
    Calls Try.prog 7 #[.slice A n c] w fun e w' => e = .returned (.bool true) ∧ Below w.heap.size w w' := by
  have HL := Lib.hid lies
  have HLB := Lib.hid lb
  clear lies lb
  obtain ⟨i0, hi0, hz0, hz1, hz2⟩ := info_parts int_info
  go_enter Try.func7, Try.ntmps7
  go_wp2_with fail
  refine (new_any _).mono ?_
  rintro e w1 ⟨rfl, rfl⟩
  have hm0 : Md w ((w.alloc (.cells #[.slice none 0 0, .int .i64 0] 78)).alloc (.cells #[] 3)) 0 [] [] 0 (.slice (some ⟨w.heap.size + 1, 0, none⟩) 0 0) := ⟨⟨none, none, pr_start w⟩, rfl, by simp, by simp, fun _ h => by cases h⟩
  have HM0 := Lib.hid hm0
  clear hm0
  go_wp2
  generalize (w.alloc (.cells #[.slice none 0 0, .int .i64 0] 78)).alloc (.cells #[] 3) = w1 at HM0 ⊢
  go_loopg [4, 5, 6, 7] n (fun gk who mv tn i wr => ∃ (j : Nat) (zs ws : List Int) (t : Nat), j + gk = n ∧ j ≤ 80 ∧ i = .int .i64 j ∧ who = .int .i64 (whoV zs) ∧ tn = .int .i64 t ∧ Hid (Md w wr j zs ws t mv))
  case atStart => exact ⟨0, [], [], 0, by omega, by omega, rfl, rfl, rfl, HM0⟩
  case round =>
    obtain ⟨j, zs, ws, t, hj, hj80, rfl, rfl, rfl, hm⟩ := hrel
    by_cases hjn : j < n ∧ j < 80
    · obtain ⟨hjn, h80⟩ := hjn
      have e80 : decide ((j : Int) < 80) = true := by simp; omega
      obtain ⟨ob, om, hp⟩ := hm.out.pr
      have hle := hm.out.ln
      have htn := hm.out.tn
      have HNN := Lib.hid hm.out.nn
      have HDR := Lib.hid hm.out.dr
      have HWL := Lib.hid hm.out.wl
      have HP := Lib.hid hp
      obtain ⟨Am, capm, rfl, hnc, hcm⟩ := hp.sg.form
      have hwl : ws.length ≤ 80 := by have := HWL.out; omega
      obtain ⟨g, o, rfl, hg, hcell⟩ := HL.out j hjn
      have hcj : wr.cell? ⟨g, o + j, none⟩ = some (.int .i64 (f j)) := (hp.li.be.cell (p := ⟨g, o + j, none⟩) hg).trans hcell
      have h7 := and7 (f j)
      obtain ⟨x, hx⟩ : ∃ x, f j % 8 - 1 = x := ⟨_, rfl⟩
      have hx0 : -1 ≤ x ∧ x ≤ 6 := by omega
      obtain ⟨hxa, hxb⟩ := hx0
      have HX := Lib.hid hx
      clear hcell hp hx hcm
      go_upto_region 5 with fail
      go_cut [8] (fun s8 wx => s8 = .int .i64 x ∧ wr = wx)
      case first =>
        go_wp2
        go_meet
        exact ⟨by rw [HX.out], rfl⟩
      case rest =>
        obtain ⟨rfl, rfl⟩ := hcut
        go_wp2
        go_loop [9, 10] (fun s i => ∃ (k : Nat) (q : Bool), k ≤ ws.length ∧ i = .int .i64 k ∧ s = .bool q ∧ Hid (inK (whoV zs) ws x k = q)) (fun _ i => ws.length - (intOf i).toNat)
        case atStart => exact ⟨0, _, by omega, rfl, rfl, inK_zero _ _ x⟩
        case round =>
          obtain ⟨k, q, hk, rfl, rfl, hq⟩ := hrel
          by_cases hlt : k < ws.length
          · obtain ⟨gm, o2, capm', hv, _, _, _, hc, _⟩ := HP.out.sg.shape (by omega)
            injection hv with e1 _ e3
            subst e1 e3
            have hck : wr.cell? ⟨gm, o2 + k, none⟩ = some (.int .i64 ws[k]) := hc k _ (by simp [hlt])
            have HQ := Lib.hid (inK_succ (whoV zs) ws x k hlt)
            clear hc
            cases q with
            | true =>
              go_wp2
              go_round
              case measure => simp [intOf]; omega
              case rel => exact ⟨k + 1, true, by omega, by go_num, rfl, by rw [HQ.out, hq.out]; rfl⟩
            | false =>
              go_wp2
              go_round
              case measure => simp [intOf]; omega
              case rel => exact ⟨k + 1, _, by omega, by go_num, rfl, by rw [HQ.out, hq.out]; rfl⟩
          · go_upto_if 57 with fail
            go_cut [4, 5, 6] (fun s4 s5 s6 wc => ∃ (zs' ws' : List Int) (t' : Nat), s4 = .int .i64 (whoV zs') ∧ s6 = .int .i64 t' ∧ Hid (Md w wc (j + 1) zs' ws' t' s5))
            case first =>
              rcases and8 (f j) with h8 | h8
              · have h8' : bits BinOp.and IntKind.i64 (f j) 8 ≤ 0 := by omega
                clear h8
                by_cases hxw : 0 ≤ x ∧ x = whoV zs
                · obtain ⟨hx, hw⟩ := hxw
                  rcases who_cases zs ws HDR.out HNN.out with ⟨hz, _, hv⟩ | ⟨hz, hv⟩
                  · omega
                  · have hq1 : (x == whoV zs) = true := by simpa using hw
                    cases ws with
                    | nil =>
                      have hzx : zs = [x] := by rw [hz, ← hw]
                      have HZX := Lib.hid hzx
                      have HLK : Hid (Lk wr w.heap.size [x] t ob) := by rw [← hzx]; exact HP.out.li.lk
                      clear hz hw hzx
                      go_wp2_with fail
                      refine (give_yes w.heap.size t x [] ob _ HLK.out (by decide) hx (by omega)).mono ?_
                      rintro e w2 ⟨rfl, hl⟩
                      obtain ⟨ob2, hp2⟩ := HP.out.left hl
                      have HP2 := Lib.hid hp2
                      clear hp2 hl
                      go_wp2
                      go_meet
                      exact ⟨[], [], t, rfl, rfl, Md.give0 HP2.out htn⟩
                    | cons y r =>
                      have hzx : zs = x :: y :: r := by rw [hz, ← hw]
                      have HZX := Lib.hid hzx
                      have HLK : Hid (Lk wr w.heap.size (x :: y :: r) t ob) := by rw [← hzx]; exact HP.out.li.lk
                      have HNX : Hid (∀ z ∈ x :: y :: r, 0 ≤ z ∧ z ≤ 6) := by rw [← hzx]; exact HNN.out
                      have HLX : Hid ((x :: y :: r).length ≤ j) := by rw [← hzx]; exact hle
                      clear hz hw hzx
                      have HCAP : Hid (∃ gm o2, Am = some ⟨gm, o2, none⟩ ∧ gm < wr.heap.size ∧ 1 ≤ capm ∧ wr.cell? ⟨gm, o2, none⟩ = some (.int .i64 y) ∧ Lies wr wr.heap.size (some ⟨gm, o2 + 1, none⟩) r.length (fun k => .int .i64 (r.getD k 0))) := by
                        obtain ⟨gm, o2, capm', hv, hom, hn1, _, hc, _⟩ := HP.out.sg.shape (by simp)
                        injection hv with e1 _ e3
                        subst e1 e3
                        refine ⟨gm, o2, rfl, HP.out.sg.lt gm hom, by simp at hn1; omega, hc 0 _ (by simp), fun k hk => ⟨gm, o2 + 1, rfl, HP.out.sg.lt gm hom, ?_⟩⟩
                        have := hc (k + 1) (.int .i64 (r.getD k 0)) (by simp [List.getElem?_eq_getElem hk])
                        rw [show o2 + 1 + k = o2 + (k + 1) by omega]
                        exact this
                      obtain ⟨gm, o2, rfl, hgm, hc1, hc0, hlr⟩ := HCAP.out
                      have hr80 : r.length ≤ 80 := by simp at hwl; omega
                      have HLR := Lib.hid hlr
                      have hl1 : (1 : Int) ≤ (r.length : Int) + 1 := by omega
                      have hl2 : (1 : Int) ≤ ((y :: r).length : Int) := by simp; omega
                      clear HCAP hlr
                      go_upto_region 28 with fail
                      go_cut [4, 5] (fun s4 s5 wc => s4 = .int .i64 y ∧ Hid (∃ ob2, Seg wc 3 1 s5 r.length (r.map (Value.int .i64)) ob2 ∧ (∀ g, ob2 = some g → wr.heap.size ≤ g) ∧ Below wr.heap.size wr wc))
                      case first =>
                        by_cases hcap : capm = 1
                        · have hr0 : r = [] := List.eq_nil_of_length_eq_zero (by simp at hnc; omega)
                          subst hcap hr0
                          have hl0 : ∀ A, Lies wr wr.heap.size A 0 (fun k => .int .i64 (([] : List Int).getD k 0)) := fun A k hk => by omega
                          have HL0 := Lib.hid hl0
                          clear hl0
                          go_region_law (refine step_append_lies _ rfl (.tmp 91) (.tmp 93) 28 rfl 3 i0 (.int .i64 0) 8 Try.underlying28 hi0 hz0 hz1 hz2 rfl _ 0 [] none rfl (seg_zero _ _ _) wr.heap.size _ 0 _ (fun k => .int .i64 (([] : List Int).getD k 0)) rfl ((HL0.out _).below (by go_grown)) (fun _ => rfl) (by unfold maxLen; omega) (by omega) ?_; intro v1 w1 ob1 hs1 ht1 ho1; have hbw : Below wr.heap.size wr w1 := below_turn (by go_grown) ht1; have hcw : w1.cell? ⟨gm, o2, none⟩ = some (.int .i64 y) := (hbw.cell (p := ⟨gm, o2, none⟩) hgm).trans hc0)
                          all_goals
                            go_wp2_with fail
                            go_meet
                            exact ⟨rfl, fresh_seg (r := []) hs1 (by simpa using ho1) hbw⟩
                        · go_region_law (refine step_append_lies _ rfl (.tmp 91) (.tmp 93) 28 rfl 3 i0 (.int .i64 0) 8 Try.underlying28 hi0 hz0 hz1 hz2 rfl _ 0 [] none rfl (seg_zero _ _ _) wr.heap.size _ r.length _ (fun k => .int .i64 (r.getD k 0)) rfl (HLR.out.below (by go_grown)) (fun _ => rfl) (by unfold maxLen; omega) (by omega) ?_; intro v1 w1 ob1 hs1 ht1 ho1; have hbw : Below wr.heap.size wr w1 := below_turn (by go_grown) ht1; have hcw : w1.cell? ⟨gm, o2, none⟩ = some (.int .i64 y) := (hbw.cell (p := ⟨gm, o2, none⟩) hgm).trans hc0)
                          all_goals
                            go_wp2_with fail
                            go_meet
                            exact ⟨rfl, fresh_seg hs1 (by simpa using ho1) hbw⟩
                      case rest =>
                        obtain ⟨rfl, hs⟩ := hcut
                        obtain ⟨omf, hsf, hof, hbf⟩ := hs.out
                        have HPF := Lib.hid (HP.out.fresh hbf hsf hof)
                        have HLKF : Hid (Lk wc w.heap.size (x :: y :: r) t ob) := by rw [← HZX.out]; exact HPF.out.li.lk
                        clear hs hsf hof hbf
                        go_wp2_with fail
                        refine (give_yes w.heap.size t x (y :: r) ob _ HLKF.out (by omega) hx (by omega)).mono ?_
                        rintro e w2 ⟨rfl, hl⟩
                        obtain ⟨ob2, hp2⟩ := HPF.out.left hl
                        have HP2 := Lib.hid hp2
                        clear hp2 hl
                        go_wp2
                        go_meet
                        exact ⟨y :: r, r, t + 1, rfl, by go_num, Md.give1 HP2.out HNX.out HLX.out htn⟩
                · rcases (show x < 0 ∨ (0 ≤ x ∧ whoV zs ≠ x) from by omega) with hx | ⟨hx, hw⟩
                  · go_wp2_with fail
                    refine (give_neg w.heap.size x _ hx).mono ?_
                    rintro e w' ⟨rfl, rfl⟩
                    go_wp2
                    go_meet
                    exact ⟨zs, ws, t, rfl, rfl, hm.out.mono (by omega)⟩
                  · have hq1 : (x == whoV zs) = false := by simp; omega
                    have HW := Lib.hid hw
                    clear hw hxw
                    go_wp2_with fail
                    refine (give_no w.heap.size t zs ob x _ HP.out.li.lk (by omega) hx HW.out).mono ?_
                    rintro e w' ⟨rfl, rfl⟩
                    go_wp2
                    go_meet
                    exact ⟨zs, ws, t, rfl, rfl, hm.out.mono (by omega)⟩
              · rcases (show x < 0 ∨ 0 ≤ x from by omega) with hx | hx
                · go_wp2_with fail
                  refine (ask_neg w.heap.size x _ hx).mono ?_
                  rintro e w' ⟨rfl, rfl⟩
                  go_wp2
                  go_meet
                  exact ⟨zs, ws, t, rfl, rfl, hm.out.mono (by omega)⟩
                · have hin := inK_all zs ws HDR.out x hx k (by omega)
                  have HIN : Hid (decide (x ∈ zs) = q) := by rw [← hin, hq.out]; rfl
                  clear hin
                  cases q with
                  | true =>
                    have hmem := of_decide_eq_true HIN.out
                    go_wp2_with fail
                    refine (ask_twice w.heap.size t zs ob x _ HP.out.li.lk (by omega) hx hmem).mono ?_
                    rintro e w' ⟨rfl, rfl⟩
                    go_wp2
                    go_meet
                    exact ⟨zs, ws, t, rfl, rfl, hm.out.mono (by omega)⟩
                  | false =>
                    have hmem := of_decide_eq_false HIN.out
                    rcases who_cases zs ws HDR.out HNN.out with ⟨hz, hw, hv⟩ | ⟨hz, hv⟩
                    · have HV := Lib.hid hz
                      have HW := Lib.hid hw
                      clear hz hw
                      go_wp2_with fail
                      refine (ask_yes w.heap.size t zs ob x _ HP.out.li.lk (by omega) hx hmem (by omega)).mono ?_
                      rintro e w2 ⟨rfl, hl⟩
                      obtain ⟨ob2, hp2⟩ := HP.out.left hl
                      have HP2 := Lib.hid hp2
                      clear hp2 hl hmem
                      simp only [HV.out, if_true]
                      go_wp2
                      go_meet
                      exact ⟨[x], [], t + 1, rfl, by go_num, Md.ask0 HV.out HW.out HP2.out hx hxb htn⟩
                    · have hne : zs ≠ [] := by rw [hz]; simp
                      have HNE := Lib.hid hne
                      have HIF := Lib.hid (show (if zs = [] then (0 : Int) else 14) = 14 from if_neg hne)
                      clear hz hne
                      go_wp2_with (at_builtin; refine wpList_append_seg _ rfl _ _ 28 rfl 3 i0 (.int .i64 0) 1 8 Try.underlying28 hi0 hz0 hz1 hz2 rfl (by decide) _ _ _ _ rfl (HP.out.sg.alloc _) ⟨wr.heap.size, 0, none⟩ 1 1 [.int .i64 x] rfl rfl (one_news _ _) (by simp [Value.oneCell']) (by decide) (by unfold maxLen; omega) (by omega) ?_; intro mv2 w2 om2 hs2 ht2 ho2; have HP2 := Lib.hid (HP.out.more hs2 ht2 ho2); clear hs2 ht2 ho2)
                      refine (ask_yes w.heap.size t zs ob x _ HP2.out.li.lk (by omega) hx hmem (by omega)).mono ?_
                      rintro e w3 ⟨rfl, hl⟩
                      obtain ⟨ob3, hp3⟩ := HP2.out.left hl
                      have HP3 := Lib.hid hp3
                      clear hp3 hl hmem
                      simp only [HIF.out]
                      go_wp2
                      go_meet
                      exact ⟨zs ++ [x], ws ++ [x], t, by rw [whoV_app HNE.out], rfl, Md.ask1 HDR.out HNE.out HNN.out hle HP3.out hx hxb htn⟩
            case rest =>
              clear HX HDR HNN HWL HP hm hq hcj h7 hnc hwl hle htn hk hlt
              obtain ⟨zs', ws', t', rfl, rfl, hm'⟩ := hcut
              obtain ⟨ob', om', hp⟩ := hm'.out.pr
              have hle := hm'.out.ln
              have htn := hm'.out.tn
              have HDR := Lib.hid hm'.out.dr
              have HWL := Lib.hid hm'.out.wl
              have HP := Lib.hid hp
              obtain ⟨Am', capm', rfl, hnc, hcm⟩ := hp.sg.form
              have hwl : ws'.length ≤ 80 := by have := HWL.out; omega
              clear hp hcm
              go_wp2_with fail
              refine (who_any w.heap.size t' zs' ob' _ HP.out.li.lk (by omega)).mono ?_
              rintro e w' ⟨rfl, rfl⟩
              go_wp2_with fail
              refine (waiting_any w.heap.size t' zs' ob' _ HP.out.li.lk (by omega)).mono ?_
              rintro e w' ⟨rfl, rfl⟩
              rw [← HWL.out]
              go_wp2_with fail
              refine (times_any w.heap.size t' zs' ob' _ HP.out.li.lk).mono ?_
              rintro e w' ⟨rfl, rfl⟩
              go_wp2
              go_loop [13, 14, 15] (fun k _ _ => ∃ p : Nat, p ≤ 7 ∧ k = .int .i64 p) (fun k _ _ => 7 - (intOf k).toNat)
              case atStart => exact ⟨0, by omega, rfl⟩
              case round =>
                obtain ⟨p, hp7, rfl⟩ := hrel
                by_cases hlt : p < 7
                · go_wp2
                  go_loop [14, 15] (fun s i => ∃ (k : Nat) (q : Bool), k ≤ ws'.length ∧ i = .int .i64 k ∧ s = .bool q ∧ Hid (memK ws' (p : Int) k = q)) (fun _ i => ws'.length - (intOf i).toNat)
                  case atStart => exact ⟨0, _, by omega, rfl, rfl, memK_zero _ _⟩
                  case round =>
                    obtain ⟨k, q, hk, rfl, rfl, hq⟩ := hrel
                    by_cases hlt : k < ws'.length
                    · obtain ⟨gm, o2, capm', hv, _, _, _, hc, _⟩ := HP.out.sg.shape (by omega)
                      injection hv with e1 _ e3
                      subst e1 e3
                      have hck : wc.cell? ⟨gm, o2 + k, none⟩ = some (.int .i64 ws'[k]) := hc k _ (by simp [hlt])
                      have HQ := Lib.hid (memK_succ ws' (p : Int) k hlt)
                      clear hc
                      cases q with
                      | true =>
                        go_wp2
                        go_round
                        case measure => simp [intOf]; omega
                        case rel => exact ⟨k + 1, true, by omega, by go_num, rfl, by rw [HQ.out, hq.out]; rfl⟩
                      | false =>
                        go_wp2
                        go_round
                        case measure => simp [intOf]; omega
                        case rel => exact ⟨k + 1, _, by omega, by go_num, rfl, by rw [HQ.out, hq.out]; rfl⟩
                    · have HMK := Lib.hid ((memK_all ws' (p : Int) k (by omega)).symm.trans hq.out)
                      have HMD : Hid (decide ((p : Int) ∈ zs'.drop 1) = q) := by rw [HDR.out]; exact HMK.out
                      go_wp2_with fail
                      refine (waits_any w.heap.size t' zs' ob' (p : Int) _ HP.out.li.lk (by omega) q HMD.out).mono ?_
                      rintro e w' ⟨rfl, rfl⟩
                      go_wp2
                      go_round
                      case measure => simp [intOf]; omega
                      case rel => exact ⟨p + 1, by omega, by go_num⟩
                · go_wp2
                  go_roundg (gk - 1)
                  case measure => omega
                  case rel => exact ⟨j + 1, zs', ws', t', by omega, by omega, by go_num, rfl, rfl, hm'⟩
    · by_cases hjn' : j < n
      all_goals
        try have e80 : decide ((j : Int) < 80) = false := by simp; omega
        obtain ⟨ob, om, hp⟩ := hm.out.pr
        have HBE := Lib.hid hp.li.be
        clear hp
        go_wp2_with fail
        refine (awake_any _).mono ?_
        rintro e w2 ⟨rfl, hb⟩
        go_wp2
        go_ret
        exact ⟨rfl, HBE.out.trans (hb.mono HBE.out.size)⟩
end Go.Proofs.Ytmkofjdmjilpiaa.Tick
