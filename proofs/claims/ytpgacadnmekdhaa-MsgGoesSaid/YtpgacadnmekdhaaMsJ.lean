/- The walk of For. -/
import Derived.Test.YtpgacadnmekdhaaMsI
namespace Go.Proofs.Ytpgacadnmekdhaa.Ms
open Go.RowKit Go.Proofs.Ytpgacadnmekdhaa Go.Proofs.Ytpgacadnmekdhaa.Ev
set_option linter.unusedVariables false
set_option maxRecDepth 100000
set_option maxHeartbeats 8000000 in
theorem for_any (HT : TwinAny) (v : Value) (ms : List Mg) (part parts : Int) (w : World) (h : Lst w v ms) (hl : ms.length ≤ 20) (A : Option Addr) (cap : Nat) (hv : v = .slice A ms.length cap) :
    Calls Try.prog 54 #[.slice A ms.length cap, .int .i64 part, .int .i64 parts] w (ForEnd w (ms.filter fun m => goes m part (Hash.partsV parts))) := by
  subst hv
  have H := Lib.hid h
  have HTW := Lib.hid HT
  clear h HT
  obtain ⟨n, hn⟩ : ∃ n, ms.length = n := ⟨_, rfl⟩
  have HN := Lib.hid hn
  rw [hn] at hl ⊢
  clear hn
  obtain ⟨i0, hi0, hz0, hz1, hz2⟩ := info_parts msg_info
  go_enter Try.func54, Try.ntmps54
  go_wp2
  go_loopw [7, 12] (fun v i wr => ∃ (k : Nat) (ob : Option Nat) (ys : List Mg), k ≤ n ∧ i = .int .i64 k ∧ Hid (ForI w wr v ob ((ms.take k).filter fun m => goes m part (Hash.partsV parts)) ys)) (fun _ i _ => n - (intOf i).toNat)
  case atStart => exact ⟨0, none, [], by omega, rfl, Lib.hid ⟨Below.refl _ _, Seg.nil _ _ _, (fun _ h => by cases h), by simp, fun i a b h1 h2 => by simp at h2⟩⟩
  case round =>
    obtain ⟨k, ob, ys, hkn, rfl, hF⟩ := hrel
    have HF := Lib.hid hF.out
    clear hF
    by_cases hlt : k < n
    · have hki : (k : Int) < (n : Int) := by omega
      obtain ⟨m, hm⟩ : ∃ m, ms[k]? = some m := ⟨_, List.getElem?_eq_getElem (by rw [HN.out]; exact hlt)⟩
      have HM := Lib.hid hm
      have hL := H.out.call HF.out.be
      obtain ⟨g, o, cap', hv', _, _, hg, hc⟩ := hL.at hm
      injection hv' with e1 _ e3
      subst e1 e3
      have hok := hL.ok k m hm
      obtain ⟨mk, mt, mty, mkey, mtm, mq, mA, mc, mvs, mT, mid, meA, men, mec, mw, mcap⟩ := m
      obtain ⟨hq, hT2, hid, ⟨he1, he2, he3, he4, he5⟩, hsz, hkb, hvs⟩ := hok
      dsimp only at hq hT2 hid he1 he2 he3 he4 he5 hsz hkb hvs
      subst hq hid he1 he2 he3 he4 he5
      have c0 := hc 0 (.int .i64 mk) rfl
      have c1 := hc 1 (.int .i64 mt) rfl
      have c2 := hc 2 (.string mty) rfl
      have c3 := hc 3 (.string mkey) rfl
      have c4 := hc 4 (.int .i64 mtm) rfl
      have c5 := hc 5 (.int .i64 0) rfl
      have c6 := hc 6 (.slice mA mvs.length mc) rfl
      have c7 := hc 7 (.int .i64 mT) rfl
      have c8 := hc 8 (.string { data := #[] }) rfl
      have c9 := hc 9 (.slice none 0 0) rfl
      have c10 := hc 10 (.int .i64 0) rfl
      have c11 := hc 11 (.int .i64 0) rfl
      simp only [Nat.add_zero] at c0
      have HV : Hid (Vls wr mA mc mvs) := hvs
      clear hc hvs hL hm
      go_upto_region 5 with fail
      generalize hvn : mvs.length = vn at c6 ⊢
      have HVN := Lib.hid hvn
      have hF1 := HF.out.call ((Below.refl _ wr).alloc (Nat.le_refl _) (.cells #[.int .i64 mk, .int .i64 mt, .string mty, .string mkey, .int .i64 mtm, .int .i64 0, .slice mA vn mc, .int .i64 mT, .string { data := #[] }, .slice none 0 0, .int .i64 0, .int .i64 0] 85))
      have hv1 := HV.out.call ((Below.refl _ wr).alloc (Nat.le_refl _) (.cells #[.int .i64 mk, .int .i64 mt, .string mty, .string mkey, .int .i64 mtm, .int .i64 0, .slice mA vn mc, .int .i64 mT, .string { data := #[] }, .slice none 0 0, .int .i64 0, .int .i64 0] 85))
      have hr1 := Row.made wr 85 #[.int .i64 mk, .int .i64 mt, .string mty, .string mkey, .int .i64 mtm, .int .i64 0, .slice mA vn mc, .int .i64 mT, .string { data := #[] }, .slice none 0 0, .int .i64 0, .int .i64 0]
      clear c0 c1 c2 c3 c4 c5 c6 c7 c8 c9 c10 c11 HF HV hvn
      generalize wr.alloc (.cells #[.int .i64 mk, .int .i64 mt, .string mty, .string mkey, .int .i64 mtm, .int .i64 0, .slice mA vn mc, .int .i64 mT, .string { data := #[] }, .slice none 0 0, .int .i64 0, .int .i64 0] 85) = W1 at hF1 hv1 hr1 ⊢
      generalize wr.heap.size = b9 at hr1 ⊢
      have HF1 := Lib.hid hF1
      have HV1 := Lib.hid hv1
      have R9 := Lib.hid hr1
      clear hF1 hv1 hr1
      have c0 := R9.out.is 0 (v := .int .i64 mk) rfl
      have c1 := R9.out.is 1 (v := .int .i64 mt) rfl
      have c2 := R9.out.is 2 (v := .string mty) rfl
      have c3 := R9.out.is 3 (v := .string mkey) rfl
      have c4 := R9.out.is 4 (v := .int .i64 mtm) rfl
      have c5 := R9.out.is 5 (v := .int .i64 0) rfl
      have c6 := R9.out.is 6 (v := .slice mA vn mc) rfl
      have c7 := R9.out.is 7 (v := .int .i64 mT) rfl
      have c8 := R9.out.is 8 (v := .string { data := #[] }) rfl
      have c9 := R9.out.is 9 (v := .slice none 0 0) rfl
      have c10 := R9.out.is 10 (v := .int .i64 0) rfl
      have c11 := R9.out.is 11 (v := .int .i64 0) rfl
      obtain ⟨N, hN⟩ : ∃ N, Hash.partsV parts = N := ⟨_, rfl⟩
      have HNN := Lib.hid hN
      have hNp := Hash.partsV_pos parts
      rw [hN] at hNp
      clear hN
      obtain ⟨bg, hbg⟩ : ∃ b, goes ⟨mk, mt, mty, mkey, mtm, 0, mA, mc, mvs, mT, { data := #[] }, none, 0, 0, 0, 0⟩ part N = b := ⟨_, rfl⟩
      have HBG := Lib.hid hbg
      clear hbg
      go_cut [20] (fun s wx => s = .bool bg ∧ Hid (Below W1.heap.size W1 wx))
      case first =>
        by_cases hk1 : mk = 1
        · subst hk1
          go_wp2_with fail
          refine (targets_ev mt mtm 0 mT 0 0 mty mkey { data := #[] } mA none vn mc 0 0 _ parts (by omega)).mono ?_
          rintro e w2 ⟨b, rfl, hr, hb, _⟩
          rw [HNN.out] at hr
          have HR := Lib.hid hr
          have HB2 := Lib.hid hb
          clear hr hb c0 c1 c2 c3 c4 c5 c6 c7 c8 c9 c10 c11
          by_cases hp : ((Hash.partK mkey.data.toList N : Nat) : Int) = part
          · have hb1 : bg = true := by rw [← HBG.out]; show (if (1 : Int) = 1 then _ else _) = true; rw [if_pos rfl]; simpa using hp
            have HP := Lib.hid hp
            have HB1 := Lib.hid hb1
            clear hp hb1
            go_wp2_with (go_at_call 104; (with_reducible refine (contains_yes (some ⟨b, 0, none⟩) 1 1 (fun _ => ((Hash.partK mkey.data.toList N : Nat) : Int)) part _ _ (by omega) (by omega) (lies_one HR.out) 0 (by omega) HP.out (fun k hk => absurd hk (by omega))).mono ?_); rintro e w' ⟨rfl, rfl⟩)
            go_meet
            exact ⟨by rw [HB1.out], HB2⟩
          · have hb1 : bg = false := by rw [← HBG.out]; show (if (1 : Int) = 1 then _ else _) = false; rw [if_pos rfl]; simpa using hp
            have HP := Lib.hid hp
            have HB1 := Lib.hid hb1
            clear hp hb1
            go_wp2_with (go_at_call 104; (with_reducible refine (contains_no (some ⟨b, 0, none⟩) 1 1 (fun _ => ((Hash.partK mkey.data.toList N : Nat) : Int)) part _ _ (by omega) (by omega) (lies_one HR.out) (fun k hk => HP.out)).mono ?_); rintro e w' ⟨rfl, rfl⟩)
            go_meet
            exact ⟨by rw [HB1.out], HB2⟩
        · have hk2 : (mk != 1) = true := by simp; exact hk1
          have HK2 := Lib.hid hk2
          have HK1 := Lib.hid hk1
          clear hk1 hk2
          go_wp2_with fail
          refine (targets_all mk mt mtm 0 mT 0 0 mty mkey { data := #[] } mA none vn mc 0 0 _ parts HK2.out).mono ?_
          rintro e w2 ⟨tv, tob, rfl, hs, hb, _⟩
          rw [HNN.out] at hs
          obtain ⟨tA, tc, rfl, ht1, ht2⟩ := hs.form
          have HLI := Lib.hid (lies_seg (f := fun k => .int .i64 (k : Int)) hs (fun k hk => upTo_get N k hk))
          have HB2 := Lib.hid hb
          have ht3 : tc ≤ 9223372036854775807 := by unfold maxLen at ht2; omega
          clear hs hb ht2 c0 c1 c2 c3 c4 c5 c6 c7 c8 c9 c10 c11
          by_cases hp : 0 ≤ part ∧ part < (N : Int)
          · have hb1 : bg = true := by rw [← HBG.out]; show (if mk = 1 then _ else _) = true; rw [if_neg HK1.out]; simpa using hp
            have HB1 := Lib.hid hb1
            obtain ⟨pn, hpn⟩ : ∃ pn : Nat, (pn : Int) = part := ⟨part.toNat, by omega⟩
            have HP := Lib.hid hpn
            have hpl : pn < N := by omega
            clear hp hb1 hpn
            go_wp2_with (go_at_call 104; (with_reducible refine (contains_yes tA N tc (fun k => (k : Int)) part _ _ ht1 ht3 HLI.out pn hpl HP.out (fun k hk => by have := HP.out; omega)).mono ?_); rintro e w' ⟨rfl, rfl⟩)
            go_meet
            exact ⟨by rw [HB1.out], HB2⟩
          · have hb1 : bg = false := by rw [← HBG.out]; show (if mk = 1 then _ else _) = false; rw [if_neg HK1.out]; simpa using hp
            have HP := Lib.hid hp
            have HB1 := Lib.hid hb1
            clear hp hb1
            go_wp2_with (go_at_call 104; (with_reducible refine (contains_no tA N tc (fun k => (k : Int)) part _ _ ht1 ht3 HLI.out (fun k hk => by have := HP.out; omega)).mono ?_); rintro e w' ⟨rfl, rfl⟩)
            go_meet
            exact ⟨by rw [HB1.out], HB2⟩
      case rest =>
        obtain ⟨rfl, hbx⟩ := hcut
        have HF3 := Lib.hid (HF1.out.call hbx.out)
        have HV3 := Lib.hid (HV1.out.call hbx.out)
        have R3 := Lib.hid (R9.out.below hbx.out R9.out.lt)
        clear hbx c0 c1 c2 c3 c4 c5 c6 c7 c8 c9 c10 c11 HF1 HV1 R9
        have HFT := Lib.hid (filter_take_succ (fun m => goes m part (Hash.partsV parts)) ms k _ HM.out)
        have hbg2 : goes ⟨mk, mt, mty, mkey, mtm, 0, mA, mc, mvs, mT, { data := #[] }, none, 0, 0, 0, 0⟩ part (Hash.partsV parts) = bg := by rw [HNN.out]; exact HBG.out
        have HBG2 := Lib.hid hbg2
        clear hbg2
        cases bg with
        | true =>
          have d0 := R3.out.is 0 (v := .int .i64 mk) rfl
          have d1 := R3.out.is 1 (v := .int .i64 mt) rfl
          have d2 := R3.out.is 2 (v := .string mty) rfl
          have d3 := R3.out.is 3 (v := .string mkey) rfl
          have d4 := R3.out.is 4 (v := .int .i64 mtm) rfl
          have d5 := R3.out.is 5 (v := .int .i64 0) rfl
          have d6 := R3.out.is 6 (v := .slice mA vn mc) rfl
          have d7 := R3.out.is 7 (v := .int .i64 mT) rfl
          have d8 := R3.out.is 8 (v := .string { data := #[] }) rfl
          have d9 := R3.out.is 9 (v := .slice none 0 0) rfl
          have d10 := R3.out.is 10 (v := .int .i64 0) rfl
          have d11 := R3.out.is 11 (v := .int .i64 0) rfl
          obtain rfl := HVN.out
          go_wp2_with fail
          refine (HTW.out mk mt mty mkey mtm 0 mA mc mvs mT { data := #[] } 0 0 _ HV3.out).mono ?_
          rintro e w4 ⟨yA, yc, yob, rfl, hcp⟩
          have HF4 := Lib.hid (HF3.out.call hcp.be)
          have HTw : Hid (Tw w4 ⟨mk, mt, mty, mkey, mtm, 0, mA, mc, mvs, mT, { data := #[] }, none, 0, 0, 0, 0⟩ ⟨mk, mt, mty, mkey, mtm, 0, yA, yc, mvs, mT, { data := #[] }, none, 0, 0, 0, 0⟩) := ⟨rfl, yob, hcp.seg⟩
          have hyl : ys.length ≤ 20 := by
            have h1 := HF4.out.ln
            have h2 := List.length_filter_le (fun m => goes m part (Hash.partsV parts)) (ms.take k)
            have h3 := List.length_take_le k ms
            omega
          have HLN := Lib.hid HF4.out.seg
          clear hcp HF3 HV3 R3 d0 d1 d2 d3 d4 d5 d6 d7 d8 d9 d10 d11
          go_wp2_with (at_builtin; go_loud (refine wpList_append_seg _ rfl _ _ 86 rfl 85 i0 _ 12 152 Try.underlying86 hi0 hz0 hz1 hz2 rfl (by decide) _ ys.length _ _ rfl (HLN.out.alloc _) ⟨w4.heap.size, 0, none⟩ 1 1 [.int .i64 mk, .int .i64 mt, .string mty, .string mkey, .int .i64 mtm, .int .i64 0, .slice yA mvs.length yc, .int .i64 mT, .string { data := #[] }, .slice none 0 0, .int .i64 0, .int .i64 0] rfl rfl (news_of _ _ _) (by simp [Value.oneCell']) (by decide) (by unfold maxLen; omega) (by omega) ?_; intro v2 w5 ob2 hs2 ht2 ho2))
          have HF5 := Lib.hid (HF4.out.more HTw.out _ hs2 ht2 ho2)
          clear hs2 ht2 ho2 HLN HF4
          go_roundw
          case rel => exact ⟨k + 1, ob2, _, by omega, by go_num, Lib.hid (by rw [HFT.out, if_pos HBG2.out]; exact HF5.out)⟩
          case measure => simp [intOf]; omega
        | false =>
          go_wp2
          go_roundw
          case rel => exact ⟨k + 1, ob, ys, by omega, by go_num, Lib.hid (by rw [HFT.out, if_neg (by rw [HBG2.out]; decide), List.append_nil]; exact HF3.out)⟩
          case measure => simp [intOf]; omega
    · obtain rfl : k = n := by omega
      have hki : ¬ (k : Int) < (k : Int) := by omega
      have HF2 := HF.out
      rw [List.take_of_length_le (by rw [HN.out]; exact Nat.le_refl _)] at HF2
      have HF3 := Lib.hid HF2
      clear HF HF2
      go_wp2
      go_ret
      exact ⟨_, ob, ys, rfl, HF3.out⟩
end Go.Proofs.Ytpgacadnmekdhaa.Ms
