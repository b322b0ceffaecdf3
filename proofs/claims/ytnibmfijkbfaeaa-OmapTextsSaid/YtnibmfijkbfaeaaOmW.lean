/- OmapTexts' law walked. -/
import Derived.Test.YtnibmfijkbfaeaaOmQ
namespace Go.Proofs.Ytnibmfijkbfaeaa.Om
open Go.RowKit Go.Proofs.Ytnibmfijkbfaeaa
set_option linter.unusedVariables false
set_option linter.unusedSimpArgs false
set_option maxRecDepth 100000
open Key (lt)
set_option maxHeartbeats 4000000 in
theorem texts_any (A : Option Addr) (n c : Nat) (f : Nat → ByteArray) (hn : n ≤ c) (hc : c ≤ 9223372036854775807) (_hs : ∀ k, (f k).size ≤ 9223372036854775807) {w : World} (hl : Lies w w.heap.size A n (fun k => .string (f k))) :
    Calls Try.prog 5 #[.slice A n c] w fun e w' => e = .returned (.bool true) ∧ Below w.heap.size w w' := by
  obtain ⟨m, hm⟩ : ∃ m, min n 20 = m := ⟨_, rfl⟩
  have hm0 : (if (20 : Int) < (n : Int) then (20 : Int) else (n : Int)) = (m : Int) := by split <;> omega
  have hmn : m ≤ n := by omega
  have hm20 : m ≤ 20 := by omega
  have HLI := Lib.hid hl
  have hmc : m ≤ c := by omega
  clear hm hl
  go_enter Try.func5, Try.ntmps5
  go_wp2_with (go_at_call 6; refine (awake_any _).mono ?_; rintro e w1 ⟨rfl, hb1⟩; have HB := Lib.hid hb1; clear hb1)
  obtain ⟨b, hb⟩ : ∃ b, w1.heap.size = b := ⟨_, rfl⟩
  have hwb : w.heap.size ≤ b := by rw [← hb]; exact HB.out.size
  obtain ⟨w2, hw2⟩ : ∃ w2, w1.alloc (.cells #[.pointer none] 52) = w2 := ⟨_, rfl⟩
  have HB2 : Hid (Below w.heap.size w w2) := Lib.hid (by rw [← hw2]; exact HB.out.alloc HB.out.size _)
  have HM2 : Hid (MLS w2 b (fillL f 0)) := Lib.hid (by rw [← hw2, ← hb]; exact MLS.new (Row.made w1 _ _))
  rw [hw2, hb]
  clear hw2 hb HB
  go_loopw [5, 6] (fun s5 s6 wr => ∃ i : Nat, i ≤ m ∧ s6 = .int .i64 i ∧ s5 = .int .i64 ((fillL f i).length : Nat) ∧ Hid (MLS wr b (fillL f i) ∧ Below w.heap.size w wr)) (fun _ s6 _ => m - (intOf s6).toNat)
  case atStart => exact ⟨0, Nat.zero_le _, rfl, rfl, Lib.hid ⟨HM2.out, HB2.out⟩⟩
  case round =>
    obtain ⟨i, him, rfl, rfl, hrel⟩ := hrel
    obtain ⟨wr0, rfl⟩ : ∃ x, x = wr := ⟨_, rfl⟩
    obtain ⟨hml, hbe⟩ := hrel.out
    have HML := Lib.hid hml
    have HBE := Lib.hid hbe
    have HCE : Hid (∀ k, k < n → ∃ g o, A = some ⟨g, o, none⟩ ∧ wr0.cell? ⟨g, o + k, none⟩ = some (.string (f k))) := Lib.hid (fun k hk => by
      obtain ⟨g, o, e, hg, h⟩ := HLI.out k hk
      exact ⟨g, o, e, (hbe.cell (p := ⟨g, o + k, none⟩) hg).trans h⟩)
    have hfl := fill_le f i
    obtain ⟨N, hN⟩ : ∃ N, (fillL f i).length = N := ⟨_, rfl⟩
    rw [hN] at hfl ⊢
    have HN := Lib.hid hN
    clear hrel hml hbe hN
    by_cases hlt : i < m
    · have hiz : (i : Int) < (m : Int) := by omega
      have hiw : IntKind.i64.wrap ((i : Int) + 1) = (i : Int) + 1 := by rw [IntKind.wrap_i64]; omega
      have hNw : IntKind.i64.wrap ((N : Int) + 1) = (N : Int) + 1 := by rw [IntKind.wrap_i64]; omega
      obtain ⟨s, hs⟩ : ∃ s, f i = s := ⟨_, rfl⟩
      have HSF := Lib.hid hs
      clear hs
      go_wp2_with fail
      go_loopw [7, 8] (fun s7 s8 wx => ∃ k : Nat, k ≤ i ∧ s8 = .int .i64 k ∧ s7 = .bool (ahd f s k) ∧ Hid (∃ n, wx = wr0.drewN n)) (fun _ s8 _ => i - (intOf s8).toNat)
      case atStart => exact ⟨0, Nat.zero_le _, rfl, rfl, Lib.hid ⟨0, rfl⟩⟩
      case round =>
        obtain ⟨k, hki, rfl, rfl, hwx⟩ := hrel
        have hcells : ∀ a, wr.cell? a = wr0.cell? a := by
          obtain ⟨m, rfl⟩ := hwx.out
          exact fun _ => rfl
        obtain ⟨g, o, e, kci⟩ := HCE.out i (by omega)
        obtain ⟨g2, o2, e2, kck⟩ := HCE.out k (by omega)
        rw [e] at e2
        injection e2 with e2
        injection e2 with e2 e3
        subst e2 e3
        rw [HSF.out] at kci
        obtain ⟨u, hu⟩ : ∃ u, f k = u := ⟨_, rfl⟩
        rw [hu] at kck
        have k1 := (hcells _).trans kci
        have k2 := (hcells _).trans kck
        have HAH : Hid (ahd f s (k + 1) = (ahd f s k || (u.toList == s.toList))) := Lib.hid (by rw [← hu]; rfl)
        subst e
        clear kci kck hu
        by_cases hk : k < i
        · have hkz : (k : Int) < (i : Int) := by omega
          have hkw : IntKind.i64.wrap ((k : Int) + 1) = (k : Int) + 1 := by rw [IntKind.wrap_i64]; omega
          have hkm : (k : Int) < (m : Int) := by omega
          clear hcells
          cases hah : ahd f s k with
          | true =>
            rw [hah] at HAH
            clear hah
            go_wp2_with fail
            go_quiet (fail)
            go_wp2
            go_roundw
            case rel => exact ⟨k + 1, by omega, by go_num, by rw [HAH.out]; rfl, by
              obtain ⟨m, rfl⟩ := hwx.out
              exact Lib.hid ⟨m + _, World.drewN_drewN ..⟩⟩
            case measure => simp [intOf]; omega
          | false =>
            rw [hah] at HAH
            clear hah
            go_wp2_with fail
            go_quiet (fail)
            go_wp2
            go_roundw
            case rel => exact ⟨k + 1, by omega, by go_num, by rw [HAH.out, Bool.false_or], by
              obtain ⟨m, rfl⟩ := hwx.out
              exact Lib.hid ⟨m + _, World.drewN_drewN ..⟩⟩
            case measure => simp [intOf]; omega
        · obtain rfl : k = i := by omega
          obtain ⟨mq, hmq⟩ := hwx.out
          have hbw : Below wr0.heap.size wr0 wr := by rw [hmq]; exact ⟨rfl, rfl, rfl, Nat.le_refl _, fun _ _ => rfl⟩
          have HM3 := Lib.hid (HML.out.below hbw)
          have HB3 := Lib.hid (HBE.out.trans (hbw.mono HBE.out.size))
          have HP := Lib.hid (mput_s b s (k : Int) (fillL f k) wr HM3.out (by rw [HN.out]; omega))
          rw [fill_some] at HP
          have hln := fill_len f k
          rw [HSF.out, HN.out] at hln
          have HLN := Lib.hid hln
          have hpe : Hid (put s (k : Int) (fillL f k) = fillL f (k + 1)) := Lib.hid (by rw [← HSF.out]; rfl)
          clear hmq hcells hbw hwx hln k2 HAH
          cases hah : ahd f s k with
          | true =>
            rw [hah] at HP HLN
            clear hah
            go_wp2_with (go_at_call 18; refine HP.out.mono ?_; rintro e w4 ⟨rfl, hm4, ht4⟩; rw [hpe.out] at hm4; have HM4 := Lib.hid hm4; have HT4 := Lib.hid ht4; clear hm4 ht4)
            go_roundw
            case rel => exact ⟨k + 1, by omega, by go_num, by rw [HLN.out]; simp, Lib.hid ⟨HM4.out, HT4.out.below HB3.out HB3.out.size (fun j hj e => by omega)⟩⟩
            case measure => simp [intOf]; omega
          | false =>
            rw [hah] at HP HLN
            clear hah
            go_wp2_with (go_at_call 18; refine HP.out.mono ?_; rintro e w4 ⟨rfl, hm4, ht4⟩; rw [hpe.out] at hm4; have HM4 := Lib.hid hm4; have HT4 := Lib.hid ht4; clear hm4 ht4)
            go_roundw
            case rel => exact ⟨k + 1, by omega, by go_num, by rw [HLN.out, if_neg Bool.false_ne_true]; go_num, Lib.hid ⟨HM4.out, HT4.out.below HB3.out HB3.out.size (fun j hj e => by omega)⟩⟩
            case measure => simp [intOf]; omega
    · obtain rfl : i = m := by omega
      clear hlt
      have HK := Lib.hid (mkeys_s b (fillL f i) wr0 HML.out (by rw [HN.out]; omega))
      obtain ⟨Ks, hKs⟩ : ∃ Ks, (fillL f i).map Prod.fst = Ks := ⟨_, rfl⟩
      have hKN : Ks.length = N := by rw [← hKs, List.length_map, HN.out]
      have HKU : Hid (∀ j (h : j + 1 < Ks.length), Op.bytesLess (Ks[j]'(by omega)).toList (Ks[j + 1]).toList = true) := Lib.hid (fun j h => by
        have hu := fill_up f i
        have hp : Ks.Pairwise (fun x y => lt x y) := by rw [← hKs]; exact List.pairwise_map.2 hu
        exact List.pairwise_iff_getElem.1 hp j (j + 1) (by omega) h (by omega))
      rw [hKs, hKN] at HK
      have HKN := Lib.hid hKN
      clear hKs hKN
      go_wp2_with (go_at_call 19; refine HK.out.mono ?_; rintro e w5 ⟨v5, ob5, rfl, hs5, hb5⟩; obtain ⟨A5, c5, rfl, hn5, hm5⟩ := hs5.form; have HS5 := Lib.hid hs5; have HB5 := Lib.hid hb5; clear hs5 hb5)
      have HM5 := Lib.hid (HML.out.below HB5.out)
      have HB5w := Lib.hid (HBE.out.trans (HB5.out.mono HBE.out.size))
      have HC5 : Hid (∀ k, k < n → ∃ g o, A = some ⟨g, o, none⟩ ∧ w5.cell? ⟨g, o + k, none⟩ = some (.string (f k))) := Lib.hid (fun k hk => by
        obtain ⟨g, o, e, hg, h⟩ := HLI.out k hk
        exact ⟨g, o, e, (HB5w.out.cell (p := ⟨g, o + k, none⟩) hg).trans h⟩)
      have HK5 : Hid (∀ k (hk : k < Ks.length), ∃ g o, A5 = some ⟨g, o, none⟩ ∧ w5.cell? ⟨g, o + k, none⟩ = some (.string Ks[k])) := Lib.hid (fun k hk => by
        obtain ⟨g, o, cap, e, _, _, _, hcl, _⟩ := HS5.out.shape (by rw [← HKN.out]; omega)
        injection e with e1 e2 e3
        exact ⟨g, o, e1, hcl k _ (by simp [valsS, hk])⟩)
      clear HK HML HBE HCE HB5
      go_loopw [10] (fun s10 wr => ∃ j : Nat, j ≤ i ∧ s10 = .int .i64 j ∧ Hid (∃ nq, wr = w5.drewN nq)) (fun s10 _ => i - (intOf s10).toNat)
      case atStart => exact ⟨0, Nat.zero_le _, rfl, Lib.hid ⟨0, rfl⟩⟩
      case round =>
        obtain ⟨j, hji, rfl, hwj⟩ := hrel
        obtain ⟨wj, rfl⟩ : ∃ x, x = wr := ⟨_, rfl⟩
        by_cases hlt : j < i
        · have hjz : (j : Int) < (i : Int) := by omega
          have hjw : IntKind.i64.wrap ((j : Int) + 1) = (j : Int) + 1 := by rw [IntKind.wrap_i64]; omega
          go_wp2_with fail
          go_loopw [11, 12] (fun s11 s12 wr => ∃ q : Nat, j ≤ q ∧ q ≤ i ∧ s12 = .int .i64 q ∧ s11 = .int .i64 (lastG f j (q - j) : Nat) ∧ Hid (∃ nq, wr = w5.drewN nq)) (fun _ s12 _ => i - (intOf s12).toNat)
          case atStart => exact ⟨j, Nat.le_refl _, hji, rfl, by
            rw [Nat.sub_self]; rfl, hwj⟩
          case round =>
            obtain ⟨q, hjq, hqi, rfl, rfl, hwq⟩ := hrel
            have hcells : ∀ a, wr.cell? a = w5.cell? a := by
              obtain ⟨m, rfl⟩ := hwq.out
              exact fun _ => rfl
            by_cases hq : q < i
            · have hqz : (q : Int) < (i : Int) := by omega
              have hqw : IntKind.i64.wrap ((q : Int) + 1) = (q : Int) + 1 := by rw [IntKind.wrap_i64]; omega
              obtain ⟨g, o, e, kci⟩ := HC5.out j (by omega)
              obtain ⟨g2, o2, e2, kck⟩ := HC5.out q (by omega)
              rw [e] at e2
              injection e2 with e2
              injection e2 with e2 e3
              subst e2 e3
              have HLF : Hid (lastG f j (q + 1 - j) = if ((f q).toList == (f j).toList) = true then q else lastG f j (q - j)) := Lib.hid (lastG_succ f j q hjq)
              obtain ⟨u, hu⟩ : ∃ u, f j = u := ⟨_, rfl⟩
              obtain ⟨v, hv⟩ : ∃ v, f q = v := ⟨_, rfl⟩
              obtain ⟨la, hla⟩ : ∃ la, lastG f j (q - j) = la := ⟨_, rfl⟩
              rw [hu, hv, hla] at HLF
              rw [hu] at kci
              rw [hv] at kck
              rw [hla]
              have k1 := (hcells _).trans kci
              have k2 := (hcells _).trans kck
              subst e
              clear kci kck hu hv hla hcells
              cases hah : (v.toList == u.toList) with
              | true =>
                rw [hah] at HLF
                go_wp2_with fail
                go_quiet (fail)
                go_wp2
                go_roundw
                case rel => exact ⟨q + 1, by omega, by omega, by go_num, by rw [HLF.out]; simp, by
                  obtain ⟨m, rfl⟩ := hwq.out
                  exact Lib.hid ⟨m + _, World.drewN_drewN ..⟩⟩
                case measure => simp [intOf]; omega
              | false =>
                rw [hah] at HLF
                go_wp2_with fail
                go_quiet (fail)
                go_wp2
                go_roundw
                case rel => exact ⟨q + 1, by omega, by omega, by go_num, by rw [HLF.out]; simp, by
                  obtain ⟨m, rfl⟩ := hwq.out
                  exact Lib.hid ⟨m + _, World.drewN_drewN ..⟩⟩
                case measure => simp [intOf]; omega
            · obtain rfl : q = i := by omega
              obtain ⟨mq, hmq⟩ := hwq.out
              have hbw : Below w5.heap.size w5 wr := by rw [hmq]; exact ⟨rfl, rfl, rfl, Nat.le_refl _, fun _ _ => rfl⟩
              have HG := Lib.hid (mget_s b (f j) (fillL f q) wr (HM5.out.below hbw))
              rw [fill_last f j q hlt] at HG
              obtain ⟨g, o, e, kci⟩ := HC5.out j (by omega)
              obtain ⟨u, hu⟩ : ∃ u, f j = u := ⟨_, rfl⟩
              obtain ⟨la, hla⟩ : ∃ la, lastG f j (q - j) = la := ⟨_, rfl⟩
              rw [hu, hla] at HG
              rw [hu] at kci
              rw [hla]
              have k1 := (hcells _).trans kci
              subst e
              have HMQ := Lib.hid hmq
              clear kci hu hla hcells hbw hmq
              go_wp2_with (go_at_call 20; refine HG.out.mono ?_; rintro e w6 ⟨rfl, n6, h6⟩; have H6 := Lib.hid h6; clear h6)
              go_roundw
              case rel => exact ⟨j + 1, by omega, by go_num, by
                rw [H6.out, HMQ.out]
                exact Lib.hid ⟨_, World.drewN_drewN ..⟩⟩
              case measure => simp [intOf]; omega
        · obtain rfl : j = i := by omega
          clear hlt
          go_wp2_with fail
          go_loopw [15] (fun s15 wr => ∃ r : Nat, (r + 1 ≤ N ∨ r = 0) ∧ s15 = .int .i64 ((r : Int) + 1) ∧ Hid (∃ nq, wr = w5.drewN nq)) (fun s15 _ => N + 1 - (intOf s15).toNat)
          case atStart => exact ⟨0, .inr rfl, rfl, hwj⟩
          case round =>
            obtain ⟨r, hr, rfl, hwr⟩ := hrel
            have hcells : ∀ a, wr.cell? a = w5.cell? a := by
              obtain ⟨m, rfl⟩ := hwr.out
              exact fun _ => rfl
            by_cases hlt : r + 1 < N
            · have hrz : (r : Int) + 1 < (N : Int) := by omega
              have hw1 : IntKind.i64.wrap ((r : Int) + 1 - 1) = (r : Int) := by rw [IntKind.wrap_i64]; omega
              have hw2 : IntKind.i64.wrap ((r : Int) + 1 + 1) = (r : Int) + 1 + 1 := by rw [IntKind.wrap_i64]; omega
              have hKn := HKN.out
              obtain ⟨g, o, e, kci⟩ := HK5.out r (by omega)
              obtain ⟨g2, o2, e2, kck⟩ := HK5.out (r + 1) (by omega)
              rw [e] at e2
              injection e2 with e2
              injection e2 with e2 e3
              subst e2 e3
              have hbl := HKU.out r (by omega)
              obtain ⟨u, hu⟩ : ∃ u, Ks[r]'(by omega) = u := ⟨_, rfl⟩
              obtain ⟨v, hv⟩ : ∃ v, Ks[r + 1]'(by omega) = v := ⟨_, rfl⟩
              rw [hu] at kci hbl
              rw [hv] at kck hbl
              have k1 := (hcells _).trans kci
              have k2 := (hcells _).trans kck
              have hrN : (r : Int) < (N : Int) := by omega
              subst e
              clear kci kck hu hv hcells hKn
              go_wp2_with fail
              go_quiet (fail)
              go_wp2
              go_roundw
              case rel => exact ⟨r + 1, by omega, by go_num, by
                obtain ⟨m, rfl⟩ := hwr.out
                exact Lib.hid ⟨m + _, World.drewN_drewN ..⟩⟩
              case measure => simp [intOf]; omega
            · have hrz : ¬ (r : Int) + 1 < (N : Int) := by omega
              obtain ⟨mq, hmq⟩ := hwr.out
              have hbw : Below w5.heap.size w5 wr := by rw [hmq]; exact ⟨rfl, rfl, rfl, Nat.le_refl _, fun _ _ => rfl⟩
              have HM9 := Lib.hid (HM5.out.below hbw)
              have HB9 := Lib.hid (HB5w.out.trans (hbw.mono HB5w.out.size))
              clear hmq hbw hcells hwr
              go_wp2_with (first
                | (go_at_call 6; refine (awake_any _).mono ?_; rintro e w7 ⟨rfl, hb7⟩; have HL7 := Lib.hid (mlen_s b (fillL f j) w7 (HM9.out.below hb7)); rw [HN.out] at HL7; have HB7 := Lib.hid (HB9.out.trans (hb7.mono HB9.out.size)); clear hb7)
                | (go_at_call 21; refine HL7.out.mono ?_; rintro e w8 ⟨rfl, rfl⟩)
                | fail)
              go_ret
              exact ⟨rfl, HB7.out⟩
end Go.Proofs.Ytnibmfijkbfaeaa.Om
