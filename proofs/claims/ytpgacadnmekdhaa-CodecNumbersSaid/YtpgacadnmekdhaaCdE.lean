/- A reader takes a number. -/
import Derived.Test.YtpgacadnmekdhaaCdD
import Derived.Deep.RegionHeld3
import Derived.Deep.Cut
namespace Go.Proofs.Ytpgacadnmekdhaa.Cd
open Go.RowKit Go.Proofs.Ytpgacadnmekdhaa
set_option linter.unusedVariables false
set_option maxRecDepth 100000
theorem left_any (w : World) (b : Nat) (bs : List UInt8) (er : Int) (h : Rd w b bs er) :
    Calls Try.prog 47 #[.pointer (some ⟨b, 0, none⟩)] w fun e w' => e = .returned (.int .i64 bs.length) ∧ w = w' := by
  obtain ⟨A, c, h1, h2, h3, h4⟩ := h.sl
  have c0 := (h1.cell 0).trans rfl
  clear h h1 h4
  go_enter Try.func47, Try.ntmps47
  go_wp2
  go_ret
  exact ⟨rfl, rfl⟩
theorem err_any (w : World) (b : Nat) (bs : List UInt8) (er : Int) (h : Rd w b bs er) :
    Calls Try.prog 44 #[.pointer (some ⟨b, 0, none⟩)] w fun e w' => e = .returned (.int .i64 er) ∧ w = w' := by
  obtain ⟨A, c, h1, h2, h3, h4⟩ := h.sl
  have c1 := (h1.cell 1).trans rfl
  clear h h1 h4
  go_enter Try.func44, Try.ntmps44
  go_wp2
  go_ret
  exact ⟨rfl, rfl⟩
theorem ub_drop : ∀ (k n : Nat), k < (ub n).length → (ub n).drop k = ub (n / 128 ^ k)
  | 0, n, _ => by simp
  | k + 1, n, h => by
    by_cases hs : n < 128
    · rw [ub_small hs] at h
      simp at h
    · rw [ub_big hs] at h ⊢
      rw [List.drop_succ_cons, ub_drop k (n / 128) (by simpa using h), Nat.div_div_eq_div_mul, Nat.pow_succ, Nat.mul_comm]
theorem ub_at {k n : Nat} (h : k < (ub n).length) : (ub n)[k]? = some (if n / 128 ^ k < 128 then UInt8.ofNat (n / 128 ^ k) else UInt8.ofNat (n / 128 ^ k % 128 + 128)) := by
  have h1 := ub_drop k n h
  have h2 : (ub n)[k]? = ((ub n).drop k)[0]? := by rw [List.getElem?_drop]; rfl
  rw [h2, h1, ub]
  split <;> rfl
theorem ub_last {k n : Nat} (h : k < (ub n).length) : (ub n).length = k + 1 ↔ n / 128 ^ k < 128 := by
  have h1 := congrArg List.length (ub_drop k n h)
  rw [List.length_drop] at h1
  by_cases hs : n / 128 ^ k < 128
  · rw [ub_small hs] at h1
    simp at h1
    exact ⟨fun _ => hs, fun _ => by omega⟩
  · rw [ub_big hs, List.length_cons] at h1
    have := ub_pos (n / 128 ^ k / 128)
    exact ⟨fun e => by omega, fun e => absurd e hs⟩
theorem acc_succ (n k : Nat) : n % 128 ^ (k + 1) = n % 128 ^ k + n / 128 ^ k % 128 * 128 ^ k := by
  rw [Nat.mod_pow_succ, Nat.mul_comm (n / 128 ^ k % 128)]
theorem step_or (n k : Nat) (hn : n < 18446744073709551616) (B : Int) (h0 : 0 ≤ B ∧ B < 256) (hB : B % 128 = ((n / 128 ^ k % 128 : Nat) : Int)) :
    bits .or .u64 ((n % 128 ^ k : Nat) : Int) (IntKind.u64.wrap (IntKind.u64.wrap (bits .andNot .u8 B 128) * 2 ^ (7 * k))) = ((n % 128 ^ (k + 1) : Nat) : Int) := by
  have hp : (2 : Int) ^ (7 * k) = ((128 ^ k : Nat) : Int) := by
    rw [Int.pow_mul, Int.natCast_pow]
    rfl
  have hpos : 0 < 128 ^ k := Nat.pow_pos (by decide)
  have hs := acc_succ n k
  have hle : n % 128 ^ (k + 1) ≤ n := Nat.mod_le _ _
  have hlt : n % 128 ^ k < 128 ^ k := Nat.mod_lt _ hpos
  obtain ⟨y, hy⟩ : ∃ y, n / 128 ^ k % 128 = y := ⟨_, rfl⟩
  obtain ⟨a, ha⟩ : ∃ a, n % 128 ^ k = a := ⟨_, rfl⟩
  rw [hy, ha] at hs
  rw [ha] at hlt ⊢
  rw [hy] at hB
  rw [not128 B h0, hB, hs]
  have hyb : y < 128 := by rw [← hy]; exact Nat.mod_lt _ (by decide)
  have h1 : IntKind.u64.wrap ((y : Nat) : Int) = (y : Int) := by rw [IntKind.wrap_u64]; omega
  rw [h1]
  have hyk : y * 128 ^ k < 18446744073709551616 := by omega
  have hyk2 : ((y * 128 ^ k : Nat) : Int) < 18446744073709551616 := by
    generalize y * 128 ^ k = z at hyk ⊢
    omega
  have h2 : IntKind.u64.wrap ((y : Int) * 2 ^ (7 * k)) = (y : Int) * 2 ^ (7 * k) := by
    rw [IntKind.wrap_u64, hp, ← Int.natCast_mul]
    have h3 : (((y * 128 ^ k : Nat) : Int)) % 18446744073709551616 = (((y * 128 ^ k) % 18446744073709551616 : Nat) : Int) := by
      rw [Int.natCast_emod]
      rfl
    rw [h3, Nat.mod_eq_of_lt hyk]
  rw [h2, or_high (a : Int) (y : Int) (7 * k) ⟨by omega, by rw [hp]; exact_mod_cast hlt⟩ ⟨by omega, by rw [hp, ← Int.natCast_mul]; exact hyk2⟩ (by omega), hp, ← Int.natCast_mul, ← Int.natCast_add]
theorem rest_rd {w : World} {b g o o' c c' T n' k q : Nat} {pre rest : List UInt8} {er : Int} (hR : Row w b 175 #[.slice (some ⟨g, o, none⟩) T c, .int .i64 er]) (hN : Ln w b (some ⟨g, o, none⟩) (pre ++ rest)) (hp : pre.length = k + 1) (hT : (pre ++ rest).length = T)
    (hTc : T ≤ c) (hc : c ≤ 9223372036854775807) (ho : k + 1 < c → o' = o + (k + 1)) (hn : n' = T - (k + 1)) (hc' : c' = c - (k + 1)) :
    Rd ((w.drewN q).setCell ⟨b, 0, none⟩ (.slice (some ⟨g, o', none⟩) n' c')) b rest er ∧ Turns w ((w.drewN q).setCell ⟨b, 0, none⟩ (.slice (some ⟨g, o', none⟩) n' c')) (fun k => k = b) := by
  have hl : n' = rest.length := by rw [List.length_append] at hT; omega
  subst hl
  have hr := (hR.drewN q).put 0 (.slice (some ⟨g, o', none⟩) rest.length c')
  have hln : Ln ((w.drewN q).setCell ⟨b, 0, none⟩ (.slice (some ⟨g, o', none⟩) rest.length c')) b (some ⟨g, o', none⟩) rest := by
    refine Ln.put (fun j x hx => ?_) 0 _
    have hj : j < rest.length := (List.getElem?_eq_some_iff.1 hx).1
    obtain ⟨g2, o2, e, hl, hn2, hcx⟩ := hN (k + 1 + j) x (by rw [List.getElem?_append_right (by omega), hp]; rw [show k + 1 + j - (k + 1) = j by omega]; exact hx)
    injection e with e
    injection e with e1 e2
    subst e1 e2
    rw [List.length_append] at hT
    have h1 := ho (by omega)
    subst h1
    exact ⟨_, _, rfl, hl, hn2, by rw [Nat.add_assoc]; exact hcx⟩
  exact ⟨⟨_, c', by simpa using hr, by omega, by omega, hln⟩, ((Turns.refl w _).drewN q).put b 0 _ (fun _ => rfl)⟩
theorem uint_take (w : World) (b : Nat) (n : Nat) (hn : n < 18446744073709551616) (rest : List UInt8) (er : Int) (h : Rd w b (ub n ++ rest) er) :
    Calls Try.prog 40 #[.pointer (some ⟨b, 0, none⟩)] w fun e w' => e = .returned (.int .u64 n) ∧ Rd w' b rest er ∧ Turns w w' (fun k => k = b) := by
  have H := Lib.hid h
  have h10 := ub_ten hn
  obtain ⟨L, hL⟩ : ∃ L, (ub n).length = L := ⟨_, rfl⟩
  have HL := Lib.hid hL
  rw [hL] at h10
  have hpos := ub_pos n
  rw [hL] at hpos
  clear h hL
  go_enter Try.func40, Try.ntmps40
  go_wp2_with fail
  refine (left_any _ b _ er H.out).mono ?_
  rintro e w' ⟨rfl, rfl⟩
  obtain ⟨T, hT⟩ : ∃ T, (ub n ++ rest).length = T := ⟨_, rfl⟩
  have hLT : L ≤ T := by rw [← hT, List.length_append, HL.out]; omega
  obtain ⟨M, hM⟩ : ∃ M : Nat, min T 10 = M := ⟨_, rfl⟩
  have hLM : L ≤ M := by omega
  have hMT : M ≤ T := by omega
  have hmin : (if (10 : Int) < (T : Int) then (10 : Int) else (T : Int)) = (M : Int) := by split <;> omega
  have hmin' : (if 10 < T then (10 : Int) else (T : Int)) = (M : Int) := by split <;> omega
  have HT := Lib.hid hT
  rw [hT]
  clear hT hM
  go_upto_region 3 with fail
  clear hmin hmin'
  obtain ⟨A, c, hR, hTc, hc9, hLn⟩ := H.out.sl
  rw [HT.out] at hR hTc
  have HR := Lib.hid hR
  have HN := Lib.hid hLn
  have c0 := (hR.cell 0).trans rfl
  have f0 := hR.free 0
  clear hR hLn H
  go_wp2
  go_loopw [9, 3, 4, 5] (fun v9 v3 s4 s5 wr => ∃ k : Nat, k < L ∧ v9 = .int .i64 k ∧ v3 = .int .u64 (n % 128 ^ k : Nat) ∧ Hid (∃ q, wr = w.drewN q)) (fun v9 _ _ _ _ => L - (intOf v9).toNat)
  case atStart => exact ⟨0, hpos, rfl, by simp [Nat.mod_one], Lib.hid ⟨0, rfl⟩⟩
  case round =>
    obtain ⟨k, hk, rfl, rfl, hQ⟩ := hrel
    obtain ⟨qn, rfl⟩ := hQ.out
    have hkM : (k : Int) < (M : Int) := by omega
    have hkT : (k : Int) < (T : Int) := by omega
    have hk10 : k < 10 := by omega
    obtain ⟨mm, hmm⟩ : ∃ mm, n / 128 ^ k = mm := ⟨_, rfl⟩
    obtain ⟨acc, hacc⟩ : ∃ acc, n % 128 ^ k = acc := ⟨_, rfl⟩
    have hku : k < (ub n).length := by rw [HL.out]; exact hk
    have hat := ub_at hku
    have hla := ub_last hku
    have has := acc_succ n k
    rw [hmm] at hat hla has
    rw [hacc] at has ⊢
    rw [HL.out] at hla
    have hx : (ub n ++ rest)[k]? = some (if mm < 128 then UInt8.ofNat mm else UInt8.ofNat (mm % 128 + 128)) := by rw [List.getElem?_append_left hku]; exact hat
    obtain ⟨g, o, rfl, hg, hgb, hcx⟩ := HN.out k _ hx
    by_cases hs : mm < 128
    · rw [if_pos hs] at hcx
      have hcx2 : w.cell? ⟨g, o + k, none⟩ = some (.int .u8 (mm : Int)) := by
        rw [hcx]
        unfold bc
        congr 2
        simp
        omega
      have hLk := hla.2 hs
      clear hcx hx hat
      have hm1 : ¬ (128 : Int) ≤ (mm : Int) := by omega
      go_upto_region 7 with fail
      have hor := step_or n k hn (mm : Int) (by omega) (by rw [hmm]; omega)
      have hfull : n % 128 ^ (k + 1) = n := by
        refine Nat.mod_eq_of_lt ?_
        rw [Nat.pow_succ, Nat.mul_comm]
        have := Nat.div_lt_iff_lt_mul (x := n) (y := 128) (Nat.pow_pos (n := k) (show 0 < 128 by decide))
        rw [hmm] at this
        exact this.1 hs
      rw [hacc, hfull] at hor
      rw [hor]
      have hm9 : (k : Int) = 9 → ¬ (1 : Int) < (mm : Int) := by
        intro e
        have : k = 9 := by omega
        subst this
        have : mm ≤ 1 := by
          rw [← hmm]
          exact Nat.lt_succ_iff.1 ((Nat.div_lt_iff_lt_mul (by decide)).2 (by omega))
        omega
      have hm0 : 0 < (k : Int) → ¬ (mm : Int) = 0 := by
        intro e e2
        have hm00 : mm = 0 := by omega
        obtain ⟨j, rfl⟩ : ∃ j, k = j + 1 := ⟨k - 1, by omega⟩
        have hj := ub_last (n := n) (k := j) (by omega)
        rw [HL.out] at hj
        have : n / 128 ^ j / 128 = 0 := by rw [Nat.div_div_eq_div_mul, ← Nat.pow_succ, hmm, hm00]
        have h3 : n / 128 ^ j < 128 := by omega
        have := hj.2 h3
        omega
      clear hor hfull has hla hm1
      have HLk := Lib.hid hLk
      have hkc : k + 1 ≤ c := by omega
      have hkT : k + 1 ≤ T := by omega
      clear hLk
      rcases Nat.eq_or_lt_of_le hkc with hce | hcl
      · by_cases hk0 : k = 0
        · subst hk0
          subst hce
          go_wp2
          go_ret
          exact ⟨rfl, rest_rd HR.out HN.out (HL.out.trans HLk.out) HT.out hTc hc9 (fun h => by omega) (by omega) (by omega)⟩
        · have hk1 : (0 : Int) < (k : Int) := by omega
          have hb0 : ((mm : Int) == 0) = false := by simpa using hm0 hk1
          subst hce
          by_cases hk9 : k = 9
          · subst hk9
            have hb1 := hm9 rfl
            go_wp2
            go_ret
            exact ⟨rfl, rest_rd HR.out HN.out (HL.out.trans HLk.out) HT.out hTc hc9 (fun h => by omega) (by omega) (by omega)⟩
          · have hb9 : ((k : Int) == 9) = false := by simp; omega
            go_wp2
            go_ret
            exact ⟨rfl, rest_rd HR.out HN.out (HL.out.trans HLk.out) HT.out hTc hc9 (fun h => by omega) (by omega) (by omega)⟩
      · by_cases hk0 : k = 0
        · subst hk0
          go_wp2
          go_ret
          exact ⟨rfl, rest_rd HR.out HN.out (HL.out.trans HLk.out) HT.out hTc hc9 (fun h => rfl) (by omega) (by omega)⟩
        · have hk1 : (0 : Int) < (k : Int) := by omega
          have hb0 : ((mm : Int) == 0) = false := by simpa using hm0 hk1
          by_cases hk9 : k = 9
          · subst hk9
            have hb1 := hm9 rfl
            go_wp2
            go_ret
            exact ⟨rfl, rest_rd HR.out HN.out (HL.out.trans HLk.out) HT.out hTc hc9 (fun h => rfl) (by omega) (by omega)⟩
          · have hb9 : ((k : Int) == 9) = false := by simp; omega
            go_wp2
            go_ret
            exact ⟨rfl, rest_rd HR.out HN.out (HL.out.trans HLk.out) HT.out hTc hc9 (fun h => rfl) (by omega) (by omega)⟩
    · rw [if_neg hs] at hcx
      have hcx2 : w.cell? ⟨g, o + k, none⟩ = some (.int .u8 ((mm % 128 : Nat) + 128 : Int)) := by
        rw [hcx]
        unfold bc
        congr 2
        simp
        omega
      have hLk : k + 1 < L := by
        have := mt hla.1 (by omega : ¬ mm < 128)
        omega
      obtain ⟨y, hy⟩ : ∃ y, mm % 128 = y := ⟨_, rfl⟩
      rw [hy] at hcx2
      have hyl : y < 128 := by omega
      clear hcx hx hat hla
      go_upto_region 7 with fail
      have hor := step_or n k hn ((y : Int) + 128) (by omega) (by rw [hmm, hy]; omega)
      rw [hacc] at hor
      rw [hor]
      clear hor has
      have hm1 : (128 : Int) ≤ (y : Int) + 128 := by omega
      go_wp2
      go_roundw
      case rel => exact ⟨k + 1, hLk, by go_num, rfl, Lib.hid ⟨qn, rfl⟩⟩
      case measure => simp [intOf]; omega
end Go.Proofs.Ytpgacadnmekdhaa.Cd
