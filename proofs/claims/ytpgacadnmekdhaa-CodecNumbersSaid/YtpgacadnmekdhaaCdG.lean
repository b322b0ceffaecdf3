/- The reference's bytes. -/
import Derived.Test.YtpgacadnmekdhaaCdF
import Derived.Deep.RegionWith
namespace Go.Proofs.Ytpgacadnmekdhaa.Cd
open Go.RowKit Go.Proofs.Ytpgacadnmekdhaa
set_option linter.unusedVariables false
set_option maxRecDepth 100000
theorem u8_of {m : Nat} (h : m < 256) : (Value.int .u8 (m : Int)) = bc (UInt8.ofNat m) := by
  unfold bc
  congr 1
  simp
  omega
theorem below_of_drew {B : Nat} {W w' : World} (h : Below B W.drew w') : Below B W w' := (below_drewN (Below.refl B W) 1).trans h
set_option maxHeartbeats 4000000 in
theorem ref_uint (k : Nat) : ∀ (n : Nat) (w : World), n < 128 ^ (k + 1) → n < 18446744073709551616 →
    Calls Try.prog 32 #[.int .u64 n] w fun e w' => e = .returned (.string ⟨(ub n).toArray⟩) ∧ Below w.heap.size w w' := by
  induction k with
  | zero =>
    intro n w hk hn
    have hs : n < 128 := by simpa using hk
    have h1 : (n : Int) < 128 := by omega
    have hcv := conv_str (lb_one (w := w) (u8_of (m := n) (by omega))) 1 1 rfl
    have hu := ub_small hs
    rw [hu]
    clear hu
    go_enter Try.func32, Try.ntmps32
    go_wp2
    go_ret
    exact ⟨rfl, by go_grown⟩
  | succ k ih =>
    intro n w hk hn
    by_cases hs : n < 128
    · have h1 : (n : Int) < 128 := by omega
      have hcv := conv_str (lb_one (w := w) (u8_of (m := n) (by omega))) 1 1 rfl
      have hu := ub_small hs
      rw [hu]
      clear hu
      go_enter Try.func32, Try.ntmps32
      go_wp2
      go_ret
      exact ⟨rfl, by go_grown⟩
    · have h1 : ¬ (n : Int) < 128 := by omega
      obtain ⟨y, hy⟩ : ∃ y, n % 128 = y := ⟨_, rfl⟩
      obtain ⟨d, hd⟩ : ∃ d, n / 128 = d := ⟨_, rfl⟩
      obtain ⟨s2, hs2⟩ : ∃ s2 : ByteArray, (⟨(ub d).toArray⟩ : ByteArray) = s2 := ⟨_, rfl⟩
      obtain ⟨s1, hs1⟩ : ∃ s1 : ByteArray, (⟨[UInt8.ofNat (y + 128)].toArray⟩ : ByteArray) = s1 := ⟨_, rfl⟩
      have hz1 : s1.size = 1 := by rw [← hs1]; rfl
      have hz2 : s2.size ≤ 10 := by rw [← hs2]; exact ub_ten (by omega)
      have ih' := (fun w => ih d w (by rw [← hd, Nat.div_lt_iff_lt_mul (by decide)]; rw [Nat.pow_succ] at hk; exact hk) (by omega))
      rw [hs2] at ih'
      have IH := Lib.hid ih'
      have HS1 := Lib.hid hs1
      have HS2 := Lib.hid hs2
      clear ih' hs2 hs1
      have hyl : y < 128 := by omega
      have hr : (n : Int).tmod 128 = (y : Int) := by rw [Int.tmod_eq_emod_of_nonneg (by omega)]; omega
      have hq : (n : Int).tdiv 128 = (d : Int) := by rw [Int.tdiv_eq_ediv_of_nonneg (by omega)]; omega
      have hw1 : IntKind.u8.wrap (y : Int) = (y : Int) := by rw [IntKind.wrap_u8]; omega
      have hw2 : IntKind.u8.wrap ((y : Int) + 128) = (y : Int) + 128 := by rw [IntKind.wrap_u8]; omega
      have hub := ub_big hs
      rw [hy, hd] at hub
      rw [hub]
      clear ih hub
      have hu : Value.int .u8 ((y : Int) + 128) = bc (UInt8.ofNat (y + 128)) := by
        rw [← u8_of (m := y + 128) (by omega)]
        congr 1
      have HU := Lib.hid hu
      clear hu
      have hw3 : IntKind.u64.wrap (d : Int) = (d : Int) := by rw [IntKind.wrap_u64]; omega
      have hcv1 : (convert 58 9 (.slice (some ⟨w.heap.size, 0, none⟩) 1 1)).run Try.prog ((w.alloc (.cells #[.int .u8 ((y : Int) + 128)] 5)).drew) = .ok (.string s1) ((w.alloc (.cells #[.int .u8 ((y : Int) + 128)] 5)).drew) := by rw [← HS1.out]; exact conv_str (lb_one (w := w.drew) HU.out) 1 1 rfl
      go_enter Try.func32, Try.ntmps32
      go_upto_region 3 with fail
      go_region_with (first
        | (go_at_call 32
           refine (IH.out _).mono ?_
           rintro e w2 ⟨rfl, hb2⟩
           have HB2 := Lib.hid hb2
           first
             | have hcv2 : (convert 58 9 (.slice (some ⟨w.heap.size, 0, none⟩) 1 1)).run Try.prog w2 = .ok (.string s1) w2 := by rw [← HS1.out]; exact conv_str (Lb.call (w := (w.alloc (.cells #[.int .u8 ((y : Int) + 128)] 5)).drew) (lb_one (w := w.drew) HU.out) hb2) 1 1 rfl
             | (have hcv3 := conv_str (lb_one (w := w2) HU.out) 1 1 rfl; rw [HS1.out] at hcv3))
        | fail)
      all_goals
        have hcat : Ending.returned (.string (s1 ++ s2)) = .returned (.string ⟨(UInt8.ofNat (y + 128) :: ub d).toArray⟩) := by
          rw [← HS1.out, ← HS2.out]
          congr 2
        go_wp2
        go_ret
        refine ⟨hcat, ?_⟩
        first
          | exact (((Below.refl _ w).alloc (Nat.le_refl _) (.cells #[.int .u8 ((y : Int) + 128)] 5)).trans (Below.mono (below_of_drew HB2.out) (by simp)))
          | exact (((below_drewN (Below.refl _ w) 1)).trans HB2.out).alloc (by have := HB2.out.size; simpa using this) _
end Go.Proofs.Ytpgacadnmekdhaa.Cd
