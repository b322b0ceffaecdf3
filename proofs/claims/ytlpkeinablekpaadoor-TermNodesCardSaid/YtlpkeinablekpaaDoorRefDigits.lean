/- The contract of the reference on numbers' texts. -/
import Derived.Test.YtlpkeinablekpaaDoorNumDigits
namespace Go.Proofs.YtlpkeinablekpaaDoor.Num
open Go.RowKit Go.Proofs.YtlpkeinablekpaaDoor
set_option maxRecDepth 100000

theorem one_byte (w : World) (m : Nat) (hm : m < 10) : (convert 99 9 (.slice (some ⟨w.heap.size, 0, none⟩) 1 1)).run Tryd.prog (w.alloc (.cells #[.int .u8 (48 + (m : Int))] 5)) =
    .ok (.string ⟨[digit m].toArray⟩) (w.alloc (.cells #[.int .u8 (48 + (m : Int))] 5)) := by
  refine run_convert_bytes_back (P := Tryd.prog) _ 99 9 5 ⟨w.heap.size, 0, none⟩ 1 [digit m] Tryd.underlying99 Tryd.underlying5 Tryd.underlying9 fun j hj => ?_
  obtain rfl : j = 0 := by simpa using hj
  show World.cell? _ ⟨w.heap.size, 0, none⟩ = _
  rw [World.cell?_alloc_mark]
  simp [digit_toNat hm]
set_option maxHeartbeats 400000 in
theorem ref_low (m : Nat) (hm : m < 10) (w : World) :
    Calls Tryd.prog 51 #[.int .i64 (m : Int)] w fun e w' => e = .returned (.string ⟨(dg m).toArray⟩) ∧ Below w.heap.size w w' := by
  have h1 := one_byte w m hm
  have h2 : ((m : Int) == -9223372036854775808) = false := by rw [beq_eq_false_iff_ne]; omega
  go_enter Tryd.func51, Tryd.ntmps51
  go_wp2_with fail
  go_ret
  exact ⟨ret_str (by rw [dg_lt hm]), (Below.refl _ _).alloc (Nat.le_refl _) _⟩
theorem conv_kept (w0 w1 : World) (m : Nat) (hm : m < 10) (hb : Below (w0.alloc (.cells #[.int .u8 (48 + (m : Int))] 5)).heap.size (w0.alloc (.cells #[.int .u8 (48 + (m : Int))] 5)) w1) :
    (convert 99 9 (.slice (some ⟨w0.heap.size, 0, none⟩) 1 1)).run Tryd.prog w1 = .ok (.string ⟨[digit m].toArray⟩) w1 := by
  refine run_convert_bytes_back (P := Tryd.prog) _ 99 9 5 ⟨w0.heap.size, 0, none⟩ 1 [digit m] Tryd.underlying99 Tryd.underlying5 Tryd.underlying9 fun j hj => ?_
  obtain rfl : j = 0 := by simpa using hj
  show World.cell? _ ⟨w0.heap.size, 0, none⟩ = _
  rw [hb.cell (by simp), World.cell?_alloc_mark]
  simp [digit_toNat hm]
theorem add_byte (W : World) (m : Nat) (hm : (dg (m / 10)).length ≤ 20) (h10 : 10 ≤ m) : (Op.stringOp .add ⟨(dg (m / 10)).toArray⟩ ⟨[digit (m % 10)].toArray⟩).run Tryd.prog W = .ok (.string ⟨(dg m).toArray⟩) W := by
  rw [run_string_add_sum (P := Tryd.prog) (w := W) _ _ (by simp [ByteArray.size]; omega)]
  have : (⟨(dg (m / 10)).toArray⟩ : ByteArray) ++ ⟨[digit (m % 10)].toArray⟩ = ⟨(dg m).toArray⟩ := by
    rw [dg_ge h10]
    apply ByteArray.ext
    simp
  rw [this]
set_option maxHeartbeats 1000000 in
theorem ref_high (m : Nat) (h10 : 10 ≤ m) (hlt : m ≤ 9223372036854775807)
    (ih : ∀ w : World, Calls Tryd.prog 51 #[.int .i64 ((m : Int) / 10)] w fun e w' => e = .returned (.string ⟨(dg (m / 10)).toArray⟩) ∧ Below w.heap.size w w') (w : World) :
    Calls Tryd.prog 51 #[.int .i64 (m : Int)] w fun e w' => e = .returned (.string ⟨(dg m).toArray⟩) ∧ Below w.heap.size w w' := by
  have hlen : (dg (m / 10)).length ≤ 20 := by rw [length_dg_width]; exact widthN_20 (by omega)
  have h1 : ∀ W : World, (convert 99 9 (.slice (some ⟨W.heap.size, 0, none⟩) 1 1)).run Tryd.prog (W.alloc (.cells #[.int .u8 (48 + (m : Int) % 10)] 5)) =
      .ok (.string ⟨[digit (m % 10)].toArray⟩) (W.alloc (.cells #[.int .u8 (48 + (m : Int) % 10)] 5)) := fun W => by
    have := one_byte W (m % 10) (by omega)
    rw [show ((m % 10 : Nat) : Int) = (m : Int) % 10 from by omega] at this
    exact this
  have h1d : (convert 99 9 (.slice (some ⟨w.heap.size, 0, none⟩) 1 1)).run Tryd.prog (w.alloc (.cells #[.int .u8 (48 + (m : Int) % 10)] 5)).drew =
      .ok (.string ⟨[digit (m % 10)].toArray⟩) (w.alloc (.cells #[.int .u8 (48 + (m : Int) % 10)] 5)).drew := h1 w.drew
  have hk : Hid (∀ w1, Below (w.drew.alloc (.cells #[.int .u8 (48 + (m : Int) % 10)] 5)).heap.size (w.drew.alloc (.cells #[.int .u8 (48 + (m : Int) % 10)] 5)) w1 →
      (convert 99 9 (.slice (some ⟨w.heap.size, 0, none⟩) 1 1)).run Tryd.prog w1 = .ok (.string ⟨[digit (m % 10)].toArray⟩) w1) := fun w1 h => by
    refine conv_kept w.drew w1 (m % 10) (by omega) ?_
    rw [show ((m % 10 : Nat) : Int) = (m : Int) % 10 from by omega]
    exact h
  have h3 := fun W => add_byte W m hlen h10
  have h2 : ((m : Int) == -9223372036854775808) = false := by rw [beq_eq_false_iff_ne]; omega
  have IH := Lib.hid ih
  clear ih hlen
  have e1 : IntKind.i64.wrap ((m : Int) / 10) = (m : Int) / 10 := IntWalk.i64_in _ (by omega)
  have e2 : ((m : Int)).tmod 10 = (m : Int) % 10 := Int.tmod_eq_emod_of_nonneg (by omega)
  have e3 : IntKind.i64.wrap (48 + (m : Int) % 10) = 48 + (m : Int) % 10 := IntWalk.i64_in _ (by omega)
  have e4 : IntKind.u8.wrap (48 + (m : Int) % 10) = 48 + (m : Int) % 10 := IntWalk.u8_in _ (by omega)
  go_enter Tryd.func51, Tryd.ntmps51
  go_wp2_with fail
  go_region_with (go_at_call 51; (with_reducible refine (IH.out _).mono ?_); rintro e w1 ⟨rfl, hb⟩; (first | (have hk1 := hk.out _ hb) | skip))
  all_goals
    clear hk h1
    go_wp2_with fail
    go_ret
    refine ⟨rfl, ?_⟩
    first
      | exact ((Below.refl _ _).alloc (Nat.le_refl _) _).drew.trans (hb.mono (by simp))
      | exact ((Below.refl _ _).drew.trans hb).alloc hb.size _
theorem ref_nat : ∀ (m : Nat), m ≤ 9223372036854775807 → ∀ (w : World),
    Calls Tryd.prog 51 #[.int .i64 (m : Int)] w fun e w' => e = .returned (.string ⟨(dg m).toArray⟩) ∧ Below w.heap.size w w' := by
  intro m
  induction m using Nat.strongRecOn with
  | ind m ih =>
    intro hm w
    by_cases h : m < 10
    · exact ref_low m h w
    · refine ref_high m (by omega) hm (fun W => ?_) w
      have := ih (m / 10) (by omega) (by omega) W
      rw [show ((m / 10 : Nat) : Int) = (m : Int) / 10 from by omega] at this
      exact this
theorem dg_least : dg 9223372036854775808 = [57, 50, 50, 51, 51, 55, 50, 48, 51, 54, 56, 53, 52, 55, 55, 53, 56, 48, 56] := by
  rw [dg_ge (by omega), dg_ge (by omega), dg_ge (by omega), dg_ge (by omega), dg_ge (by omega), dg_ge (by omega), dg_ge (by omega), dg_ge (by omega), dg_ge (by omega), dg_ge (by omega),
    dg_ge (by omega), dg_ge (by omega), dg_ge (by omega), dg_ge (by omega), dg_ge (by omega), dg_ge (by omega), dg_ge (by omega), dg_ge (by omega), dg_lt (by omega)]
  rfl
set_option maxHeartbeats 400000 in
theorem ref_any (n : Int) (h0 : -9223372036854775808 ≤ n) (h1 : n ≤ 9223372036854775807) (w : World) : Calls Tryd.prog 51 #[.int .i64 n] w (Texts n w) := by
  by_cases hp : 0 ≤ n
  · have := ref_nat n.toNat (by omega) w
    rw [Int.toNat_of_nonneg hp] at this
    refine this.mono fun _ _ ⟨h, hb⟩ => ⟨h.trans (ret_str ?_), hb⟩
    rw [show n.toNat = sizeN n from by unfold sizeN; omega]
    exact plus_text hp
  by_cases hl : n = -9223372036854775808
  · subst hl
    have ht : (⟨(txt (-9223372036854775808)).toArray⟩ : ByteArray) = ⟨#[45, 57, 50, 50, 51, 51, 55, 50, 48, 51, 54, 56, 53, 52, 55, 55, 53, 56, 48, 56]⟩ := by
      unfold txt
      rw [if_pos (by omega), show (-9223372036854775808 : Int).natAbs = 9223372036854775808 from rfl, dg_least]
    have HT := Lib.hid ht
    clear ht
    go_enter Tryd.func51, Tryd.ntmps51
    go_wp2_with fail
    go_ret
    exact ⟨ret_str HT.out.symm, Below.refl _ _⟩
  · have hn : n < 0 := by omega
    have h2 : (n == -9223372036854775808) = false := by simpa using hl
    have hr : ∀ W : World, Calls Tryd.prog 51 #[.int .i64 (-n)] W fun e w' => e = .returned (.string ⟨(dg (sizeN n)).toArray⟩) ∧ Below W.heap.size W w' := fun W => by
      have := ref_nat (sizeN n) (by unfold sizeN; omega) W
      rw [← size_neg hn] at this
      exact this
    have HR := Lib.hid hr
    have hadd : ∀ W : World, (Op.stringOp .add ⟨#[45]⟩ ⟨(dg (sizeN n)).toArray⟩).run Tryd.prog W = .ok (.string ⟨(txt n).toArray⟩) W := fun W => by
      have hlen : (dg (sizeN n)).length ≤ 20 := by rw [length_dg_width]; exact widthN_20 (by unfold sizeN; omega)
      rw [run_string_add_sum (P := Tryd.prog) (w := W) _ _ (by simp [ByteArray.size]; omega), minus_text hn]
    have lo : -9223372036854775808 < n := by omega
    clear hr hp hl
    go_enter Tryd.func51, Tryd.ntmps51
    go_wp2_with (go_at_call 51; refine (HR.out _).mono ?_; rintro e w1 ⟨rfl, hb⟩)
    go_ret
    exact ⟨rfl, hb⟩
theorem ref_any' (n : Int) (h0 : -9223372036854775808 ≤ n) (h1 : n ≤ 9223372036854775807) (w : World) : Calls Tryd.prog 51 #[.int .i64 n] w fun e w' => e = .returned (.string ⟨(txt n).toArray⟩) ∧ Below w.heap.size w w' := ref_any n h0 h1 w
end Go.Proofs.YtlpkeinablekpaaDoor.Num
