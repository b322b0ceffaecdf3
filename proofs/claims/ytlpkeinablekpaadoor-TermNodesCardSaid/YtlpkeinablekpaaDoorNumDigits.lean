/- The contract of num.Digits: a number has its text; what was there stays. -/
import Derived.Test.YtlpkeinablekpaaDoorNumSize
import Derived.Test.YtlpkeinablekpaaDoorNumWidth
import Derived.Test.YtlpkeinablekpaaDoorNumPlain
namespace Go.Proofs.YtlpkeinablekpaaDoor.Num
open Go.RowKit Go.Proofs.YtlpkeinablekpaaDoor
set_option maxRecDepth 100000

theorem length_dg_width (n : Nat) : (dg n).length = widthN n := by
  induction n using Nat.strongRecOn with
  | ind n ih =>
    rw [dg, widthN]
    split
    · rfl
    · rw [List.length_append, ih _ (by omega)]; rfl
theorem low_width (n : Nat) : low n (widthN n) = dg n := by rw [← length_dg_width, low_dg]
def cellsOf (l : List UInt8) : List Value := l.map fun b => .int .u8 (b.toNat : Int)
/-- What the array holds behind k rounds. -/
def laid (n c k : Nat) : List Value := List.replicate (c - k) (.int .u8 0) ++ cellsOf (low n k)
theorem laid_zero (n c : Nat) : laid n c 0 = List.replicate c (.int .u8 0) := by simp [laid, low, cellsOf]
theorem laid_set {n c k : Nat} (hk : k < c) : (laid n c k).set (c - 1 - k) (.int .u8 ((48 + n / 10 ^ k % 10 : Nat) : Int)) = laid n c (k + 1) := by
  obtain ⟨m, rfl⟩ : ∃ m, c = k + 1 + m := ⟨c - (k + 1), by omega⟩
  unfold laid
  rw [show k + 1 + m - k = m + 1 from by omega, show k + 1 + m - 1 - k = m from by omega, show k + 1 + m - (k + 1) = m from by omega, low_front,
    List.replicate_succ', List.append_assoc, List.set_append_right _ _ (by simp)]
  simp only [List.length_replicate, Nat.sub_self]
  show List.replicate m _ ++ (Value.int IntKind.u8 _ :: cellsOf (low n k)) = List.replicate m _ ++ (cellsOf (digit (n / 10 ^ k % 10) :: low n k))
  unfold cellsOf
  rw [List.map_cons, digit_toNat (Nat.mod_lt _ (by omega))]
theorem laid_at {n c k : Nat} (hk : k < c) : (laid n c k)[c - 1 - k]? = some (.int .u8 0) := by
  unfold laid
  rw [List.getElem?_append_left (by simp; omega), List.getElem?_replicate, if_pos (by omega)]
theorem laid_end (n : Nat) : laid n (widthN n) (widthN n) = cellsOf (dg n) := by unfold laid; rw [low_width]; simp
theorem byteInfo : (Tryd.prog.info? 5).map (fun i => (i.zero, i.size, i.bytes)) = some (some (.int .u8 0), 1, 1) := by kernel_rfl
theorem minus_text {n : Int} (h : n < 0) : (⟨#[45]⟩ : ByteArray) ++ ⟨(dg (sizeN n)).toArray⟩ = ⟨(txt n).toArray⟩ := by
  unfold txt sizeN
  rw [if_pos h]
  apply ByteArray.ext
  simp
theorem plus_text {n : Int} (h : 0 ≤ n) : (⟨(dg (sizeN n)).toArray⟩ : ByteArray) = ⟨(txt n).toArray⟩ := by
  unfold txt sizeN
  rw [if_neg (by omega)]
def Texts (n : Int) (w : World) (e : Ending) (w' : World) : Prop := e = .returned (.string ⟨(txt n).toArray⟩) ∧ Below w.heap.size w w'
set_option maxHeartbeats 800000 in
theorem digits_any (n : Int) (w : World) (h0 : -9223372036854775808 ≤ n) (h1 : n ≤ 9223372036854775807) :
    Calls Tryd.prog 49 #[.int .i64 n] w (Texts n w) := by
  obtain ⟨i0, hi, hz0, hz1, hz2⟩ := info_parts byteInfo
  have hs : sizeN n < 18446744073709551616 := by unfold sizeN; omega
  have hc := widthN_20 hs
  have hc0 := widthN_pos (sizeN n)
  go_enter Tryd.func49, Tryd.ntmps49
  go_wp2_with (first
    | (go_at_call 68; refine (size_any _ _ h0 h1).mono ?_; rintro e w' ⟨rfl, rfl⟩)
    | (go_at_call 69; refine (width_any _ _ hs).mono ?_; rintro e w' ⟨rfl, rfl⟩)
    | (at_make; refine wpList_make_full _ rfl _ _ 99 rfl w.heap.size 5 i0 (.int .u8 0) 1 Tryd.underlying99 hi hz0 hz1 _ _ _ _ (widthN (sizeN n)) rfl rfl rfl rfl (by rw [hz2]; omega) (by unfold maxLen; omega) (Nat.le_refl _) ?_))
  intro w1 hown hgr
  rw [toList_madeCells_one, ← laid_zero (sizeN n)] at hown
  have hb1 : Below w.heap.size w w1 := (Below.refl _ _).grown hgr (Nat.le_refl _) (by simp)
  clear hgr hi hz0 hz1 hz2
  go_wp2
  go_loopw [3, 14] (fun x i wr => ∃ k m : Nat, k ≤ widthN (sizeN n) ∧ i = .int .i64 k ∧ x = .int .u64 m ∧ Hid (m = sizeN n / 10 ^ k) ∧ m ≤ sizeN n ∧
      Hid (wr.ownsRow w.heap.size 5 1 (.slice (some ⟨w.heap.size, 0, none⟩) (widthN (sizeN n)) (widthN (sizeN n))) (widthN (sizeN n)) (laid (sizeN n) (widthN (sizeN n)) k)) ∧ Hid (Below w.heap.size w wr))
    (fun _ i _ => widthN (sizeN n) - (intOf i).toNat)
  case atStart => exact ⟨0, sizeN n, by omega, rfl, rfl, by simp [Hid], Nat.le_refl _, hown, hb1⟩
  case round =>
    obtain ⟨k, m, hk, rfl, rfl, hm, hmn, hO, hB⟩ := hrel
    clear hown hb1
    by_cases hlt : k < widthN (sizeN n)
    · have hcell : wr.cell? ⟨w.heap.size, widthN (sizeN n) - 1 - k, none⟩ = some (.int .u8 0) := by
        rw [hO.out.cellAt _ (by omega), laid_at hlt]
      have hfr : wr.frozen? ⟨w.heap.size, widthN (sizeN n) - 1 - k, none⟩ = false := hO.out.frozenAt _
      go_wp2
      go_roundw
      case rel =>
        refine ⟨k + 1, m / 10, by omega, by go_num, by go_num, ?_, by omega, ?_, ?_⟩
        · have := hm.out
          unfold Hid
          rw [this, Nat.pow_succ, Nat.div_div_eq_div_mul]
        · have h1 := (hO.out.stored (widthN (sizeN n) - 1 - k) (.int .u8 (48 + (m : Int) % 10))).1
          have h2 := laid_set (n := sizeN n) hlt
          rw [← hm.out] at h2
          rw [show ((48 : Int) + (m : Int) % 10) = ((48 + m % 10 : Nat) : Int) from by omega, h2] at h1
          exact h1
        · exact hB.out.setCell (Nat.le_refl _) _
      case measure => simp [intOf]; omega
    · have hk' : k = widthN (sizeN n) := by omega
      subst hk'
      clear hlt
      have hcv : (convert 99 9 (.slice (some ⟨w.heap.size, 0, none⟩) (widthN (sizeN n)) (widthN (sizeN n)))).run Tryd.prog wr = .ok (.string ⟨(dg (sizeN n)).toArray⟩) wr := by
        have := hO.out
        rw [laid_end] at this
        have h2 := run_convert_bytes_back (P := Tryd.prog) wr 99 9 5 ⟨w.heap.size, 0, none⟩ (widthN (sizeN n)) (dg (sizeN n)) Tryd.underlying99 Tryd.underlying5 Tryd.underlying9
          (fun j hj => this.cells (g := w.heap.size) rfl j _ (by simp [cellsOf, hj]))
        rw [length_dg_width] at h2
        exact h2
      by_cases hn : n < 0
      · have hadd := run_string_add_sum (P := Tryd.prog) (w := wr) ⟨#[45]⟩ ⟨(dg (sizeN n)).toArray⟩ (by
          have : (dg (sizeN n)).length ≤ 20 := by rw [length_dg_width]; exact hc
          simp [ByteArray.size]; omega)
        go_wp2
        go_ret
        refine ⟨?_, hB.out⟩
        exact ret_str (minus_text hn)
      · have hn' : 0 ≤ n := by omega
        clear hn
        go_wp2
        go_ret
        refine ⟨?_, hB.out⟩
        exact ret_str (plus_text hn')
theorem digits_any' (n : Int) (w : World) (h0 : -9223372036854775808 ≤ n) (h1 : n ≤ 9223372036854775807) : Calls Tryd.prog 49 #[.int .i64 n] w fun e w' => e = .returned (.string ⟨(txt n).toArray⟩) ∧ Below w.heap.size w w' := digits_any n w h0 h1
theorem txt_list (n : Int) : ((⟨(txt n).toArray⟩ : ByteArray)).data.toList = txt n := by simp
theorem txt_size {n : Int} (h0 : -9223372036854775808 ≤ n) (h1 : n ≤ 9223372036854775807) : ((⟨(txt n).toArray⟩ : ByteArray)).size ≤ 21 := by
  have hs : sizeN n < 18446744073709551616 := by unfold sizeN; omega
  have hl : (dg (sizeN n)).length ≤ 20 := by rw [length_dg_width]; exact widthN_20 hs
  show (txt n).toArray.size ≤ 21
  unfold txt
  unfold sizeN at hl
  split <;> simp <;> omega
end Go.Proofs.YtlpkeinablekpaaDoor.Num
