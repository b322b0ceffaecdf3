/- Values' texts as the law has them; what may be; what is read. -/
import Derived.Test.YtlpkeinablekpaaDoorVdB
import Derived.Test.YtlpkeinablekpaaDoorEvlJ
import Derived.Test.YtlpkeinablekpaaDoorVdZ
import Derived.Test.YtlpkeinablekpaaDoorNumAll
namespace Go.Proofs.YtlpkeinablekpaaDoor.Vd
open Go.RowKit Go.Proofs.YtlpkeinablekpaaDoor Go.Proofs.YtlpkeinablekpaaDoor.Door Go.Proofs.YtlpkeinablekpaaDoor.Ev Go.Proofs.YtlpkeinablekpaaDoor.Sch Go.Proofs.YtlpkeinablekpaaDoor.Evl Go.Proofs.YtlpkeinablekpaaDoor.Ty
set_option linter.unusedVariables false
set_option maxRecDepth 100000
theorem dbl_append : ∀ a b : List UInt8, dbl (a ++ b) = dbl a ++ dbl b
  | [], _ => rfl
  | c :: a, b => by
    have ih := dbl_append a b
    by_cases h : c = 39
    · simp [dbl, h, ih]
    · simp [dbl, h, ih]
def acc (l : List UInt8) (i : Nat) : ByteArray := B (39 :: dbl (l.take i))
theorem add_B (a b : List UInt8) : B a ++ B b = B (a ++ b) := by
  unfold B
  apply ByteArray.ext
  apply Array.ext'
  simp
theorem lquote_any (s : ByteArray) (hs : s.size ≤ 100000) (w : World) : Calls Tryd.prog 29 #[.string s] w fun e w' => e = .returned (.string (quoteB s)) ∧ w = w' := by
  obtain ⟨l, hl⟩ : ∃ l, s.data.toList = l := ⟨_, rfl⟩
  have HL := Lib.hid hl
  have HN := Lib.hid (show l.length = s.size by rw [← hl]; exact Array.length_toList)
  clear hl
  go_enter Tryd.func29, Tryd.ntmps29
  go_wp2
  go_loop [3, 4] (fun r i => ∃ k : Nat, k ≤ s.size ∧ i = .int .i64 k ∧ r = .string (acc l k)) (fun _ i => s.size - (intOf i).toNat)
  case atStart => exact ⟨0, by omega, rfl, rfl⟩
  case round =>
    obtain ⟨k, hk, rfl, rfl⟩ := hrel
    have hsz : (acc l k).size ≤ 200001 := by
      unfold acc
      rw [B_size]
      have := (dbl_len (l.take k)).2
      have h2 : (l.take k).length ≤ k := by rw [List.length_take]; omega
      simp only [List.length_cons]
      omega
    by_cases hlt : k < s.size
    · have hx : s.extract k (k + 1) = B [s[k]] := by
        apply ByteArray.ext
        apply Array.ext'
        rw [ByteArray.data_extract, Array.toList_extract]
        have hk2 : k < s.data.toList.length := by rw [Array.length_toList]; exact hlt
        show (s.data.toList.drop k).take (k + 1 - k) = [s[k]]
        rw [List.drop_eq_getElem_cons hk2, show k + 1 - k = 1 by omega]
        simp
        rfl
      have hsl := run_slice_string (P := Tryd.prog) w 9 s .i64 .i64 (k : Int) ((k : Int) + 1) Tryd.underlying9 (by omega) (by omega) (by omega)
      rw [show s.extract (k : Int).toNat ((k : Int) + 1).toNat = s.extract k (k + 1) by congr 1, hx] at hsl
      have hw1 : IntKind.i64.wrap ((k : Int) + 1) = (k : Int) + 1 := by rw [IntKind.wrap_i64]; omega
      have HT : Hid (l.take (k + 1) = l.take k ++ [s[k]]) := by unfold Hid; rw [← HL.out]; exact take_snoc s k hlt
      have hB1 : (B [s[k]]).size = 1 := by rw [B_size]; rfl
      obtain ⟨c, hc⟩ : ∃ c, s[k] = c := ⟨_, rfl⟩
      rw [hc] at HT hsl hB1
      obtain ⟨R, hR⟩ : ∃ R, acc l k = R := ⟨_, rfl⟩
      have HR := Lib.hid hR
      rw [hR] at hsz
      obtain ⟨C, hC⟩ : ∃ C, B [c] = C := ⟨_, rfl⟩
      have HC := Lib.hid hC
      rw [hC] at hsl hB1
      have h1 : ¬ 9223372036854775807 < R.size + 1 := by omega
      have h2 : ¬ 9223372036854775807 < R.size + C.size := by omega
      have h3 : ¬ 9223372036854775807 < R.size + 1 + C.size := by omega
      have hki : (k : Int) < (s.size : Int) := by omega
      rw [hR]
      clear hx hR hC
      by_cases h39 : c = 39
      · have hci : ((c.toNat : Int) == 39) = true := by rw [h39]; rfl
        have H39 := Lib.hid h39
        clear h39
        go_wp2
        go_round
        case rel => exact ⟨k + 1, by omega, by go_num, by
          rw [← HR.out, ← HC.out]
          unfold acc
          rw [HT.out, dbl_append, H39.out, show (⟨#[39]⟩ : ByteArray) = B [39] from rfl, add_B, add_B]
          simp [dbl]⟩
        case measure => simp [intOf]; omega
      · have hci : ((c.toNat : Int) == 39) = false := by
          rw [beq_eq_false_iff_ne]
          intro e
          apply h39
          apply UInt8.toNat_inj.1
          have : (39 : UInt8).toNat = 39 := rfl
          omega
        have H39 := Lib.hid h39
        clear h39
        go_wp2
        go_round
        case rel => exact ⟨k + 1, by omega, by go_num, by
          rw [← HR.out, ← HC.out]
          unfold acc
          rw [HT.out, dbl_append, add_B]
          simp [dbl, H39.out]⟩
        case measure => simp [intOf]; omega
    · have hk' : k = s.size := by omega
      subst hk'
      have h1 : ¬ 9223372036854775807 < (acc l s.size).size + 1 := by omega
      have HE : Hid (acc l s.size ++ ⟨#[39]⟩ = quoteB s) := by
        unfold Hid acc quoteB
        rw [show (⟨#[39]⟩ : ByteArray) = B [39] from rfl, add_B, List.take_of_length_le (by rw [HN.out]; exact Nat.le_refl _), HL.out]
        rfl
      generalize acc l s.size = R at h1 HE hsz ⊢
      go_wp2
      go_ret
      exact ⟨by rw [← HE.out]; rfl, rfl⟩
/-- A value's text. -/
def showB (v : VV) : ByteArray := if v.k = 1 then ⟨(Num.txt v.i).toArray⟩ else if v.k = 2 then quoteB v.s else if v.k = 3 then truthB v.b else ⟨#[63]⟩
theorem d_ne {k n : Int} (h : ¬ k = n) : (k == n) = false := beq_eq_false_iff_ne.2 h
theorem show_any (k i : Int) (s : ByteArray) (b : Bool) (w : World) (hm : ML w) (hs : s.size < 1000000) (h0 : -9223372036854775808 ≤ i) (h1 : i ≤ 9223372036854775807) :
    Calls Tryd.prog 24 #[.agg #[.int .i64 k, .int .i64 i, .string s, .bool b]] w fun e w' => e = .returned (.string (showB ⟨k, i, s, b⟩)) ∧ Below w.heap.size w w' := by
  by_cases k1 : k = 1
  · subst k1
    rw [show showB ⟨1, i, s, b⟩ = ⟨(Num.txt i).toArray⟩ from rfl]
    obtain ⟨R, hR⟩ : ∃ R : ByteArray, (⟨(Num.txt i).toArray⟩ : ByteArray) = R := ⟨_, rfl⟩
    have HD := Lib.hid (fun w => Num.digits_any' i w h0 h1)
    rw [hR] at HD ⊢
    clear hR h0 h1 hs hm
    go_enter Tryd.func24, Tryd.ntmps24
    go_wp2_with fail
    refine (HD.out _).mono ?_
    rintro e w1 ⟨rfl, hb⟩
    have HB := Lib.hid hb
    clear hb
    go_wp2
    go_ret
    exact ⟨rfl, (show Below w.heap.size w _ from by go_grown).trans (HB.out.mono (show Below w.heap.size w _ from by go_grown).size)⟩
  · by_cases k2 : k = 2
    · subst k2
      exact show_text b i s w hm hs
    · by_cases k3 : k = 3
      · subst k3
        exact show_truth b i s w
      · rw [show showB ⟨k, i, s, b⟩ = ⟨#[63]⟩ by unfold showB; rw [if_neg k1, if_neg k2, if_neg k3]]
        have e1 := d_ne k1
        have e2 := d_ne k2
        have e3 := d_ne k3
        clear k1 k2 k3 hm hs h0 h1
        go_enter Tryd.func24, Tryd.ntmps24
        go_wp2
        go_ret
        exact ⟨rfl, by go_grown⟩
theorem lshow_any (k i : Int) (s : ByteArray) (b : Bool) (w : World) (hs : s.size ≤ 100000) (h0 : -9223372036854775808 ≤ i) (h1 : i ≤ 9223372036854775807) :
    Calls Tryd.prog 27 #[.agg #[.int .i64 k, .int .i64 i, .string s, .bool b]] w fun e w' => e = .returned (.string (showB ⟨k, i, s, b⟩)) ∧ Below w.heap.size w w' := by
  by_cases k1 : k = 1
  · subst k1
    rw [show showB ⟨1, i, s, b⟩ = ⟨(Num.txt i).toArray⟩ from rfl]
    obtain ⟨R, hR⟩ : ∃ R : ByteArray, (⟨(Num.txt i).toArray⟩ : ByteArray) = R := ⟨_, rfl⟩
    have HD := Lib.hid (fun w => Num.ref_any' i h0 h1 w)
    rw [hR] at HD ⊢
    clear hR h0 h1 hs
    go_enter Tryd.func27, Tryd.ntmps27
    go_wp2_with fail
    refine (HD.out _).mono ?_
    rintro e w1 ⟨rfl, hb⟩
    have HB := Lib.hid hb
    clear hb
    go_wp2
    go_ret
    exact ⟨rfl, (show Below w.heap.size w _ from by go_grown).trans (HB.out.mono (show Below w.heap.size w _ from by go_grown).size)⟩
  · by_cases k2 : k = 2
    · subst k2
      rw [show showB ⟨2, i, s, b⟩ = quoteB s from rfl]
      go_enter Tryd.func27, Tryd.ntmps27
      go_wp2_with fail
      refine (lquote_any s hs _).mono ?_
      rintro e w1 ⟨rfl, rfl⟩
      go_wp2
      go_ret
      exact ⟨rfl, by go_grown⟩
    · by_cases k3 : k = 3
      · subst k3
        rw [show showB ⟨3, i, s, b⟩ = truthB b from rfl]
        cases b
        all_goals
          go_enter Tryd.func27, Tryd.ntmps27
          go_wp2
          go_ret
          exact ⟨rfl, by go_grown⟩
      · rw [show showB ⟨k, i, s, b⟩ = ⟨#[63]⟩ by unfold showB; rw [if_neg k1, if_neg k2, if_neg k3]]
        have e1 := d_ne k1
        have e2 := d_ne k2
        have e3 := d_ne k3
        clear k1 k2 k3 hs h0 h1
        go_enter Tryd.func27, Tryd.ntmps27
        go_wp2
        go_ret
        exact ⟨rfl, by go_grown⟩
end Go.Proofs.YtlpkeinablekpaaDoor.Vd
