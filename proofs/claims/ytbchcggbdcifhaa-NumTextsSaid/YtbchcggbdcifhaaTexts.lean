/- The walk of the law 'NumTexts'. -/
import Derived.Test.YtbchcggbdcifhaaRef
namespace Go.Proofs.Ytbchcggbdcifhaa
open Go.RowKit

theorem digits_any' (n : Int) (w : World) (h0 : -9223372036854775808 ≤ n) (h1 : n ≤ 9223372036854775807) : Calls Try.prog 15 #[.int .i64 n] w fun e w' => e = .returned (.string ⟨(txt n).toArray⟩) ∧ Below w.heap.size w w' := digits_any n w h0 h1
theorem ref_any' (n : Int) (h0 : -9223372036854775808 ≤ n) (h1 : n ≤ 9223372036854775807) (w : World) : Calls Try.prog 16 #[.int .i64 n] w fun e w' => e = .returned (.string ⟨(txt n).toArray⟩) ∧ Below w.heap.size w w' := ref_any n h0 h1 w
theorem txt_list (n : Int) : ((⟨(txt n).toArray⟩ : ByteArray)).data.toList = txt n := by simp
theorem txt_size {n : Int} (h0 : -9223372036854775808 ≤ n) (h1 : n ≤ 9223372036854775807) : ((⟨(txt n).toArray⟩ : ByteArray)).size ≤ 21 := by
  have hs : sizeN n < 18446744073709551616 := by unfold sizeN; omega
  have hl : (dg (sizeN n)).length ≤ 20 := by rw [length_dg_width]; exact widthN_20 hs
  show (txt n).toArray.size ≤ 21
  unfold txt
  unfold sizeN at hl
  split <;> simp <;> omega
theorem dg_first (m : Nat) : (dg m).head? ≠ some 45 := by
  intro h
  have h1 := dg_all m
  cases hd : dg m with
  | nil => rw [hd] at h; simp at h
  | cons c r =>
    rw [hd] at h h1
    simp at h
    subst h
    simp [isD] at h1
theorem dg_plain {m : Nat} (h : m ≤ 9223372036854775808) : plainB (dg m) = true := by
  unfold plainB
  simp only [Bool.and_eq_true, decide_eq_true_eq]
  refine ⟨⟨⟨dg_all m, dg_ne m⟩, length_dg 18 m (by omega)⟩, ?_⟩
  by_cases h10 : m < 10
  · left; rw [dg_lt h10]; simp
  · obtain ⟨c, r, e, _, hc⟩ := dg_head m (by omega)
    right
    rw [e]
    intro h48
    simp at h48
    subst h48
    simp at hc
theorem isPrefix_45 (l : List UInt8) : ([45] : List UInt8).isPrefixOf l = decide (l.head? = some 45) := by
  cases l with
  | nil => rfl
  | cons c r =>
    by_cases h : c = 45
    · subst h; simp [List.isPrefixOf]
    · have h2 : (45 : UInt8) ≠ c := fun e => h e.symm
      simp [List.isPrefixOf, h, h2]

/-- What 'Parse' says of a number's text. -/
theorem parse_txt {n : Int} (h0 : -9223372036854775808 ≤ n) (h1 : n ≤ 9223372036854775807) : parseV ⟨(txt n).toArray⟩ = n ∧ parseB ⟨(txt n).toArray⟩ = true := by
  by_cases hn : n < 0
  · have ht : txt n = 45 :: dg (sizeN n) := by unfold txt sizeN; rw [if_pos hn]
    have hb : belowB ⟨(txt n).toArray⟩ = true := by unfold belowB Lib.hasPrefix; rw [txt_list, isPrefix_45, ht]; simp
    have hd : (dOf ⟨(txt n).toArray⟩).data.toList = dg (sizeN n) := by
      rw [dOf_list, txt_list]
      unfold Lib.trimPrefix Lib.hasPrefix
      rw [isPrefix_45, ht]
      simp
    have hs : sizeN n ≤ 9223372036854775808 := by unfold sizeN; omega
    have hz : dg (sizeN n) ≠ [48] := by
      intro e
      have := congrArg val e
      rw [val_dg] at this
      unfold sizeN at this
      rw [show val [48] = 0 from rfl] at this
      omega
    have hg : goodB ⟨(txt n).toArray⟩ = true := good_yes (by rw [hd]; exact dg_plain hs) (.inr (by rw [hd]; exact hz))
    have hv : sgnV (sizeN n) true = n := by unfold sgnV; rw [if_pos rfl, if_neg (by omega), ← size_neg hn]; omega
    have hw : sgnB (sizeN n) true = true := by unfold sgnB; rw [if_pos rfl, if_neg (by omega)]
    unfold parseV parseB
    rw [hg, hb, hd, val_dg, if_pos rfl, if_pos rfl]
    exact ⟨hv, hw⟩
  · have ht : txt n = dg (sizeN n) := by unfold txt sizeN; rw [if_neg hn]
    have hb : belowB ⟨(txt n).toArray⟩ = false := by
      unfold belowB Lib.hasPrefix; rw [txt_list, isPrefix_45, ht]; exact decide_eq_false (dg_first _)
    have hd : (dOf ⟨(txt n).toArray⟩).data.toList = dg (sizeN n) := by
      rw [dOf_list, txt_list]
      unfold Lib.trimPrefix Lib.hasPrefix
      rw [isPrefix_45, ht, decide_eq_false (dg_first _)]
      rfl
    have hs : sizeN n ≤ 9223372036854775807 := by unfold sizeN; omega
    have hg : goodB ⟨(txt n).toArray⟩ = true := good_yes (by rw [hd]; exact dg_plain (by omega)) (.inl hb)
    have hv : sgnV (sizeN n) false = n := by unfold sgnV; rw [if_neg (by decide), if_neg (by omega), ← size_pos hn]
    have hw : sgnB (sizeN n) false = true := by unfold sgnB; rw [if_neg (by decide), if_neg (by omega)]
    unfold parseV parseB
    rw [hg, hb, hd, val_dg, if_pos rfl, if_pos rfl]
    exact ⟨hv, hw⟩

theorem parse_off {s : ByteArray} (h : parseB s = false) : parseV s = 0 := by
  unfold parseB at h
  unfold parseV
  by_cases hg : goodB s = true
  · rw [if_pos hg] at h ⊢
    unfold sgnB at h
    unfold sgnV
    cases hb : belowB s <;> rw [hb] at h <;> simp at h ⊢
    · intro; omega
    · intro; omega
  · rw [if_neg hg]

theorem parse_on {s : ByteArray} (h : parseB s = true) : txt (parseV s) = s.data.toList ∧ -9223372036854775808 ≤ parseV s ∧ parseV s ≤ 9223372036854775807 := by
  unfold parseB at h
  unfold parseV
  by_cases hg : goodB s = true
  · rw [if_pos hg] at h ⊢
    have hp : plainB (dOf s).data.toList = true := by
      unfold goodB at hg; rw [Bool.and_eq_true] at hg; exact hg.1
    obtain ⟨ha, hne, _, hz⟩ := plainB_all hp
    have hback := dg_val _ hne ha hz
    have hdl := dOf_list s
    unfold Lib.trimPrefix Lib.hasPrefix at hdl
    unfold goodB at hg
    rw [hp, Bool.true_and] at hg
    cases hb : belowB s
    · rw [hb] at h
      have hnp : ([45] : List UInt8).isPrefixOf s.data.toList = false := hb
      rw [if_neg (by rw [hnp]; decide)] at hdl
      unfold sgnB at h
      simp at h
      unfold sgnV
      rw [if_neg (by decide), if_neg (by omega)]
      refine ⟨?_, by omega, by omega⟩
      unfold txt
      rw [if_neg (by omega), Int.natAbs_natCast, hback, hdl]
    · rw [hb] at h hg
      have hnp : ([45] : List UInt8).isPrefixOf s.data.toList = true := hb
      rw [if_pos hnp] at hdl
      unfold sgnB at h
      simp at h
      simp only [Bool.true_and, Bool.not_eq_true', decide_eq_false_iff_not] at hg
      have hv : val (dOf s).data.toList ≠ 0 := by
        intro e
        rw [e, dg_lt (by omega)] at hback
        exact hg (by rw [← hback]; rfl)
      unfold sgnV
      rw [if_pos rfl, if_neg (by omega)]
      refine ⟨?_, by omega, by omega⟩
      unfold txt
      rw [if_pos (by omega), Int.natAbs_neg, Int.natAbs_natCast, hback, hdl]
      rw [isPrefix_45] at hnp
      cases hs : s.data.toList with
      | nil => rw [hs] at hnp; simp at hnp
      | cons c r => rw [hs] at hnp; simp at hnp; subst hnp; rfl
  · rw [if_neg hg] at h; cases h

theorem parse_n (n : Int) (w : World) (h0 : -9223372036854775808 ≤ n) (h1 : n ≤ 9223372036854775807) :
    Calls Try.prog 14 #[.string ⟨(txt n).toArray⟩] w fun e w' => e = .returned (.tuple #[.int .i64 n, .bool true]) ∧ w = w' :=
  (parse_any ⟨(txt n).toArray⟩ w (by have := txt_size h0 h1; omega)).mono fun _ _ ⟨e1, e2⟩ => ⟨e1.trans (by rw [(parse_txt h0 h1).1, (parse_txt h0 h1).2]), e2⟩
theorem parse_t_no (t : ByteArray) (w : World) (ht : t.size ≤ 9223372036854775807) (h : parseB t = false) :
    Calls Try.prog 14 #[.string t] w fun e w' => e = .returned (.tuple #[.int .i64 0, .bool false]) ∧ w = w' :=
  (parse_any t w ht).mono fun _ _ ⟨e1, e2⟩ => ⟨e1.trans (by rw [parse_off h, h]), e2⟩
theorem parse_t_yes (t : ByteArray) (w : World) (ht : t.size ≤ 9223372036854775807) (h : parseB t = true) :
    Calls Try.prog 14 #[.string t] w fun e w' => e = .returned (.tuple #[.int .i64 (parseV t), .bool true]) ∧ w = w' :=
  (parse_any t w ht).mono fun _ _ ⟨e1, e2⟩ => ⟨e1.trans (by rw [h]), e2⟩
theorem ref_t (t : ByteArray) (w : World) (h : parseB t = true) :
    Calls Try.prog 16 #[.int .i64 (parseV t)] w fun e w' => e = .returned (.string t) ∧ Below w.heap.size w w' := by
  obtain ⟨h1, h2, h3⟩ := parse_on h
  refine (ref_any (parseV t) h2 h3 w).mono fun _ _ ⟨e1, e2⟩ => ⟨e1.trans (ret_str ?_), e2⟩
  rw [h1]

theorem after {f : FuncId} {args : Array Value} {x : Ending} (w0 w : World) (hb : Below w0.heap.size w0 w) (h : Calls Try.prog f args w fun e w' => e = x ∧ Below w.heap.size w w') :
    Calls Try.prog f args w fun e w' => e = x ∧ Below w0.heap.size w0 w' :=
  h.mono fun _ _ ⟨a, b⟩ => ⟨a, hb.trans (b.mono hb.size)⟩

/-- What is left of a text: its first bytes, at most 22. -/
theorem cut_size (s : ByteArray) : (s.extract 0 (min (s.size : Int) 22).toNat).size ≤ 9223372036854775807 := by
  rw [ByteArray.size_extract]; omega

set_option maxHeartbeats 1000000 in
theorem texts_walk (n : Int) (s : ByteArray) (wn : (Lit.int .i64 n).wf = true) (ws : s.size ≤ maxLen) (w : World) :
    Calls Try.prog 5 #[.int .i64 n, .string s] w fun e w' => e = .returned (.bool true) ∧ Below w.heap.size w w' := by
  obtain ⟨h0, h1⟩ := bounds_i64 wn
  unfold maxLen at ws
  clear wn
  have hb0 : Below w.heap.size w w := Below.refl _ _
  by_cases ht : parseB (s.extract 0 (min (s.size : Int) 22).toNat) = true
  · have HT := Lib.hid ht
    clear ht
    go_enter Try.func5, Try.ntmps5
    go_wp2_with (first
      | (go_at_call 11; (with_reducible refine (after w _ (by assumption) (awake_any _)).mono ?_); rintro e w1 ⟨rfl, hb⟩)
      | (go_at_call 15; (with_reducible refine (after w _ (by assumption) (digits_any' _ _ h0 h1)).mono ?_); rintro e w1 ⟨rfl, hb⟩)
      | (go_at_call 14; first
        | ((with_reducible refine (parse_n _ _ h0 h1).mono ?_); rintro e w' ⟨rfl, rfl⟩)
        | ((with_reducible refine (parse_t_yes _ _ (cut_size s) HT.out).mono ?_); rintro e w' ⟨rfl, rfl⟩))
      | (go_at_call 16; first
        | ((with_reducible refine (after w _ (by assumption) (ref_any' _ h0 h1 _)).mono ?_); rintro e w1 ⟨rfl, hb⟩)
        | ((with_reducible refine (after w _ (by assumption) (ref_t _ _ HT.out)).mono ?_); rintro e w1 ⟨rfl, hb⟩)))
    go_ret
    exact ⟨rfl, by assumption⟩
  · have HT := Lib.hid (show parseB (s.extract 0 (min (s.size : Int) 22).toNat) = false from by simpa using ht)
    clear ht
    go_enter Try.func5, Try.ntmps5
    go_wp2_with (first
      | (go_at_call 11; (with_reducible refine (after w _ (by assumption) (awake_any _)).mono ?_); rintro e w1 ⟨rfl, hb⟩)
      | (go_at_call 15; (with_reducible refine (after w _ (by assumption) (digits_any' _ _ h0 h1)).mono ?_); rintro e w1 ⟨rfl, hb⟩)
      | (go_at_call 14; first
        | ((with_reducible refine (parse_n _ _ h0 h1).mono ?_); rintro e w' ⟨rfl, rfl⟩)
        | ((with_reducible refine (parse_t_no _ _ (cut_size s) HT.out).mono ?_); rintro e w' ⟨rfl, rfl⟩))
      | (go_at_call 16; ((with_reducible refine (after w _ (by assumption) (ref_any' _ h0 h1 _)).mono ?_); rintro e w1 ⟨rfl, hb⟩)))
    go_ret
    exact ⟨rfl, by assumption⟩
end Go.Proofs.Ytbchcggbdcifhaa
