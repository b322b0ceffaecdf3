/- Parse of a number's text is the number; what Parse tells is the number that the text is of. -/
import Derived.Test.YtlpkeinablekpaaDoorNumParse
import Derived.Test.YtlpkeinablekpaaDoorNumDigits
namespace Go.Proofs.YtlpkeinablekpaaDoor.Num
open Go.RowKit Go.Proofs.YtlpkeinablekpaaDoor
set_option maxRecDepth 100000

theorem dg_plain {m : Nat} (h : m ≤ 9223372036854775808) : plainB (dg m) = true := by
  unfold plainB
  simp only [Bool.and_eq_true, decide_eq_true_eq]
  refine ⟨⟨⟨dg_all m, dg_ne m⟩, length_dg 18 m (by omega)⟩, ?_⟩
  by_cases h10 : m < 10
  · left; rw [dg_lt h10]; simp
  · obtain ⟨c, r, e, _, hc⟩ := dg_head m (by omega)
    right
    rw [e]
    intro h48
    simp at h48
    subst h48
    simp at hc
/-- What 'Parse' says of a number's text. -/
theorem parse_txt {n : Int} (h0 : -9223372036854775808 ≤ n) (h1 : n ≤ 9223372036854775807) : parseV ⟨(txt n).toArray⟩ = n ∧ parseB ⟨(txt n).toArray⟩ = true := by
  by_cases hn : n < 0
  · have ht : txt n = 45 :: dg (sizeN n) := by unfold txt sizeN; rw [if_pos hn]
    have hb : belowB ⟨(txt n).toArray⟩ = true := by unfold belowB Lib.hasPrefix; rw [txt_list, isPrefix_45, ht]; simp
    have hd : (dOf ⟨(txt n).toArray⟩).data.toList = dg (sizeN n) := by
      rw [dOf_list, txt_list]
      unfold Lib.trimPrefix Lib.hasPrefix
      rw [isPrefix_45, ht]
      simp
    have hs : sizeN n ≤ 9223372036854775808 := by unfold sizeN; omega
    have hz : dg (sizeN n) ≠ [48] := by
      intro e
      have := congrArg val e
      rw [val_dg] at this
      unfold sizeN at this
      rw [show val [48] = 0 from rfl] at this
      omega
    have hg : goodB ⟨(txt n).toArray⟩ = true := good_yes (by rw [hd]; exact dg_plain hs) (.inr (by rw [hd]; exact hz))
    have hv : sgnV (sizeN n) true = n := by unfold sgnV; rw [if_pos rfl, if_neg (by omega), ← size_neg hn]; omega
    have hw : sgnB (sizeN n) true = true := by unfold sgnB; rw [if_pos rfl, if_neg (by omega)]
    unfold parseV parseB
    rw [hg, hb, hd, val_dg, if_pos rfl, if_pos rfl]
    exact ⟨hv, hw⟩
  · have ht : txt n = dg (sizeN n) := by unfold txt sizeN; rw [if_neg hn]
    have hb : belowB ⟨(txt n).toArray⟩ = false := by
      unfold belowB Lib.hasPrefix; rw [txt_list, isPrefix_45, ht]; exact decide_eq_false (dg_first _)
    have hd : (dOf ⟨(txt n).toArray⟩).data.toList = dg (sizeN n) := by
      rw [dOf_list, txt_list]
      unfold Lib.trimPrefix Lib.hasPrefix
      rw [isPrefix_45, ht, decide_eq_false (dg_first _)]
      rfl
    have hs : sizeN n ≤ 9223372036854775807 := by unfold sizeN; omega
    have hg : goodB ⟨(txt n).toArray⟩ = true := good_yes (by rw [hd]; exact dg_plain (by omega)) (.inl hb)
    have hv : sgnV (sizeN n) false = n := by unfold sgnV; rw [if_neg (by decide), if_neg (by omega), ← size_pos hn]
    have hw : sgnB (sizeN n) false = true := by unfold sgnB; rw [if_neg (by decide), if_neg (by omega)]
    unfold parseV parseB
    rw [hg, hb, hd, val_dg, if_pos rfl, if_pos rfl]
    exact ⟨hv, hw⟩
theorem parse_off {s : ByteArray} (h : parseB s = false) : parseV s = 0 := by
  unfold parseB at h
  unfold parseV
  by_cases hg : goodB s = true
  · rw [if_pos hg] at h ⊢
    unfold sgnB at h
    unfold sgnV
    cases hb : belowB s <;> rw [hb] at h <;> simp at h ⊢
    · intro; omega
    · intro; omega
  · rw [if_neg hg]
theorem parse_on {s : ByteArray} (h : parseB s = true) : txt (parseV s) = s.data.toList ∧ -9223372036854775808 ≤ parseV s ∧ parseV s ≤ 9223372036854775807 := by
  unfold parseB at h
  unfold parseV
  by_cases hg : goodB s = true
  · rw [if_pos hg] at h ⊢
    have hp : plainB (dOf s).data.toList = true := by
      unfold goodB at hg; rw [Bool.and_eq_true] at hg; exact hg.1
    obtain ⟨ha, hne, _, hz⟩ := plainB_all hp
    have hback := dg_val _ hne ha hz
    have hdl := dOf_list s
    unfold Lib.trimPrefix Lib.hasPrefix at hdl
    unfold goodB at hg
    rw [hp, Bool.true_and] at hg
    cases hb : belowB s
    · rw [hb] at h
      have hnp : ([45] : List UInt8).isPrefixOf s.data.toList = false := hb
      rw [if_neg (by rw [hnp]; decide)] at hdl
      unfold sgnB at h
      simp at h
      unfold sgnV
      rw [if_neg (by decide), if_neg (by omega)]
      refine ⟨?_, by omega, by omega⟩
      unfold txt
      rw [if_neg (by omega), Int.natAbs_natCast, hback, hdl]
    · rw [hb] at h hg
      have hnp : ([45] : List UInt8).isPrefixOf s.data.toList = true := hb
      rw [if_pos hnp] at hdl
      unfold sgnB at h
      simp at h
      simp only [Bool.true_and, Bool.not_eq_true', decide_eq_false_iff_not] at hg
      have hv : val (dOf s).data.toList ≠ 0 := by
        intro e
        rw [e, dg_lt (by omega)] at hback
        exact hg (by rw [← hback]; rfl)
      unfold sgnV
      rw [if_pos rfl, if_neg (by omega)]
      refine ⟨?_, by omega, by omega⟩
      unfold txt
      rw [if_pos (by omega), Int.natAbs_neg, Int.natAbs_natCast, hback, hdl]
      rw [isPrefix_45] at hnp
      cases hs : s.data.toList with
      | nil => rw [hs] at hnp; simp at hnp
      | cons c r => rw [hs] at hnp; simp at hnp; subst hnp; rfl
  · rw [if_neg hg] at h; cases h
theorem parse_n (n : Int) (w : World) (h0 : -9223372036854775808 ≤ n) (h1 : n ≤ 9223372036854775807) :
    Calls Tryd.prog 67 #[.string ⟨(txt n).toArray⟩] w fun e w' => e = .returned (.tuple #[.int .i64 n, .bool true]) ∧ w = w' :=
  (parse_any ⟨(txt n).toArray⟩ w (by have := txt_size h0 h1; omega)).mono fun _ _ ⟨e1, e2⟩ => ⟨e1.trans (by rw [(parse_txt h0 h1).1, (parse_txt h0 h1).2]), e2⟩
theorem parse_t_no (t : ByteArray) (w : World) (ht : t.size ≤ 9223372036854775807) (h : parseB t = false) :
    Calls Tryd.prog 67 #[.string t] w fun e w' => e = .returned (.tuple #[.int .i64 0, .bool false]) ∧ w = w' :=
  (parse_any t w ht).mono fun _ _ ⟨e1, e2⟩ => ⟨e1.trans (by rw [parse_off h, h]), e2⟩
theorem parse_t_yes (t : ByteArray) (w : World) (ht : t.size ≤ 9223372036854775807) (h : parseB t = true) :
    Calls Tryd.prog 67 #[.string t] w fun e w' => e = .returned (.tuple #[.int .i64 (parseV t), .bool true]) ∧ w = w' :=
  (parse_any t w ht).mono fun _ _ ⟨e1, e2⟩ => ⟨e1.trans (by rw [h]), e2⟩
end Go.Proofs.YtlpkeinablekpaaDoor.Num
