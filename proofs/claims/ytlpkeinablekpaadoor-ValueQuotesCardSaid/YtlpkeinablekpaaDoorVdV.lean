/- The law ValueQuotes. -/
import Derived.Test.YtlpkeinablekpaaDoorVdT
import Derived.BigRegion
import Derived.Deep.RegionHeld3
namespace Go.Proofs.YtlpkeinablekpaaDoor.Vd
open Go.RowKit Go.Proofs.YtlpkeinablekpaaDoor Go.Proofs.YtlpkeinablekpaaDoor.Door Go.Proofs.YtlpkeinablekpaaDoor.Ev Go.Proofs.YtlpkeinablekpaaDoor.Sch Go.Proofs.YtlpkeinablekpaaDoor.Evl Go.Proofs.YtlpkeinablekpaaDoor.Ty
set_option linter.unusedVariables false
set_option maxRecDepth 100000
theorem quote_data (s : ByteArray) : (quoteB s).data.toList = 39 :: (dbl s.data.toList ++ [39]) := B_list _
theorem quote_of {s : ByteArray} {t : List UInt8} (h : s.data.toList = 39 :: (dbl t ++ [39])) : quoteB (B t) = s := by
  unfold quoteB
  rw [B_list, ← h, B_data]
theorem quote_size (s : ByteArray) (hs : s.size ≤ 100) : (quoteB s).size ≤ 300 := by
  unfold quoteB
  rw [B_size]
  have := (dbl_len s.data.toList).2
  rw [size_len] at this
  simp only [List.length_cons, List.length_append, List.length_nil]
  omega
theorem unq_quote (s : ByteArray) (w : World) (hm : ML w) (hs : s.size ≤ 100) : Calls Tryd.prog 28 #[.string (quoteB s)] w fun e w' => e = .returned (.tuple #[.string s, .bool true]) ∧ Below w.heap.size w w' :=
  (unquote_any (quoteB s) w hm (by have := quote_size s hs; omega)).mono fun e w' ⟨hb, h⟩ => by
    rcases h with ⟨t, rfl, ht⟩ | ⟨_, hn⟩
    · rw [quote_data] at ht
      have e5 : dbl s.data.toList = dbl t := by simpa using ht
      have e6 : s.data.toList = t := by rw [← und_dbl s.data.toList, e5, und_dbl]
      rw [← e6, B_data]
      exact ⟨rfl, hb⟩
    · exact absurd (quote_data s) (hn _)
/-- The value that was read. -/
structure VY (w W : World) (b : Nat) (x : VV) : Prop where
  r : Row W b 23 x.cells.toArray
  be : Below w.heap.size w W
theorem VY.call {w W W' : World} {b : Nat} {x : VV} (h : VY w W b x) (t : Below W.heap.size W W') : VY w W' b x := ⟨h.r.below t h.r.lt, h.be.trans (t.mono h.be.size)⟩
theorem VY.cells {w W : World} {b : Nat} {x : VV} (h : VY w W b x) : W.cell? ⟨b, 0, none⟩ = some (.int .i64 x.k) ∧ W.cell? ⟨b, 1, none⟩ = some (.int .i64 x.i) ∧ W.cell? ⟨b, 2, none⟩ = some (.string x.s) ∧ W.cell? ⟨b, 3, none⟩ = some (.bool x.b) :=
  ⟨h.r.cell 0, h.r.cell 1, h.r.cell 2, h.r.cell 3⟩
theorem rd_in64 {s : ByteArray} {v : VV} (h : RdP s v) : (-9223372036854775808 ≤ v.i ∧ v.i ≤ 9223372036854775807) ∧ v.s.size ≤ s.size := by
  rcases h with ⟨rfl, rfl⟩ | ⟨rfl, rfl⟩ | ⟨_, _, ⟨t, e, rfl⟩ | ⟨_, ⟨hp, rfl⟩ | ⟨_, rfl⟩⟩⟩
  · exact ⟨⟨by decide, by decide⟩, by decide⟩
  · exact ⟨⟨by decide, by decide⟩, by decide⟩
  · refine ⟨⟨by show (-9223372036854775808 : Int) ≤ 0; omega, by show (0 : Int) ≤ _; omega⟩, ?_⟩
    show (B t).size ≤ s.size
    rw [B_size, ← size_len s, e]
    have := (dbl_len t).1
    simp only [List.length_cons, List.length_append, List.length_nil]
    omega
  · exact ⟨(Num.parse_on hp).2, Nat.zero_le _⟩
  · exact ⟨⟨by show (-9223372036854775808 : Int) ≤ 0; omega, by show (0 : Int) ≤ _; omega⟩, Nat.zero_le _⟩
set_option maxHeartbeats 4000000 in
theorem quotes_any (s t : ByteArray) (w : World) (hm : ML w) (hs : s.size ≤ 9223372036854775807) (ht : t.size ≤ 9223372036854775807) :
    Calls Tryd.prog 7 #[.string s, .string t] w fun e w' => e = .returned (.bool true) ∧ Below w.heap.size w w' := by
  have HM := Lib.hid hm
  clear hm
  obtain ⟨A, hA, hAs⟩ : ∃ A : ByteArray, s.extract 0 (min (s.size : Int) 40).toNat = A ∧ A.size ≤ 40 := ⟨_, rfl, by rw [ByteArray.size_extract]; omega⟩
  obtain ⟨T, hT, hTs⟩ : ∃ T : ByteArray, t.extract 0 (min (t.size : Int) 40).toNat = T ∧ T.size ≤ 40 := ⟨_, rfl, by rw [ByteArray.size_extract]; omega⟩
  have HAS := Lib.hid hAs
  have HTS := Lib.hid hTs
  clear hAs hTs
  go_enter Tryd.func7, Tryd.ntmps7
  go_upto_region 1 with fail
  go_cut [5, 6] (fun s5 s6 wx => s5 = .string A ∧ s6 = .string T ∧ Hid (Below w.heap.size w wx))
  case first =>
    have hm1 : (0 : Int) ≤ min (s.size : Int) 40 := by omega
    have hm2 : min (s.size : Int) 40 ≤ (s.size : Int) := by omega
    have hm3 : (0 : Int) ≤ min (t.size : Int) 40 := by omega
    have hm4 : min (t.size : Int) 40 ≤ (t.size : Int) := by omega
    have hsl1 : ∀ wx : World, (Instr.slice 9 (.string s) none (some (.int .i64 (min (s.size : Int) 40))) none).run Tryd.prog wx = .ok (.string A) wx := fun wx => by
      rw [← hA]; exact run_slice_string_h (P := Tryd.prog) (w := wx) 9 s Tryd.underlying9 .i64 _ hm1 hm2
    have hsl2 : ∀ wx : World, (Instr.slice 9 (.string t) none (some (.int .i64 (min (t.size : Int) 40))) none).run Tryd.prog wx = .ok (.string T) wx := fun wx => by
      rw [← hT]; exact run_slice_string_h (P := Tryd.prog) (w := wx) 9 t Tryd.underlying9 .i64 _ hm3 hm4
    clear hA hT
    go_region
    all_goals
      go_wp2
      go_meet
      exact ⟨rfl, rfl, by first | exact (Below.refl _ w).drew | exact Below.refl _ w | exact below_drewN (Below.refl _ w) _⟩
  case rest =>
    obtain ⟨rfl, rfl, HB⟩ := hcut
    clear hA hT
    have HM1 := Lib.hid (HM.out.below HB.out)
    go_wp2_with fail
    refine (lquote_any A (by have := HAS.out; omega) _).mono ?_
    rintro e w1 ⟨rfl, rfl⟩
    go_wp2_with fail
    refine (unq_quote A _ HM1.out (by have := HAS.out; omega)).mono ?_
    rintro e w1 ⟨rfl, hb⟩
    have HB1 := Lib.hid (HB.out.trans (hb.mono HB.out.size))
    have HM2 := Lib.hid (HM.out.below HB1.out)
    clear hb
    go_wp2_with fail
    refine (unquote_any T _ HM2.out (by have := HTS.out; omega)).mono ?_
    rintro e w2 ⟨hb, hor⟩
    have HB2 := Lib.hid (HB1.out.trans (hb.mono HB1.out.size))
    have HM3 := Lib.hid (HM.out.below HB2.out)
    clear hb
    obtain ⟨y, is, rfl, HY⟩ : ∃ y is, e = .returned (.tuple #[.string y, .bool is]) ∧ Hid (is = true → quoteB y = T ∧ y.size ≤ 100) := by
      rcases hor with ⟨u, rfl, hu⟩ | ⟨rfl, _⟩
      · refine ⟨B u, true, rfl, fun _ => ⟨quote_of hu, ?_⟩⟩
        have := (dbl_len u).1
        have h3 := congrArg List.length hu
        rw [size_len] at h3
        simp only [List.length_cons, List.length_append, List.length_nil] at h3
        rw [B_size]
        have := HTS.out
        omega
      · exact ⟨⟨#[]⟩, false, rfl, fun h => by cases h⟩
    clear hor
    go_wp2_with fail
    refine (parse_any T _ HM3.out (by have := HTS.out; omega)).mono ?_
    rintro e w3 ⟨⟨yk, yi, ys, yb⟩, hrd, hb, hor⟩
    have HRD := Lib.hid hrd
    have HB3 := Lib.hid (HB2.out.trans (hb.mono HB2.out.size))
    clear hrd hb
    obtain ⟨vk, vi, vs, vb, fine, rfl, HOK⟩ : ∃ vk vi vs vb fine, e = .returned (.tuple #[.agg #[.int .i64 vk, .int .i64 vi, .string vs, .bool vb], .bool fine]) ∧ Hid ((fine = true → showB ⟨vk, vi, vs, vb⟩ = T ∧ mayB ⟨vk, vi, vs, vb⟩ = true ∧ (-9223372036854775808 ≤ vi ∧ vi ≤ 9223372036854775807) ∧ vs.size ≤ 1000) ∧ (fine = false → vk = 0 ∧ vi = 0 ∧ vs = ⟨#[]⟩ ∧ vb = false)) := by
      rcases hor with ⟨h1, h2⟩ | ⟨h1, h2⟩
      · have h3 := rd_in64 HRD.out
        exact ⟨yk, yi, ys, yb, true, h2, And.intro (fun _ => ⟨rd_show HRD.out h1, h1, h3.1, by have h4 := h3.2; have := HTS.out; dsimp only at h4; omega⟩) (fun h => Bool.noConfusion h)⟩
      · exact ⟨0, 0, ⟨#[]⟩, false, false, h2, And.intro (fun h => Bool.noConfusion h) (fun _ => ⟨rfl, rfl, rfl, rfl⟩)⟩
    have hb4 : Below w3.heap.size w3 (w3.alloc (.cells #[.int .i64 vk, .int .i64 vi, .string vs, .bool vb] 23)) := (Below.refl _ _).alloc (Nat.le_refl _) _
    have HV : Hid (VY w (w3.alloc (.cells #[.int .i64 vk, .int .i64 vi, .string vs, .bool vb] 23)) w3.heap.size ⟨vk, vi, vs, vb⟩) := ⟨Row.made _ _ _, HB3.out.trans (hb4.mono HB3.out.size)⟩
    clear hb4 hor HRD HB HB1 HB2 HB3 HM1 HM2 HM3
    go_upto_region 5 with fail
    generalize w3.alloc (.cells #[.int .i64 vk, .int .i64 vi, .string vs, .bool vb] 23) = W4 at HV ⊢
    generalize w3.heap.size = b4 at HV ⊢
    obtain ⟨c0, c1, c2, c3⟩ := HV.out.cells
    dsimp only at c0 c1 c2 c3
    obtain ⟨QA, hQA⟩ : ∃ QA, quoteB A = QA := ⟨_, rfl⟩
    have HQA := Lib.hid hQA
    clear hQA
    cases is
    · clear HY
      cases fine
      · obtain ⟨rfl, rfl, rfl, rfl⟩ := HOK.out.2 rfl
        clear HOK
        go_wp2_with (first
          | (go_at_call 20; refine (awake02 _ (HM.out.below HV.out.be)).mono ?_; rintro e w6 ⟨rfl, hb⟩; have HV := Lib.hid (HV.out.call hb); clear c0 c1 c2 c3 hb; obtain ⟨c0, c1, c2, c3⟩ := HV.out.cells; dsimp only at c0 c1 c2 c3)
          | (go_at_call 30; refine (quote_any A _ (HM.out.below HV.out.be) (by have := HAS.out; omega)).mono ?_; rw [HQA.out]; rintro e w6 ⟨rfl, hb⟩; have HV := Lib.hid (HV.out.call hb); clear c0 c1 c2 c3 hb; obtain ⟨c0, c1, c2, c3⟩ := HV.out.cells; dsimp only at c0 c1 c2 c3)
          | (go_at_call 29; with_reducible refine (lquote_any A (by have := HAS.out; omega) _).mono ?_; rw [HQA.out]; rintro e w6 ⟨rfl, rfl⟩)
          | (go_at_call 27; refine (lshow_any vk vi vs vb _ (by have := (HOK.out.1 rfl).2.2.2; omega) (HOK.out.1 rfl).2.2.1.1 (HOK.out.1 rfl).2.2.1.2).mono ?_; rw [(HOK.out.1 rfl).1]; rintro e w6 ⟨rfl, hb⟩; have HV := Lib.hid (HV.out.call hb); clear c0 c1 c2 c3 hb; obtain ⟨c0, c1, c2, c3⟩ := HV.out.cells; dsimp only at c0 c1 c2 c3)
          | (go_at_call 26; refine (lmay_any vk vi vs vb _).mono ?_; rw [(HOK.out.1 rfl).2.1]; rintro e w6 ⟨rfl, hb⟩; have HV := Lib.hid (HV.out.call hb); clear c0 c1 c2 c3 hb; obtain ⟨c0, c1, c2, c3⟩ := HV.out.cells; dsimp only at c0 c1 c2 c3))
        go_ret
        exact ⟨rfl, HV.out.be⟩
      · have HO1 := Lib.hid (HOK.out.1 rfl)
        clear HOK
        go_wp2_with (first
          | (go_at_call 20; refine (awake02 _ (HM.out.below HV.out.be)).mono ?_; rintro e w6 ⟨rfl, hb⟩; have HV := Lib.hid (HV.out.call hb); clear c0 c1 c2 c3 hb; obtain ⟨c0, c1, c2, c3⟩ := HV.out.cells; dsimp only at c0 c1 c2 c3)
          | (go_at_call 30; refine (quote_any A _ (HM.out.below HV.out.be) (by have := HAS.out; omega)).mono ?_; rw [HQA.out]; rintro e w6 ⟨rfl, hb⟩; have HV := Lib.hid (HV.out.call hb); clear c0 c1 c2 c3 hb; obtain ⟨c0, c1, c2, c3⟩ := HV.out.cells; dsimp only at c0 c1 c2 c3)
          | (go_at_call 29; with_reducible refine (lquote_any A (by have := HAS.out; omega) _).mono ?_; rw [HQA.out]; rintro e w6 ⟨rfl, rfl⟩)
          | (go_at_call 27; refine (lshow_any vk vi vs vb _ (by have := HO1.out.2.2.2; omega) HO1.out.2.2.1.1 HO1.out.2.2.1.2).mono ?_; rw [HO1.out.1]; rintro e w6 ⟨rfl, hb⟩; have HV := Lib.hid (HV.out.call hb); clear c0 c1 c2 c3 hb; obtain ⟨c0, c1, c2, c3⟩ := HV.out.cells; dsimp only at c0 c1 c2 c3)
          | (go_at_call 26; refine (lmay_any vk vi vs vb _).mono ?_; rw [HO1.out.2.1]; rintro e w6 ⟨rfl, hb⟩; have HV := Lib.hid (HV.out.call hb); clear c0 c1 c2 c3 hb; obtain ⟨c0, c1, c2, c3⟩ := HV.out.cells; dsimp only at c0 c1 c2 c3))
        go_ret
        exact ⟨rfl, HV.out.be⟩
    · have HY2 := Lib.hid (HY.out rfl)
      clear HY
      cases fine
      · obtain ⟨rfl, rfl, rfl, rfl⟩ := HOK.out.2 rfl
        clear HOK
        go_wp2_with (first
          | (go_at_call 20; refine (awake02 _ (HM.out.below HV.out.be)).mono ?_; rintro e w6 ⟨rfl, hb⟩; have HV := Lib.hid (HV.out.call hb); clear c0 c1 c2 c3 hb; obtain ⟨c0, c1, c2, c3⟩ := HV.out.cells; dsimp only at c0 c1 c2 c3)
          | (go_at_call 30; refine (quote_any A _ (HM.out.below HV.out.be) (by have := HAS.out; omega)).mono ?_; rw [HQA.out]; rintro e w6 ⟨rfl, hb⟩; have HV := Lib.hid (HV.out.call hb); clear c0 c1 c2 c3 hb; obtain ⟨c0, c1, c2, c3⟩ := HV.out.cells; dsimp only at c0 c1 c2 c3)
          | (go_at_call 29; with_reducible refine (lquote_any A (by have := HAS.out; omega) _).mono ?_; rw [HQA.out]; rintro e w6 ⟨rfl, rfl⟩)
          | (go_at_call 29; with_reducible refine (lquote_any y (by have := HY2.out.2; omega) _).mono ?_; rw [HY2.out.1]; rintro e w6 ⟨rfl, rfl⟩)
          | (go_at_call 27; refine (lshow_any vk vi vs vb _ (by have := (HOK.out.1 rfl).2.2.2; omega) (HOK.out.1 rfl).2.2.1.1 (HOK.out.1 rfl).2.2.1.2).mono ?_; rw [(HOK.out.1 rfl).1]; rintro e w6 ⟨rfl, hb⟩; have HV := Lib.hid (HV.out.call hb); clear c0 c1 c2 c3 hb; obtain ⟨c0, c1, c2, c3⟩ := HV.out.cells; dsimp only at c0 c1 c2 c3)
          | (go_at_call 26; refine (lmay_any vk vi vs vb _).mono ?_; rw [(HOK.out.1 rfl).2.1]; rintro e w6 ⟨rfl, hb⟩; have HV := Lib.hid (HV.out.call hb); clear c0 c1 c2 c3 hb; obtain ⟨c0, c1, c2, c3⟩ := HV.out.cells; dsimp only at c0 c1 c2 c3))
        go_ret
        exact ⟨rfl, HV.out.be⟩
      · have HO1 := Lib.hid (HOK.out.1 rfl)
        clear HOK
        go_wp2_with (first
          | (go_at_call 20; refine (awake02 _ (HM.out.below HV.out.be)).mono ?_; rintro e w6 ⟨rfl, hb⟩; have HV := Lib.hid (HV.out.call hb); clear c0 c1 c2 c3 hb; obtain ⟨c0, c1, c2, c3⟩ := HV.out.cells; dsimp only at c0 c1 c2 c3)
          | (go_at_call 30; refine (quote_any A _ (HM.out.below HV.out.be) (by have := HAS.out; omega)).mono ?_; rw [HQA.out]; rintro e w6 ⟨rfl, hb⟩; have HV := Lib.hid (HV.out.call hb); clear c0 c1 c2 c3 hb; obtain ⟨c0, c1, c2, c3⟩ := HV.out.cells; dsimp only at c0 c1 c2 c3)
          | (go_at_call 29; with_reducible refine (lquote_any A (by have := HAS.out; omega) _).mono ?_; rw [HQA.out]; rintro e w6 ⟨rfl, rfl⟩)
          | (go_at_call 29; with_reducible refine (lquote_any y (by have := HY2.out.2; omega) _).mono ?_; rw [HY2.out.1]; rintro e w6 ⟨rfl, rfl⟩)
          | (go_at_call 27; refine (lshow_any vk vi vs vb _ (by have := HO1.out.2.2.2; omega) HO1.out.2.2.1.1 HO1.out.2.2.1.2).mono ?_; rw [HO1.out.1]; rintro e w6 ⟨rfl, hb⟩; have HV := Lib.hid (HV.out.call hb); clear c0 c1 c2 c3 hb; obtain ⟨c0, c1, c2, c3⟩ := HV.out.cells; dsimp only at c0 c1 c2 c3)
          | (go_at_call 26; refine (lmay_any vk vi vs vb _).mono ?_; rw [HO1.out.2.1]; rintro e w6 ⟨rfl, hb⟩; have HV := Lib.hid (HV.out.call hb); clear c0 c1 c2 c3 hb; obtain ⟨c0, c1, c2, c3⟩ := HV.out.cells; dsimp only at c0 c1 c2 c3))
        go_ret
        exact ⟨rfl, HV.out.be⟩
end Go.Proofs.YtlpkeinablekpaaDoor.Vd
