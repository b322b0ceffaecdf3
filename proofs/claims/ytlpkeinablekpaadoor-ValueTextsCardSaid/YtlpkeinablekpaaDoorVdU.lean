/- The law ValueTexts. -/
import Derived.Test.YtlpkeinablekpaaDoorVdT
import Derived.Test.YtlpkeinablekpaaDoorVdK
import Derived.BigRegion
import Derived.Deep.RegionHeld3
namespace Go.Proofs.YtlpkeinablekpaaDoor.Vd
open Go.RowKit Go.Proofs.YtlpkeinablekpaaDoor Go.Proofs.YtlpkeinablekpaaDoor.Door Go.Proofs.YtlpkeinablekpaaDoor.Ev Go.Proofs.YtlpkeinablekpaaDoor.Sch Go.Proofs.YtlpkeinablekpaaDoor.Evl Go.Proofs.YtlpkeinablekpaaDoor.Ty
set_option linter.unusedVariables false
set_option maxRecDepth 100000
/-- The law's two values. -/
structure VX (w W : World) (b3 b4 : Nat) (x y : VV) : Prop where
  r3 : Row W b3 23 x.cells.toArray
  r4 : Row W b4 23 y.cells.toArray
  be : Below w.heap.size w W
theorem VX.call {w W W' : World} {b3 b4 : Nat} {x y : VV} (h : VX w W b3 b4 x y) (t : Below W.heap.size W W') : VX w W' b3 b4 x y := ⟨h.r3.below t h.r3.lt, h.r4.below t h.r4.lt, h.be.trans (t.mono h.be.size)⟩
theorem VX.cells {w W : World} {b3 b4 : Nat} {x y : VV} (h : VX w W b3 b4 x y) : W.cell? ⟨b3, 0, none⟩ = some (.int .i64 x.k) ∧ W.cell? ⟨b3, 1, none⟩ = some (.int .i64 x.i) ∧ W.cell? ⟨b3, 2, none⟩ = some (.string x.s) ∧ W.cell? ⟨b3, 3, none⟩ = some (.bool x.b) ∧
    W.cell? ⟨b4, 0, none⟩ = some (.int .i64 y.k) ∧ W.cell? ⟨b4, 1, none⟩ = some (.int .i64 y.i) ∧ W.cell? ⟨b4, 2, none⟩ = some (.string y.s) ∧ W.cell? ⟨b4, 3, none⟩ = some (.bool y.b) :=
  ⟨h.r3.cell 0, h.r3.cell 1, h.r3.cell 2, h.r3.cell 3, h.r4.cell 0, h.r4.cell 1, h.r4.cell 2, h.r4.cell 3⟩
set_option maxHeartbeats 2000000 in
theorem texts_any (k i : Int) (s : ByteArray) (b : Bool) (w : World) (hm : ML w) (h0 : -9223372036854775808 ≤ i) (h1 : i ≤ 9223372036854775807) (hs : s.size ≤ 9223372036854775807) :
    Calls Tryd.prog 6 #[.agg #[.int .i64 k, .int .i64 i, .string s, .bool b]] w fun e w' => e = .returned (.bool true) ∧ Below w.heap.size w w' := by
  have HM := Lib.hid hm
  have HI := Lib.hid (And.intro h0 h1)
  clear hm h0 h1
  obtain ⟨S, hS, hSs⟩ : ∃ S : ByteArray, s.extract 0 (min (s.size : Int) 70).toNat = S ∧ S.size ≤ 70 := ⟨_, rfl, by rw [ByteArray.size_extract]; omega⟩
  have HSS := Lib.hid hSs
  clear hSs
  go_enter Tryd.func6, Tryd.ntmps6
  go_upto_region 2 with fail
  have HB2 : Hid (Below w.heap.size w ((w.alloc (.cells #[.int .i64 k, .int .i64 i, .string s, .bool b] 23)).alloc (.cells #[.int .i64 k, .int .i64 i, .string s, .bool b] 23))) := ((Below.refl _ w).alloc (Nat.le_refl _) _).alloc (by simp) _
  have HR1 : Hid (Row ((w.alloc (.cells #[.int .i64 k, .int .i64 i, .string s, .bool b] 23)).alloc (.cells #[.int .i64 k, .int .i64 i, .string s, .bool b] 23)) w.heap.size 23 #[.int .i64 k, .int .i64 i, .string s, .bool b]) := (Row.made _ _ _).alloc _
  have HR3 : Hid (Row ((w.alloc (.cells #[.int .i64 k, .int .i64 i, .string s, .bool b] 23)).alloc (.cells #[.int .i64 k, .int .i64 i, .string s, .bool b] 23)) (w.heap.size + 1) 23 #[.int .i64 k, .int .i64 i, .string s, .bool b]) := by
    have := Row.made (w.alloc (.cells #[.int .i64 k, .int .i64 i, .string s, .bool b] 23)) 23 #[.int .i64 k, .int .i64 i, .string s, .bool b]
    unfold Hid
    simpa using this
  clear HR1
  have h1c : ((w.alloc (.cells #[.int .i64 k, .int .i64 i, .string s, .bool b] 23)).alloc (.cells #[.int .i64 k, .int .i64 i, .string s, .bool b] 23)).cell? ⟨w.heap.size, 2, none⟩ = some (.string s) := (((Row.made w 23 #[.int .i64 k, .int .i64 i, .string s, .bool b]).alloc (.cells #[.int .i64 k, .int .i64 i, .string s, .bool b] 23)).is 2 rfl)
  have hge : Hid (w.heap.size ≤ w.heap.size + 1) := Nat.le_succ _
  generalize (w.alloc (.cells #[.int .i64 k, .int .i64 i, .string s, .bool b] 23)).alloc (.cells #[.int .i64 k, .int .i64 i, .string s, .bool b] 23) = W2 at HB2 HR3 h1c ⊢
  generalize w.heap.size + 1 = b3 at HR3 hge ⊢
  have hfr := HR3.out.free 2
  have h3c := HR3.out.is 2 rfl
  have HP : Hid (Row (W2.setCell ⟨b3, 2, none⟩ (.string S)) b3 23 #[.int .i64 k, .int .i64 i, .string S, .bool b] ∧ Below w.heap.size w (W2.setCell ⟨b3, 2, none⟩ (.string S))) := ⟨HR3.out.put 2 (.string S), HB2.out.setCell hge.out _⟩
  go_cut [] (fun wx => Hid (Row wx b3 23 #[.int .i64 k, .int .i64 i, .string S, .bool b] ∧ Below w.heap.size w wx))
  case first =>
    go_wp2
    go_meet
    first | exact HP.out | (rw [hS]; exact HP.out)
  case rest =>
    have HR := Lib.hid hcut.out.1
    have HB := Lib.hid hcut.out.2
    have HMW := Lib.hid (HM.out.below HB.out)
    clear hcut HP hfr h3c h1c HR3 HB2 hS hge
    have q0 := HR.out.is 0 rfl
    have q1 := HR.out.is 1 rfl
    have q2 := HR.out.is 2 rfl
    have q3 := HR.out.is 3 rfl
    go_wp2_with fail
    refine (show_any k i S b _ HMW.out (by have := HSS.out; omega) HI.out.1 HI.out.2).mono ?_
    rintro e w1 ⟨rfl, hb⟩
    have HR1 := Lib.hid (HR.out.below hb HR.out.lt)
    have HB1 := Lib.hid (HB.out.trans (hb.mono HB.out.size))
    have HM1 := Lib.hid (HM.out.below HB1.out)
    obtain ⟨T, hT⟩ : ∃ T, showB ⟨k, i, S, b⟩ = T := ⟨_, rfl⟩
    have HT := Lib.hid hT
    have HTS : Hid (T.size ≤ 3000) := by unfold Hid; rw [← hT]; exact show_size _ HI.out.1 HI.out.2 (by dsimp only; have := HSS.out; omega)
    rw [hT]
    clear hb hT q0 q1 q2 q3
    go_wp2_with fail
    refine (parse_any T _ HM1.out (by have := HTS.out; omega)).mono ?_
    rintro e w2 ⟨⟨yk, yi, ys, yb⟩, hrd, hb, hor⟩
    have HRD := Lib.hid hrd
    have HR2 := Lib.hid (HR1.out.below hb HR1.out.lt)
    have HB2 := Lib.hid (HB1.out.trans (hb.mono HB1.out.size))
    clear hrd hb
    obtain ⟨vk, vi, vs, vb, ok, rfl, HOK⟩ : ∃ vk vi vs vb ok, e = .returned (.tuple #[.agg #[.int .i64 vk, .int .i64 vi, .string vs, .bool vb], .bool ok]) ∧ Hid (mayB ⟨k, i, S, b⟩ = true → (⟨vk, vi, vs, vb⟩ : VV) = ⟨k, i, S, b⟩ ∧ ok = true) := by
      rcases hor with ⟨h1, h2⟩ | ⟨h1, h2⟩
      · refine ⟨yk, yi, ys, yb, true, h2, fun hm => ⟨?_, rfl⟩⟩
        have := HRD.out
        rw [← HT.out] at this
        exact rd_back (x := ⟨k, i, S, b⟩) HI.out.1 HI.out.2 hm this
      · refine ⟨0, 0, ⟨#[]⟩, false, false, h2, fun hm => ?_⟩
        have := HRD.out
        rw [← HT.out] at this
        have e9 := rd_back (x := ⟨k, i, S, b⟩) HI.out.1 HI.out.2 hm this
        rw [e9, hm] at h1
        cases h1
    have hb4 : Below w2.heap.size w2 (w2.alloc (.cells #[.int .i64 vk, .int .i64 vi, .string vs, .bool vb] 23)) := (Below.refl _ _).alloc (Nat.le_refl _) _
    have HV : Hid (VX w (w2.alloc (.cells #[.int .i64 vk, .int .i64 vi, .string vs, .bool vb] 23)) b3 w2.heap.size ⟨k, i, S, b⟩ ⟨vk, vi, vs, vb⟩) := ⟨HR2.out.below hb4 HR2.out.lt, Row.made _ _ _, HB2.out.trans (hb4.mono HB2.out.size)⟩
    clear hb4 hor HRD
    go_upto_region 4 with fail
    generalize w2.alloc (.cells #[.int .i64 vk, .int .i64 vi, .string vs, .bool vb] 23) = W4 at HV ⊢
    generalize w2.heap.size = b4 at HV ⊢
    clear HR HR1 HR2 HB HB1 HB2 HMW HM1
    -- REGION
    have HV := Lib.hid (HV.out.call (Below.refl _ _).drew)
    cases hmy : mayB ⟨k, i, S, b⟩
    · have HMY := Lib.hid hmy
      clear hmy
      refine wp_region_noPanic ?_
      refine wp_region_held_drew (S := (fun X => X.cell? ⟨b3, 0, none⟩ = some (.int .i64 k) ∧ X.cell? ⟨b3, 1, none⟩ = some (.int .i64 i) ∧ X.cell? ⟨b3, 2, none⟩ = some (.string S) ∧ X.cell? ⟨b3, 3, none⟩ = some (.bool b) ∧ X.cell? ⟨b4, 0, none⟩ = some (.int .i64 vk) ∧ X.cell? ⟨b4, 1, none⟩ = some (.int .i64 vi) ∧ X.cell? ⟨b4, 2, none⟩ = some (.string vs) ∧ X.cell? ⟨b4, 3, none⟩ = some (.bool vb))) (by kernel_rfl) ?_ (fun hHeld => ?_)
      · exact HV.out.cells
      refine wpAnyH_ready (rs := [0]) (by kernel_rfl) (by simp) ?_
      refine AllReadyH.cons rfl (fun K hK => ?_) AllReadyH.nil
      go_simp
      go_at_call 20
      (with_reducible refine (awake02 _ (HM.out.below HV.out.be)).mono ?_)
      rintro e w6 ⟨rfl, hb⟩
      have HV := Lib.hid (HV.out.call hb)
      clear hb
      try go_wp2_with fail
      refine hK.out _ _ ?_ (fun hHeld => ?_)
      · exact HV.out.cells
      clear hK K
      try simp only [Act.put, List.setIfInBounds_toArray, List.set_cons_zero, List.set_cons_succ]
      refine take_at 1 22 _ (v := ?va1) rfl rfl (by kernel_rfl) (by kernel_rfl) (by kernel_rfl) (fun _ _ _ h => h) (Or.inl ⟨by rfl, ?hya1⟩) (by assumption) ?resta1
      case hya1 =>
        intro wX hSw
        try dsimp only at hSw
        go_simp
        first
        | done
        | (with_reducible rfl)
      try simp only [Act.put, List.setIfInBounds_toArray, List.set_cons_zero, List.set_cons_succ]
      refine take_at 2 23 _ (v := ?va2) rfl rfl (by kernel_rfl) (by kernel_rfl) (by kernel_rfl) (fun _ _ _ h => h) (Or.inl ⟨by rfl, ?hya2⟩) (by assumption) ?resta2
      case hya2 =>
        intro wX hSw
        try dsimp only at hSw
        go_simp
        first
        | done
        | (with_reducible rfl)
      try simp only [Act.put, List.setIfInBounds_toArray, List.set_cons_zero, List.set_cons_succ]
      refine take_at 4 25 _ (v := ?va4) rfl rfl (by kernel_rfl) (by kernel_rfl) (by kernel_rfl) (fun _ _ _ h => h) (Or.inl ⟨by rfl, ?hya4⟩) (by assumption) ?resta4
      case hya4 =>
        intro wX hSw
        try dsimp only at hSw
        go_simp
        first
        | done
        | (with_reducible rfl)
      try simp only [Act.put, List.setIfInBounds_toArray, List.set_cons_zero, List.set_cons_succ]
      refine wpAnyH_ready (rs := [3]) (by kernel_rfl) (by simp) ?_
      refine AllReadyH.cons rfl (fun K hK => ?_) AllReadyH.nil
      go_simp
      go_at_call 25
      (with_reducible refine (vmay_any k i S b _).mono ?_)
      rw [HMY.out]
      rintro e w6 ⟨rfl, hb⟩
      have HV := Lib.hid (HV.out.call hb)
      clear hb
      try go_wp2_with fail
      refine hK.out _ _ ?_ (fun hHeld => ?_)
      · exact HV.out.cells
      clear hK K
      try simp only [Act.put, List.setIfInBounds_toArray, List.set_cons_zero, List.set_cons_succ]
      refine wpAnyH_ready (rs := [5]) (by kernel_rfl) (by simp) ?_
      refine AllReadyH.cons rfl (fun K hK => ?_) AllReadyH.nil
      go_simp
      go_at_call 26
      (with_reducible refine (lmay_any k i S b _).mono ?_)
      rw [HMY.out]
      rintro e w6 ⟨rfl, hb⟩
      have HV := Lib.hid (HV.out.call hb)
      clear hb
      try go_wp2_with fail
      refine hK.out _ _ ?_ (fun hHeld => ?_)
      · exact HV.out.cells
      clear hK K
      try simp only [Act.put, List.setIfInBounds_toArray, List.set_cons_zero, List.set_cons_succ]
      refine take_at 6 27 _ (v := ?va6) rfl rfl (by kernel_rfl) (by kernel_rfl) (by kernel_rfl) (fun _ _ _ h => h) (Or.inl ⟨by rfl, ?hya6⟩) (by assumption) ?resta6
      case hya6 =>
        intro wX hSw
        try dsimp only at hSw
        go_simp
        first
        | done
        | (with_reducible rfl)
      try simp only [Act.put, List.setIfInBounds_toArray, List.set_cons_zero, List.set_cons_succ]
      refine take_at 7 28 _ (v := ?va7) rfl rfl (by kernel_rfl) (by kernel_rfl) (by kernel_rfl) (fun _ _ _ h => h) (Or.inl ⟨by rfl, ?hya7⟩) (by assumption) ?resta7
      case hya7 =>
        intro wX hSw
        try dsimp only at hSw
        go_simp
        first
        | done
        | (with_reducible rfl)
      try simp only [Act.put, List.setIfInBounds_toArray, List.set_cons_zero, List.set_cons_succ]
      refine take_at 8 29 _ (v := ?va8) rfl rfl (by kernel_rfl) (by kernel_rfl) (by kernel_rfl) (fun _ _ _ h => h) (Or.inl ⟨by rfl, ?hya8⟩) (by assumption) ?resta8
      case hya8 =>
        intro wX hSw
        try dsimp only at hSw
        go_simp
        first
        | done
        | (with_reducible rfl)
      try simp only [Act.put, List.setIfInBounds_toArray, List.set_cons_zero, List.set_cons_succ]
      refine take_at 9 30 _ (v := ?va9) rfl rfl (by kernel_rfl) (by kernel_rfl) (by kernel_rfl) (fun _ _ _ h => h) (Or.inl ⟨by rfl, ?hya9⟩) (by assumption) ?resta9
      case hya9 =>
        intro wX hSw
        try dsimp only at hSw
        go_simp
        first
        | done
        | (with_reducible rfl)
      try simp only [Act.put, List.setIfInBounds_toArray, List.set_cons_zero, List.set_cons_succ]
      refine take_at 11 32 _ (v := ?va11) rfl rfl (by kernel_rfl) (by kernel_rfl) (by kernel_rfl) (fun _ _ _ h => h) (Or.inl ⟨by rfl, ?hya11⟩) (by assumption) ?resta11
      case hya11 =>
        intro wX hSw
        try dsimp only at hSw
        go_simp
        first
        | done
        | (with_reducible rfl)
      try simp only [Act.put, List.setIfInBounds_toArray, List.set_cons_zero, List.set_cons_succ]
      refine wpAnyH_ready (rs := [10]) (by kernel_rfl) (by simp) ?_
      refine AllReadyH.cons rfl (fun K hK => ?_) AllReadyH.nil
      go_simp
      go_at_call 24
      (with_reducible refine (show_any k i S b _ (HM.out.below HV.out.be) (by have := HSS.out; omega) HI.out.1 HI.out.2).mono ?_)
      rw [HT.out]
      rintro e w6 ⟨rfl, hb⟩
      have HV := Lib.hid (HV.out.call hb)
      clear hb
      try go_wp2_with fail
      refine hK.out _ _ ?_ (fun hHeld => ?_)
      · exact HV.out.cells
      clear hK K
      try simp only [Act.put, List.setIfInBounds_toArray, List.set_cons_zero, List.set_cons_succ]
      refine wpAnyH_ready (rs := [12]) (by kernel_rfl) (by simp) ?_
      refine AllReadyH.cons rfl (fun K hK => ?_) AllReadyH.nil
      go_simp
      go_at_call 27
      (with_reducible refine (lshow_any k i S b _ (by have := HSS.out; omega) HI.out.1 HI.out.2).mono ?_)
      rw [HT.out]
      rintro e w6 ⟨rfl, hb⟩
      have HV := Lib.hid (HV.out.call hb)
      clear hb
      try go_wp2_with fail
      refine hK.out _ _ ?_ (fun hHeld => ?_)
      · exact HV.out.cells
      clear hK K
      try simp only [Act.put, List.setIfInBounds_toArray, List.set_cons_zero, List.set_cons_succ]
      refine take_at 13 34 _ (v := ?va13) rfl rfl (by kernel_rfl) (by kernel_rfl) (by kernel_rfl) (fun _ _ _ h => h) (Or.inl ⟨by rfl, ?hya13⟩) (by assumption) ?resta13
      case hya13 =>
        intro wX hSw
        try dsimp only at hSw
        go_simp
        first
        | done
        | (with_reducible rfl)
      try simp only [Act.put, List.setIfInBounds_toArray, List.set_cons_zero, List.set_cons_succ]
      refine take_at 14 35 _ (v := ?va14) rfl rfl (by kernel_rfl) (by kernel_rfl) (by kernel_rfl) (fun _ _ _ h => h) (Or.inl ⟨by rfl, ?hya14⟩) (by assumption) ?resta14
      case hya14 =>
        intro wX hSw
        try dsimp only at hSw
        go_simp
        first
        | done
        | (with_reducible rfl)
      try simp only [Act.put, List.setIfInBounds_toArray, List.set_cons_zero, List.set_cons_succ]
      refine take_at 15 36 _ (v := ?va15) rfl rfl (by kernel_rfl) (by kernel_rfl) (by kernel_rfl) (fun _ _ _ h => h) (Or.inl ⟨by rfl, ?hya15⟩) (by assumption) ?resta15
      case hya15 =>
        intro wX hSw
        try dsimp only at hSw
        go_simp
        first
        | done
        | (with_reducible rfl)
      try simp only [Act.put, List.setIfInBounds_toArray, List.set_cons_zero, List.set_cons_succ]
      refine take_at 16 37 _ (v := ?va16) rfl rfl (by kernel_rfl) (by kernel_rfl) (by kernel_rfl) (fun _ _ _ h => h) (Or.inl ⟨by rfl, ?hya16⟩) (by assumption) ?resta16
      case hya16 =>
        intro wX hSw
        try dsimp only at hSw
        go_simp
        first
        | done
        | (with_reducible rfl)
      try simp only [Act.put, List.setIfInBounds_toArray, List.set_cons_zero, List.set_cons_succ]
      refine wpAnyH_ready (rs := [17]) (by kernel_rfl) (by simp) ?_
      refine AllReadyH.cons rfl (fun K hK => ?_) AllReadyH.nil
      go_simp
      go_at_call 26
      (with_reducible refine (lmay_any k i S b _).mono ?_)
      rw [HMY.out]
      rintro e w6 ⟨rfl, hb⟩
      have HV := Lib.hid (HV.out.call hb)
      clear hb
      try go_wp2_with fail
      refine hK.out _ _ ?_ (fun hHeld => ?_)
      · exact HV.out.cells
      clear hK K
      try simp only [Act.put, List.setIfInBounds_toArray, List.set_cons_zero, List.set_cons_succ]
      refine take_at 18 39 _ (v := ?va18) rfl rfl (by kernel_rfl) (by kernel_rfl) (by kernel_rfl) (fun _ _ _ h => h) (Or.inl ⟨by rfl, ?hya18⟩) (by assumption) ?resta18
      case hya18 =>
        intro wX hSw
        try dsimp only at hSw
        go_simp
        first
        | done
        | (with_reducible rfl)
      try simp only [Act.put, List.setIfInBounds_toArray, List.set_cons_zero, List.set_cons_succ]
      refine take_at 19 40 _ (v := ?va19) rfl rfl (by kernel_rfl) (by kernel_rfl) (by kernel_rfl) (fun _ _ _ h => h) (Or.inl ⟨by rfl, ?hya19⟩) (by assumption) ?resta19
      case hya19 =>
        intro wX hSw
        try dsimp only at hSw
        go_simp
        first
        | done
        | (with_reducible rfl)
      try simp only [Act.put, List.setIfInBounds_toArray, List.set_cons_zero, List.set_cons_succ]
      refine take_at 20 41 _ (v := undef) rfl rfl (by kernel_rfl) (by kernel_rfl) (by kernel_rfl) (fun _ _ _ h => h) (Or.inr ⟨by rfl, rfl⟩) (by assumption) ?_
      try simp only [Act.put, List.setIfInBounds_toArray, List.set_cons_zero, List.set_cons_succ]
      refine take_at 21 42 _ (v := undef) rfl rfl (by kernel_rfl) (by kernel_rfl) (by kernel_rfl) (fun _ _ _ h => h) (Or.inr ⟨by rfl, rfl⟩) (by assumption) ?_
      try simp only [Act.put, List.setIfInBounds_toArray, List.set_cons_zero, List.set_cons_succ]
      refine take_at 22 43 _ (v := undef) rfl rfl (by kernel_rfl) (by kernel_rfl) (by kernel_rfl) (fun _ _ _ h => h) (Or.inr ⟨by rfl, rfl⟩) (by assumption) ?_
      try simp only [Act.put, List.setIfInBounds_toArray, List.set_cons_zero, List.set_cons_succ]
      refine take_at 23 44 _ (v := undef) rfl rfl (by kernel_rfl) (by kernel_rfl) (by kernel_rfl) (fun _ _ _ h => h) (Or.inr ⟨by rfl, rfl⟩) (by assumption) ?_
      try simp only [Act.put, List.setIfInBounds_toArray, List.set_cons_zero, List.set_cons_succ]
      refine take_at 24 45 _ (v := undef) rfl rfl (by kernel_rfl) (by kernel_rfl) (by kernel_rfl) (fun _ _ _ h => h) (Or.inr ⟨by rfl, rfl⟩) (by assumption) ?_
      try simp only [Act.put, List.setIfInBounds_toArray, List.set_cons_zero, List.set_cons_succ]
      refine take_at 25 46 _ (v := undef) rfl rfl (by kernel_rfl) (by kernel_rfl) (by kernel_rfl) (fun _ _ _ h => h) (Or.inr ⟨by rfl, rfl⟩) (by assumption) ?_
      try simp only [Act.put, List.setIfInBounds_toArray, List.set_cons_zero, List.set_cons_succ]
      refine take_at 26 47 _ (v := ?va26) rfl rfl (by kernel_rfl) (by kernel_rfl) (by kernel_rfl) (fun _ _ _ h => h) (Or.inl ⟨by rfl, ?hya26⟩) (by assumption) ?resta26
      case hya26 =>
        intro wX hSw
        try dsimp only at hSw
        go_simp
        first
        | done
        | (with_reducible rfl)
      try simp only [Act.put, List.setIfInBounds_toArray, List.set_cons_zero, List.set_cons_succ]
      refine take_at 27 48 _ (v := ?va27) rfl rfl (by kernel_rfl) (by kernel_rfl) (by kernel_rfl) (fun _ _ _ h => h) (Or.inl ⟨by rfl, ?hya27⟩) (by assumption) ?resta27
      case hya27 =>
        intro wX hSw
        try dsimp only at hSw
        go_simp
        first
        | done
        | (with_reducible rfl)
      try simp only [Act.put, List.setIfInBounds_toArray, List.set_cons_zero, List.set_cons_succ]
      refine take_at 28 2 _ (v := ?va28) rfl rfl (by kernel_rfl) (by kernel_rfl) (by kernel_rfl) (fun _ _ _ h => h) (Or.inl ⟨by rfl, ?hya28⟩) (by assumption) ?resta28
      case hya28 =>
        intro wX hSw
        try dsimp only at hSw
        go_simp
        first
        | done
        | (with_reducible rfl)
      try simp only [Act.put, List.setIfInBounds_toArray, List.set_cons_zero, List.set_cons_succ]
      refine wpAnyH_done (by kernel_rfl) ?_ _
      refine NoPanic.normal ?_
      have HF := Lib.hid HV.out.be
      go_wp2
      go_ret
      exact ⟨rfl, HF.out⟩
    · have HMY := Lib.hid hmy
      obtain ⟨e1, rfl⟩ := HOK.out hmy
      injection e1 with e1 e2 e3 e4
      have f1 := e1.symm
      have f2 := e2.symm
      have f3 := e3.symm
      have f4 := e4.symm
      subst f1 f2 f3 f4
      clear hmy HOK
      refine wp_region_noPanic ?_
      refine wp_region_held_drew (S := (fun X => X.cell? ⟨b3, 0, none⟩ = some (.int .i64 k) ∧ X.cell? ⟨b3, 1, none⟩ = some (.int .i64 i) ∧ X.cell? ⟨b3, 2, none⟩ = some (.string S) ∧ X.cell? ⟨b3, 3, none⟩ = some (.bool b) ∧ X.cell? ⟨b4, 0, none⟩ = some (.int .i64 k) ∧ X.cell? ⟨b4, 1, none⟩ = some (.int .i64 i) ∧ X.cell? ⟨b4, 2, none⟩ = some (.string S) ∧ X.cell? ⟨b4, 3, none⟩ = some (.bool b))) (by kernel_rfl) ?_ (fun hHeld => ?_)
      · exact HV.out.cells
      refine wpAnyH_ready (rs := [0]) (by kernel_rfl) (by simp) ?_
      refine AllReadyH.cons rfl (fun K hK => ?_) AllReadyH.nil
      go_simp
      go_at_call 20
      (with_reducible refine (awake02 _ (HM.out.below HV.out.be)).mono ?_)
      rintro e w6 ⟨rfl, hb⟩
      have HV := Lib.hid (HV.out.call hb)
      clear hb
      try go_wp2_with fail
      refine hK.out _ _ ?_ (fun hHeld => ?_)
      · exact HV.out.cells
      clear hK K
      try simp only [Act.put, List.setIfInBounds_toArray, List.set_cons_zero, List.set_cons_succ]
      refine take_at 1 22 _ (v := ?vb1) rfl rfl (by kernel_rfl) (by kernel_rfl) (by kernel_rfl) (fun _ _ _ h => h) (Or.inl ⟨by rfl, ?hyb1⟩) (by assumption) ?restb1
      case hyb1 =>
        intro wX hSw
        try dsimp only at hSw
        go_simp
        first
        | done
        | (with_reducible rfl)
      try simp only [Act.put, List.setIfInBounds_toArray, List.set_cons_zero, List.set_cons_succ]
      refine take_at 2 23 _ (v := ?vb2) rfl rfl (by kernel_rfl) (by kernel_rfl) (by kernel_rfl) (fun _ _ _ h => h) (Or.inl ⟨by rfl, ?hyb2⟩) (by assumption) ?restb2
      case hyb2 =>
        intro wX hSw
        try dsimp only at hSw
        go_simp
        first
        | done
        | (with_reducible rfl)
      try simp only [Act.put, List.setIfInBounds_toArray, List.set_cons_zero, List.set_cons_succ]
      refine take_at 4 25 _ (v := ?vb4) rfl rfl (by kernel_rfl) (by kernel_rfl) (by kernel_rfl) (fun _ _ _ h => h) (Or.inl ⟨by rfl, ?hyb4⟩) (by assumption) ?restb4
      case hyb4 =>
        intro wX hSw
        try dsimp only at hSw
        go_simp
        first
        | done
        | (with_reducible rfl)
      try simp only [Act.put, List.setIfInBounds_toArray, List.set_cons_zero, List.set_cons_succ]
      refine wpAnyH_ready (rs := [3]) (by kernel_rfl) (by simp) ?_
      refine AllReadyH.cons rfl (fun K hK => ?_) AllReadyH.nil
      go_simp
      go_at_call 25
      (with_reducible refine (vmay_any k i S b _).mono ?_)
      rw [HMY.out]
      rintro e w6 ⟨rfl, hb⟩
      have HV := Lib.hid (HV.out.call hb)
      clear hb
      try go_wp2_with fail
      refine hK.out _ _ ?_ (fun hHeld => ?_)
      · exact HV.out.cells
      clear hK K
      try simp only [Act.put, List.setIfInBounds_toArray, List.set_cons_zero, List.set_cons_succ]
      refine wpAnyH_ready (rs := [5]) (by kernel_rfl) (by simp) ?_
      refine AllReadyH.cons rfl (fun K hK => ?_) AllReadyH.nil
      go_simp
      go_at_call 26
      (with_reducible refine (lmay_any k i S b _).mono ?_)
      rw [HMY.out]
      rintro e w6 ⟨rfl, hb⟩
      have HV := Lib.hid (HV.out.call hb)
      clear hb
      try go_wp2_with fail
      refine hK.out _ _ ?_ (fun hHeld => ?_)
      · exact HV.out.cells
      clear hK K
      try simp only [Act.put, List.setIfInBounds_toArray, List.set_cons_zero, List.set_cons_succ]
      refine take_at 6 27 _ (v := ?vb6) rfl rfl (by kernel_rfl) (by kernel_rfl) (by kernel_rfl) (fun _ _ _ h => h) (Or.inl ⟨by rfl, ?hyb6⟩) (by assumption) ?restb6
      case hyb6 =>
        intro wX hSw
        try dsimp only at hSw
        go_simp
        first
        | done
        | (with_reducible rfl)
      try simp only [Act.put, List.setIfInBounds_toArray, List.set_cons_zero, List.set_cons_succ]
      refine take_at 7 28 _ (v := ?vb7) rfl rfl (by kernel_rfl) (by kernel_rfl) (by kernel_rfl) (fun _ _ _ h => h) (Or.inl ⟨by rfl, ?hyb7⟩) (by assumption) ?restb7
      case hyb7 =>
        intro wX hSw
        try dsimp only at hSw
        go_simp
        first
        | done
        | (with_reducible rfl)
      try simp only [Act.put, List.setIfInBounds_toArray, List.set_cons_zero, List.set_cons_succ]
      refine take_at 8 29 _ (v := ?vb8) rfl rfl (by kernel_rfl) (by kernel_rfl) (by kernel_rfl) (fun _ _ _ h => h) (Or.inl ⟨by rfl, ?hyb8⟩) (by assumption) ?restb8
      case hyb8 =>
        intro wX hSw
        try dsimp only at hSw
        go_simp
        first
        | done
        | (with_reducible rfl)
      try simp only [Act.put, List.setIfInBounds_toArray, List.set_cons_zero, List.set_cons_succ]
      refine take_at 9 30 _ (v := ?vb9) rfl rfl (by kernel_rfl) (by kernel_rfl) (by kernel_rfl) (fun _ _ _ h => h) (Or.inl ⟨by rfl, ?hyb9⟩) (by assumption) ?restb9
      case hyb9 =>
        intro wX hSw
        try dsimp only at hSw
        go_simp
        first
        | done
        | (with_reducible rfl)
      try simp only [Act.put, List.setIfInBounds_toArray, List.set_cons_zero, List.set_cons_succ]
      refine take_at 11 32 _ (v := ?vb11) rfl rfl (by kernel_rfl) (by kernel_rfl) (by kernel_rfl) (fun _ _ _ h => h) (Or.inl ⟨by rfl, ?hyb11⟩) (by assumption) ?restb11
      case hyb11 =>
        intro wX hSw
        try dsimp only at hSw
        go_simp
        first
        | done
        | (with_reducible rfl)
      try simp only [Act.put, List.setIfInBounds_toArray, List.set_cons_zero, List.set_cons_succ]
      refine wpAnyH_ready (rs := [10]) (by kernel_rfl) (by simp) ?_
      refine AllReadyH.cons rfl (fun K hK => ?_) AllReadyH.nil
      go_simp
      go_at_call 24
      (with_reducible refine (show_any k i S b _ (HM.out.below HV.out.be) (by have := HSS.out; omega) HI.out.1 HI.out.2).mono ?_)
      rw [HT.out]
      rintro e w6 ⟨rfl, hb⟩
      have HV := Lib.hid (HV.out.call hb)
      clear hb
      try go_wp2_with fail
      refine hK.out _ _ ?_ (fun hHeld => ?_)
      · exact HV.out.cells
      clear hK K
      try simp only [Act.put, List.setIfInBounds_toArray, List.set_cons_zero, List.set_cons_succ]
      refine wpAnyH_ready (rs := [12]) (by kernel_rfl) (by simp) ?_
      refine AllReadyH.cons rfl (fun K hK => ?_) AllReadyH.nil
      go_simp
      go_at_call 27
      (with_reducible refine (lshow_any k i S b _ (by have := HSS.out; omega) HI.out.1 HI.out.2).mono ?_)
      rw [HT.out]
      rintro e w6 ⟨rfl, hb⟩
      have HV := Lib.hid (HV.out.call hb)
      clear hb
      try go_wp2_with fail
      refine hK.out _ _ ?_ (fun hHeld => ?_)
      · exact HV.out.cells
      clear hK K
      try simp only [Act.put, List.setIfInBounds_toArray, List.set_cons_zero, List.set_cons_succ]
      refine take_at 13 34 _ (v := ?vb13) rfl rfl (by kernel_rfl) (by kernel_rfl) (by kernel_rfl) (fun _ _ _ h => h) (Or.inl ⟨by rfl, ?hyb13⟩) (by assumption) ?restb13
      case hyb13 =>
        intro wX hSw
        try dsimp only at hSw
        go_simp
        first
        | done
        | (with_reducible rfl)
      try simp only [Act.put, List.setIfInBounds_toArray, List.set_cons_zero, List.set_cons_succ]
      refine take_at 14 35 _ (v := ?vb14) rfl rfl (by kernel_rfl) (by kernel_rfl) (by kernel_rfl) (fun _ _ _ h => h) (Or.inl ⟨by rfl, ?hyb14⟩) (by assumption) ?restb14
      case hyb14 =>
        intro wX hSw
        try dsimp only at hSw
        go_simp
        first
        | done
        | (with_reducible rfl)
      try simp only [Act.put, List.setIfInBounds_toArray, List.set_cons_zero, List.set_cons_succ]
      refine take_at 15 36 _ (v := ?vb15) rfl rfl (by kernel_rfl) (by kernel_rfl) (by kernel_rfl) (fun _ _ _ h => h) (Or.inl ⟨by rfl, ?hyb15⟩) (by assumption) ?restb15
      case hyb15 =>
        intro wX hSw
        try dsimp only at hSw
        go_simp
        first
        | done
        | (with_reducible rfl)
      try simp only [Act.put, List.setIfInBounds_toArray, List.set_cons_zero, List.set_cons_succ]
      refine take_at 16 37 _ (v := ?vb16) rfl rfl (by kernel_rfl) (by kernel_rfl) (by kernel_rfl) (fun _ _ _ h => h) (Or.inl ⟨by rfl, ?hyb16⟩) (by assumption) ?restb16
      case hyb16 =>
        intro wX hSw
        try dsimp only at hSw
        go_simp
        first
        | done
        | (with_reducible rfl)
      try simp only [Act.put, List.setIfInBounds_toArray, List.set_cons_zero, List.set_cons_succ]
      refine wpAnyH_ready (rs := [17]) (by kernel_rfl) (by simp) ?_
      refine AllReadyH.cons rfl (fun K hK => ?_) AllReadyH.nil
      go_simp
      go_at_call 26
      (with_reducible refine (lmay_any k i S b _).mono ?_)
      rw [HMY.out]
      rintro e w6 ⟨rfl, hb⟩
      have HV := Lib.hid (HV.out.call hb)
      clear hb
      try go_wp2_with fail
      refine hK.out _ _ ?_ (fun hHeld => ?_)
      · exact HV.out.cells
      clear hK K
      try simp only [Act.put, List.setIfInBounds_toArray, List.set_cons_zero, List.set_cons_succ]
      refine take_at 18 39 _ (v := ?vb18) rfl rfl (by kernel_rfl) (by kernel_rfl) (by kernel_rfl) (fun _ _ _ h => h) (Or.inl ⟨by rfl, ?hyb18⟩) (by assumption) ?restb18
      case hyb18 =>
        intro wX hSw
        try dsimp only at hSw
        go_simp
        first
        | done
        | (with_reducible rfl)
      try simp only [Act.put, List.setIfInBounds_toArray, List.set_cons_zero, List.set_cons_succ]
      refine take_at 19 40 _ (v := ?vb19) rfl rfl (by kernel_rfl) (by kernel_rfl) (by kernel_rfl) (fun _ _ _ h => h) (Or.inl ⟨by rfl, ?hyb19⟩) (by assumption) ?restb19
      case hyb19 =>
        intro wX hSw
        try dsimp only at hSw
        go_simp
        first
        | done
        | (with_reducible rfl)
      try simp only [Act.put, List.setIfInBounds_toArray, List.set_cons_zero, List.set_cons_succ]
      refine take_at 20 41 _ (v := ?vb20) rfl rfl (by kernel_rfl) (by kernel_rfl) (by kernel_rfl) (fun _ _ _ h => h) (Or.inl ⟨by rfl, ?hyb20⟩) (by assumption) ?restb20
      case hyb20 =>
        intro wX hSw
        try dsimp only at hSw
        go_simp
        first
        | done
        | (with_reducible rfl)
      try simp only [Act.put, List.setIfInBounds_toArray, List.set_cons_zero, List.set_cons_succ]
      refine take_at 21 42 _ (v := ?vb21) rfl rfl (by kernel_rfl) (by kernel_rfl) (by kernel_rfl) (fun _ _ _ h => h) (Or.inl ⟨by rfl, ?hyb21⟩) (by assumption) ?restb21
      case hyb21 =>
        intro wX hSw
        try dsimp only at hSw
        go_simp
        first
        | done
        | (with_reducible rfl)
      try simp only [Act.put, List.setIfInBounds_toArray, List.set_cons_zero, List.set_cons_succ]
      refine take_at 22 43 _ (v := ?vb22) rfl rfl (by kernel_rfl) (by kernel_rfl) (by kernel_rfl) (fun _ _ _ h => h) (Or.inl ⟨by rfl, ?hyb22⟩) (by assumption) ?restb22
      case hyb22 =>
        intro wX hSw
        try dsimp only at hSw
        go_simp
        first
        | done
        | (with_reducible rfl)
      try simp only [Act.put, List.setIfInBounds_toArray, List.set_cons_zero, List.set_cons_succ]
      refine take_at 23 44 _ (v := ?vb23) rfl rfl (by kernel_rfl) (by kernel_rfl) (by kernel_rfl) (fun _ _ _ h => h) (Or.inl ⟨by rfl, ?hyb23⟩) (by assumption) ?restb23
      case hyb23 =>
        intro wX hSw
        try dsimp only at hSw
        go_simp
        first
        | done
        | (with_reducible rfl)
      try simp only [Act.put, List.setIfInBounds_toArray, List.set_cons_zero, List.set_cons_succ]
      refine take_at 24 45 _ (v := ?vb24) rfl rfl (by kernel_rfl) (by kernel_rfl) (by kernel_rfl) (fun _ _ _ h => h) (Or.inl ⟨by rfl, ?hyb24⟩) (by assumption) ?restb24
      case hyb24 =>
        intro wX hSw
        try dsimp only at hSw
        go_simp
        first
        | done
        | (with_reducible rfl)
      try simp only [Act.put, List.setIfInBounds_toArray, List.set_cons_zero, List.set_cons_succ]
      refine take_at 25 46 _ (v := ?vb25) rfl rfl (by kernel_rfl) (by kernel_rfl) (by kernel_rfl) (fun _ _ _ h => h) (Or.inl ⟨by rfl, ?hyb25⟩) (by assumption) ?restb25
      case hyb25 =>
        intro wX hSw
        try dsimp only at hSw
        go_simp
        first
        | done
        | (with_reducible rfl)
      try simp only [Act.put, List.setIfInBounds_toArray, List.set_cons_zero, List.set_cons_succ]
      refine take_at 26 47 _ (v := ?vb26) rfl rfl (by kernel_rfl) (by kernel_rfl) (by kernel_rfl) (fun _ _ _ h => h) (Or.inl ⟨by rfl, ?hyb26⟩) (by assumption) ?restb26
      case hyb26 =>
        intro wX hSw
        try dsimp only at hSw
        go_simp
        first
        | done
        | (with_reducible rfl)
      try simp only [Act.put, List.setIfInBounds_toArray, List.set_cons_zero, List.set_cons_succ]
      refine take_at 27 48 _ (v := ?vb27) rfl rfl (by kernel_rfl) (by kernel_rfl) (by kernel_rfl) (fun _ _ _ h => h) (Or.inl ⟨by rfl, ?hyb27⟩) (by assumption) ?restb27
      case hyb27 =>
        intro wX hSw
        try dsimp only at hSw
        go_simp
        first
        | done
        | (with_reducible rfl)
      try simp only [Act.put, List.setIfInBounds_toArray, List.set_cons_zero, List.set_cons_succ]
      refine take_at 28 2 _ (v := ?vb28) rfl rfl (by kernel_rfl) (by kernel_rfl) (by kernel_rfl) (fun _ _ _ h => h) (Or.inl ⟨by rfl, ?hyb28⟩) (by assumption) ?restb28
      case hyb28 =>
        intro wX hSw
        try dsimp only at hSw
        go_simp
        first
        | done
        | (with_reducible rfl)
      try simp only [Act.put, List.setIfInBounds_toArray, List.set_cons_zero, List.set_cons_succ]
      refine wpAnyH_done (by kernel_rfl) ?_ _
      refine NoPanic.normal ?_
      have HF := Lib.hid HV.out.be
      go_wp2
      go_ret
      exact ⟨rfl, HF.out⟩
end Go.Proofs.YtlpkeinablekpaaDoor.Vd
