/- OmapTells' law. -/
import Derived.Test.YtnibmfijkbfaeaaOmH
namespace Go.Proofs.Ytnibmfijkbfaeaa.Om
open Go.RowKit Go.Proofs.Ytnibmfijkbfaeaa
set_option linter.unusedVariables false
set_option linter.unusedSimpArgs false
set_option maxRecDepth 100000
attribute [local go_sem] Oper.semAt_some
open Key (lt)
set_option maxHeartbeats 8000000 in
theorem tells_law (A : Option Addr) (n c : Nat) (f : Nat → Int) (hn : n ≤ c) (hc : c ≤ 9223372036854775807) (F0 k : Int) (w : World) (hl : Lies w w.heap.size A n (fun k => .int .i64 (f k))) :
    CallsIn Fence.wide 60 Try.prog 4 #[.slice A n c, .int .i64 F0, .int .i64 k] w fun e w' => e = .returned (.bool true) ∧ Below w.heap.size w w' := by
  have hF : ∀ k, Fence.wide.fn k := fun _ => trivial
  have hro : Fence.wide.round = none := rfl
  have HLI := Lib.hid hl
  clear hl
  refine callsIn_of_wp_marks Try.func4 rfl trivial ?_ rfl
  simp only [Try.ntmps4, List.size_toArray, List.length_cons, List.length_nil, Nat.reduceAdd, Nat.reduceSub, Array.replicate_succ, Array.replicate_zero, List.push_toArray, List.append_toArray, List.nil_append, List.cons_append]
  refine wpIn_wide.2 ?_
  go_wp2_with (go_at_call 6; refine (awake_any _).mono ?_; rintro e w1 ⟨rfl, hb1⟩; have HB := Lib.hid hb1; clear hb1)
  have hw0 : w.heap.size + 2 ≤ w1.heap.size := by have := HB.out.size; simpa using this
  have r5 : Row w1 w.heap.size 3 #[.int .i64 k] := by
    have h := (Row.made w 3 #[.int .i64 k]).alloc (.cells #[.bool false] 4)
    exact (HB.out.block _ h.lt).trans h
  have r6 : Row w1 (w.heap.size + 1) 4 #[.bool false] := by
    have h := Row.made (w.alloc (.cells #[.int .i64 k] 3)) 4 #[.bool false]
    rw [World.size_alloc] at h
    exact (HB.out.block _ h.lt).trans h
  obtain ⟨b, hb⟩ : ∃ b, w1.heap.size = b := ⟨_, rfl⟩
  obtain ⟨w2, hw2⟩ : ∃ w2, w1.alloc (.cells #[.pointer none] 26) = w2 := ⟨_, rfl⟩
  have hbb : Below w.heap.size w w1 := (((Below.refl _ w).alloc (Nat.le_refl _) _).alloc (by simp) _).trans (HB.out.mono (by simp; omega))
  have HB2 : Hid (Below w.heap.size w w2) := Lib.hid (by rw [← hw2]; exact hbb.alloc hbb.size _)
  have HM2 : Hid (MLI w2 b (fillI f 0)) := Lib.hid (by rw [← hw2, ← hb]; exact MLI.new (Row.made w1 _ _))
  have H5 : Hid (Row w2 w.heap.size 3 #[.int .i64 k]) := Lib.hid (by rw [← hw2]; exact r5.alloc _)
  have H6 : Hid (Row w2 (w.heap.size + 1) 4 #[.bool false]) := Lib.hid (by rw [← hw2]; exact r6.alloc _)
  have hwb : w.heap.size + 2 ≤ b := by omega
  rw [hw2, hb]
  clear hw2 hb HB hbb r5 r6 hw0
  go_loopw [8] (fun s8 wr => ∃ i : Nat, i ≤ n ∧ i ≤ 30 ∧ s8 = .int .i64 i ∧ Hid (MLI wr b (fillI f i) ∧ Turns w2 wr (fun j => j = b))) (fun s8 _ => 30 - (intOf s8).toNat)
  case atStart => exact ⟨0, Nat.zero_le _, by omega, rfl, Lib.hid ⟨HM2.out, Turns.refl _ _⟩⟩
  case round =>
    obtain ⟨i, hin, hi30, rfl, hrel⟩ := hrel
    obtain ⟨wr0, rfl⟩ : ∃ x, x = wr := ⟨_, rfl⟩
    have hbe : Below w.heap.size w wr0 := hrel.out.2.below HB2.out HB2.out.size (fun j hj e => by omega)
    have hfl := fillI_le f i
    by_cases hlt : i < n ∧ i < 30
    · obtain ⟨hlt, hl30⟩ := hlt
      have hiz : (i : Int) < (n : Int) := by omega
      have hiw : IntKind.i64.wrap ((i : Int) + 1) = (i : Int) + 1 := by rw [IntKind.wrap_i64]; omega
      obtain ⟨g, o, e, hg, h⟩ := HLI.out i hlt
      have kc : wr0.cell? ⟨g, o + i, none⟩ = some (.int .i64 (f i)) := (hbe.cell (p := ⟨g, o + i, none⟩) hg).trans h
      have a31 := and31 (f i)
      have HP := Lib.hid (mput_i b (f i % 32) (i : Int) (fillI f i) wr0 hrel.out.1 (by omega))
      have hpe : Hid (put (f i % 32) (i : Int) (fillI f i) = fillI f (i + 1)) := Lib.hid rfl
      obtain ⟨y, hy⟩ : ∃ y, f i % 32 = y := ⟨_, rfl⟩
      rw [hy] at a31 HP hpe
      obtain ⟨x, hx⟩ : ∃ x, f i = x := ⟨_, rfl⟩
      rw [hx] at a31 kc
      subst e
      clear hbe h hy hx hfl
      go_wp2_with (go_at_call 7; refine HP.out.mono ?_; rintro e w4 ⟨rfl, hm4, ht4⟩; rw [hpe.out] at hm4; have HM4 := Lib.hid hm4; have HT4 := Lib.hid ht4; clear hm4 ht4)
      go_roundw
      case rel => exact ⟨i + 1, by omega, by omega, by go_num, Lib.hid ⟨HM4.out, hrel.out.2.trans HT4.out (fun _ _ e => e)⟩⟩
      case measure => simp [intOf]; omega
    · have hex : (n : Int) ≤ (i : Int) ∨ (i : Int) < (n : Int) ∧ (30 : Int) ≤ (i : Int) := by omega
      have HML := Lib.hid hrel.out.1
      have HBE := Lib.hid hbe
      have HTU := Lib.hid hrel.out.2
      obtain ⟨L, hL⟩ : ∃ L, fillI f i = L := ⟨_, rfl⟩
      have HLU : Hid (Up L) := Lib.hid (by rw [← hL]; exact fillI_up f i)
      rw [hL] at HML hfl
      clear hL hrel hbe HM2 HB2 hlt
      go_upto_region 5 with fail
      go_cut [32] from 25 to 33 (fun s32 wx => s32 = .bool false ∧ wr0 = wx)
      case first =>
        rcases hex with h1 | ⟨h1, h2⟩
        · go_wp2
          go_meet
          exact ⟨rfl, rfl⟩
        · have hd : decide ((i : Int) < 30) = false := decide_eq_false (by omega)
          go_wp2
          go_meet
          exact ⟨rfl, rfl⟩
      obtain ⟨rfl, rfl⟩ := hcut
      clear hex
      obtain ⟨N, hN⟩ : ∃ N, L.length = N := ⟨_, rfl⟩
      have hN30 : N ≤ 30 := by omega
      have HN := Lib.hid hN
      clear hN hfl
      have HK := Lib.hid (mkeys_i b L wr0 HML.out (by rw [HN.out]; omega))
      obtain ⟨Ks, hKs⟩ : ∃ Ks, L.map Prod.fst = Ks := ⟨_, rfl⟩
      have hKN : Ks.length = N := by rw [← hKs, List.length_map, HN.out]
      rw [hKs, hKN] at HK
      have HKS := Lib.hid hKs
      have HKN := Lib.hid hKN
      clear hKs hKN
      go_upto_region 10 with (go_at_call 10; refine HK.out.mono ?_; rintro e w3 ⟨v3, ob, rfl, hs3, hb3⟩; obtain ⟨A9, c9, rfl, hn9, hm9⟩ := hs3.form; have HS3 := Lib.hid hs3; have HB3 := Lib.hid hb3; clear hs3 hb3)
      have HB3w := Lib.hid (HBE.out.trans (HB3.out.mono HBE.out.size))
      obtain ⟨P0, tr, pm, hmp, hcp0, etr, hup⟩ := ML_mapP (HML.out.below HB3.out)
      obtain ⟨b9, hb9⟩ : ∃ x, w3.heap.size = x := ⟨_, rfl⟩
      obtain ⟨b10, hb10⟩ : ∃ x, b9 + 1 = x := ⟨_, rfl⟩
      obtain ⟨b11, hb11⟩ : ∃ x, b10 + 1 = x := ⟨_, rfl⟩
      obtain ⟨w4, hw4⟩ : ∃ x, ((w3.alloc (.cells #[.slice A9 N c9] 35)).alloc (.cells #[.int .i64 0] 3)).alloc (.cells #[.int .i64 0] 3) = x := ⟨_, rfl⟩
      have hb34 : Below w3.heap.size w3 w4 := by rw [← hw4]; exact (((Below.refl _ w3).alloc (Nat.le_refl _) _).alloc (by simp) _).alloc (by simp; omega) _
      obtain ⟨b12, hb12⟩ : ∃ x, b11 + 1 = x := ⟨_, rfl⟩
      have hs4 : w4.heap.size = b12 := by rw [← hw4]; simp; omega
      have t5 : Row w3 w.heap.size 3 #[.int .i64 k] := (H5.out.turns HTU.out (fun e => by omega)).below HB3.out (H5.out.turns HTU.out (fun e => by omega)).lt
      have t6 : Row w3 (w.heap.size + 1) 4 #[.bool false] := (H6.out.turns HTU.out (fun e => by omega)).below HB3.out (H6.out.turns HTU.out (fun e => by omega)).lt
      have V5 := Lib.hid (t5.below hb34 t5.lt)
      have V6 := Lib.hid (t6.below hb34 t6.lt)
      have V9 : Hid (Row w4 b9 35 #[.slice A9 N c9]) := Lib.hid (by rw [← hw4, ← hb9]; exact ((Row.made w3 _ _).alloc _).alloc _)
      have V10 : Hid (Row w4 b10 3 #[.int .i64 0]) := Lib.hid (by
        rw [← hw4, ← hb10, ← hb9]; have h := (Row.made (w3.alloc (.cells #[.slice A9 N c9] 35)) 3 #[.int .i64 0]).alloc (.cells #[.int .i64 0] 3)
        rwa [World.size_alloc] at h)
      have V11 : Hid (Row w4 b11 3 #[.int .i64 0]) := Lib.hid (by
        rw [← hw4, ← hb11, ← hb10, ← hb9]; have h := Row.made ((w3.alloc (.cells #[.slice A9 N c9] 35)).alloc (.cells #[.int .i64 0] 3)) 3 #[.int .i64 0]
        rwa [World.size_alloc, World.size_alloc] at h)
      have VS := Lib.hid (HS3.out.keep fun g hg => hb34.block g (HS3.out.lt g hg))
      have VM := Lib.hid (hmp.hold (Hold.below hb34))
      have VC := Lib.hid (hcp0.hold (Hold.below hb34))
      have VBW := Lib.hid (HB3w.out.trans (hb34.mono HB3w.out.size))
      have hP0 : Hid (∀ j, P0 j → j < b9) := Lib.hid (fun j hj => by rw [← hb9]; exact hcp0.lt hj)
      have hob : Hid (∀ g, ob = some g → g < b9) := Lib.hid (fun g hg => by rw [← hb9]; exact HS3.out.lt g hg)
      have hwb9 : w.heap.size + 2 ≤ b9 := by have := t6.lt; omega
      have HTL := Lib.hid etr
      have HUP := Lib.hid hup
      rw [hb9, hb10, hb11, hw4]
      clear hw4 hb34 t5 t6 hmp hcp0 HML HTU HB3 HBE HB3w HS3 H5 H6 HK etr hup
      go_wp2_with (go_at_call 16; refine (allmk_i (some ⟨b, 0, none⟩) _).mono ?_; rintro e w5 ⟨rfl, hw5⟩; have HW5 := Lib.hid hw5; clear hw5)
      have hb45 : Below w4.heap.size w4 w5 := by rw [HW5.out]; exact (Below.refl _ w4).alloc (Nat.le_refl _) _
      have U5 := Lib.hid (V5.out.below hb45 V5.out.lt)
      have U6 := Lib.hid (V6.out.below hb45 V6.out.lt)
      have U9 := Lib.hid (V9.out.below hb45 V9.out.lt)
      have U10 := Lib.hid (V10.out.below hb45 V10.out.lt)
      have U11 := Lib.hid (V11.out.below hb45 V11.out.lt)
      have US := Lib.hid (VS.out.keep fun g hg => hb45.block g (VS.out.lt g hg))
      have UM := Lib.hid (VM.out.hold (Hold.below hb45))
      have UC := Lib.hid (VC.out.hold (Hold.below hb45))
      have UBW := Lib.hid (VBW.out.trans (hb45.mono VBW.out.size))
      have UB : Hid (Row w5 b12 47 #[.pointer (some ⟨b, 0, none⟩)]) := Lib.hid (by rw [HW5.out, ← hs4]; exact Row.made w4 _ _)
      have h45 : w4.heap.size ≤ w5.heap.size := hb45.size
      have hs5 : b12 < w5.heap.size := UB.out.lt
      clear hb45 HW5 V5 V6 V9 V10 V11 VS VM VC VBW
      have HT1 := Lib.hid (alltel_i (fun j => P0 j ∨ j = b12) b12 (.pointer (some ⟨b, 0, none⟩)) pm tr w5 (fun j hj => hj.elim (UC.out j) (fun e => by subst e; exact ⟨_, _, UB.out⟩)) (.inr rfl) UB.out (.inl ⟨b, rfl, .inl UM.out.1, UM.out.2.1⟩) (UM.out.2.2.more (fun _ => .inl)) 59)
      obtain ⟨PP, hPP⟩ : ∃ PP : Own, PP = fun j => ((j = w.heap.size ∨ j = w.heap.size + 1 ∨ j = b9 ∨ j = b11) ∨ ob = some j) ∨ P0 j := ⟨_, rfl⟩
      have HPP := Lib.hid (fun j => show PP j ↔ (((j = w.heap.size ∨ j = w.heap.size + 1 ∨ j = b9 ∨ j = b11) ∨ ob = some j) ∨ P0 j) by rw [hPP])
      clear hPP
      have HCP : Hid (Cells PP w5) := Lib.hid (fun j hj => by
        rcases (HPP.out j).1 hj with ((e | e | e | e) | e) | e
        · subst e; exact ⟨_, _, U5.out⟩
        · subst e; exact ⟨_, _, U6.out⟩
        · subst e; exact ⟨_, _, U9.out⟩
        · subst e; exact ⟨_, _, U11.out⟩
        · have h := US.out
          rw [e] at h
          obtain ⟨c, hr⟩ := seg_row h
          exact ⟨_, _, hr⟩
        · exact UC.out j e)
      have hlenV : w.heap.size ≤ w5.heap.size := UBW.out.size
      have HDl : Hid (∀ D ∈ ([] : List Nat), D < w5.heap.size) := Lib.hid (fun D h => by
        cases h)
      have HPB : Hid (¬ PP b10) := Lib.hid (fun h => by
        rcases (HPP.out b10).1 h with ((e | e | e | e) | e) | e
        · omega
        · omega
        · omega
        · omega
        · have := hob.out _ e; omega
        · have := hP0.out _ e; omega)
      have HI0 : Hid (Inv w w5 b10 PP [] (fun _ => False) #[.int .i64 0] w5) := Lib.hid ⟨U10.out, id, ⟨Hold.refl _ _, fun _ _ e => e⟩, UBW.out, fun _ e => e.elim, fun D h => by
        cases h⟩
      obtain ⟨I, hI⟩ : ∃ I : Own → List (Int × Int) → World → Prop, I = fun O pre Y => Inv w w5 b10 PP [] O #[.int .i64 pre.length] Y := ⟨_, rfl⟩
      have HIE := Lib.hid (fun O pre Y => show I O pre Y ↔ Inv w w5 b10 PP [] O #[.int .i64 pre.length] Y by rw [hI])
      have HSI : Hid (Stb w5.heap.size I) := Lib.hid (by
        rw [hI]; exact inv_stb b10 (fun pre : List (Int × Int) => #[.int .i64 pre.length]) HCP.out HDl.out hlenV)
      have HI1 : Hid (I (fun _ => False) [] w5) := Lib.hid (by rw [hI]; exact HI0.out)
      clear hI HI0
      refine (wpIn_wide (n := 60)).1 ?_
      refine rangeTel_all (n := 60) (d := 0) hro (by omega) (gf := 33) (lb := #[.pointer (some ⟨b12, 0, none⟩)]) rfl trivial (enters_of Try.func33 (by kernel_rfl) rfl) HT1.out (fun _ => rfl) I HSI.out HI1.out ?round1 ?done1
      case round1 =>
        intro l O pre x X0 hl hI hnx hsz
        rw [putI]
        simp only [List.setIfInBounds_toArray, List.set_cons_succ, List.set_cons_zero]
        gi_wp2
        refine ⟨(KeepsOthers.refl _).from _, Kq.refl _ _ _ _, fun o o' ho hlo => ?_⟩
        have HIZ := Lib.hid ((HIE.out _ _ _).1 (HSI.out.put o' hI hl hlo ho))
        have hs1 : w5.heap.size + 2 ≤ (X0.putObj l o').heap.size := by simpa using hsz
        clear hI hlo hsz ho
        generalize X0.putObj l o' = Z at HIZ hs1 ⊢
        clear o o'
        obtain ⟨x1, x2⟩ := x
        obtain ⟨hlt, ex⟩ := nxt_at hnx
        obtain ⟨np, hnp⟩ : ∃ np, pre.length = np := ⟨_, rfl⟩
        simp only [hnp, HTL.out] at hlt ex
        have hmem : (x1, x2) ∈ L := by rw [← ex]; exact List.getElem_mem _
        have hget : get x1 L = some x2 := get_mem HLU.out hmem
        have hki := HIZ.out.keep
        have hml : MLI Z b L := by
          have h := (UM.out.more (P' := PP) (fun j hj => (HPP.out _).2 (.inr hj))).ml (by rw [HTL.out]; exact HUP.out) hki.1
          rwa [HTL.out] at h
        have HG := Lib.hid (mget_i b x1 L Z hml)
        rw [hget] at HG
        have hKs : Ks.length = N := HKN.out
        have hnN : np < N := by have := HN.out; omega
        have hKx : Ks[np]'(by omega) = x1 := by
          have h := congrArg Prod.fst ex
          have e : Ks[np]'(by omega) = (L[np]'hlt).1 := by
            have h2 := HKS.out
            subst h2
            simp
          rw [e]; exact h
        have hseg := hki.1.seg (fun g e => (HPP.out _).2 (.inl (.inr e))) US.out
        obtain ⟨g, o, cap, ev, _, _, _, hcl, _⟩ := hseg.shape (by omega)
        injection ev with ev1 ev2 ev3
        have kc : Z.cell? ⟨g, o + np, none⟩ = some (.int .i64 x1) := hcl np _ (by simp [valsI, hKs, hnN, hKx])
        have z9 : Z.cell? ⟨b9, 0, none⟩ = some (.slice A9 N c9) := ((hki.1.row ((HPP.out _).2 (.inl (.inl (.inr (.inr (.inl rfl)))))) U9.out).cell 0).trans rfl
        have z10 : Z.cell? ⟨b10, 0, none⟩ = some (.int .i64 np) := by rw [← hnp]; exact (HIZ.out.row.cell 0).trans rfl
        have z10f : Z.frozen? ⟨b10, 0, none⟩ = false := HIZ.out.row.free 0
        have HNP := Lib.hid hnp
        have hw1 : IntKind.i64.wrap ((np : Int) + 1) = (np : Int) + 1 := by rw [IntKind.wrap_i64]; omega
        have hni2 : ¬ (N : Int) ≤ (np : Int) := by omega
        have hni3 : (np : Int) < (N : Int) := by omega
        clear hki hml hmem hget hseg hcl hKs hKx ev2 ev3 hnp hlt ex hnx
        subst ev1
        dsimp only
        gi_wp2_with fail
        refine (CallsIn.inRound l (callsIn_wide.2 HG.out)).mono ?_
        rintro e Z2 ⟨rfl, nq, hZ2⟩
        have y9 : Z2.cell? ⟨b9, 0, none⟩ = some (.slice (some ⟨g, o, none⟩) N c9) := by rw [hZ2]; exact z9
        have y10 : Z2.cell? ⟨b10, 0, none⟩ = some (.int .i64 np) := by rw [hZ2]; exact z10
        have y10f : Z2.frozen? ⟨b10, 0, none⟩ = false := by rw [hZ2]; exact z10f
        have yc : Z2.cell? ⟨g, o + np, none⟩ = some (.int .i64 x1) := by rw [hZ2]; exact kc
        have hbz : Below Z.heap.size Z Z2 := by rw [hZ2]; exact ⟨rfl, rfl, rfl, Nat.le_refl _, fun _ _ => rfl⟩
        have HBZ := Lib.hid hbz
        clear hbz hZ2 z9 z10 z10f kc HG
        gi_wp2
        have HI2 := Lib.hid (HSI.out.grow ((HIE.out _ _ _).2 HIZ.out) HBZ.out)
        have hinv := (HIE.out _ _ _).1 HI2.out
        have hk2 := (kq_below (P := fun j => P0 j ∨ j = b12) (O := O) (B := w5.heap.size + 2) HBZ.out).trans (kq_set (P := fun j => P0 j ∨ j = b12) (O := O) (B := w5.heap.size + 2) Z2 (b := b10) (fun e => e.elim hinv.nb (fun e => e.elim (fun e => by have := hP0.out b10 e; omega) (fun e => by omega))) 0 (.int .i64 ((np : Int) + 1)))
        refine ⟨⟨hk2.1.size, fun k' o1 hk3 ho1 => ((keeps_below (B := w5.heap.size) HBZ.out).trans ((KeepsOthers.setCell _ _ _).from _)).same k' o1 hk3 ho1⟩, hk2, (HIE.out _ _ _).2 ?_⟩
        have hst := hinv.store (.int .i64 ((np : Int) + 1)) (by omega) HPB.out
        have e : ((pre ++ [(x1, x2)]).length : Int) = (np : Int) + 1 := by
          rw [List.length_append, HNP.out]; rfl
        rw [e]
        exact hst
      case done1 =>
        intro D1 O1 xs w6 hD hO hS hI hK
        have hxl : xs.length = N := by have h : xs = tr.toL := hS; rw [h, HTL.out, HN.out]
        have hinv := (HIE.out _ _ _).1 hI
        rw [hxl] at hinv
        have HK1 := Lib.hid hK
        have hD1 : w5.heap.size ≤ D1 := hD
        have V5 := Lib.hid (hinv.keep.1.row ((HPP.out _).2 (.inl (.inl (.inl rfl)))) U5.out)
        have V6 := Lib.hid (hinv.keep.1.row ((HPP.out _).2 (.inl (.inl (.inr (.inl rfl))))) U6.out)
        have V9 := Lib.hid (hinv.keep.1.row ((HPP.out _).2 (.inl (.inl (.inr (.inr (.inl rfl)))))) U9.out)
        have V11 := Lib.hid (hinv.keep.1.row ((HPP.out _).2 (.inl (.inl (.inr (.inr (.inr rfl)))))) U11.out)
        have V10 := Lib.hid hinv.row
        have VS := Lib.hid (hinv.keep.1.seg (fun g e => (HPP.out _).2 (.inl (.inr e))) US.out)
        have h0 : Hold P0 w5 w6 := ⟨hinv.keep.1.1, fun j cs t hj hh => hinv.keep.1.2 j cs t ((HPP.out _).2 (.inr hj)) hh⟩
        have VM := Lib.hid (UM.out.hold h0)
        have VC := Lib.hid (UC.out.hold h0)
        have VBW := Lib.hid hinv.be
        have h56 : w5.heap.size ≤ w6.heap.size := h0.1
        clear hinv hI hS hK hO hD hxl U5 U6 U9 U10 U11 US UM UC UBW UB HIE HSI HI1 HCP HPP HPB HDl HT1 O1 h0 hlenV
        clear xs I PP
        dsimp only [Exit.inBlock, Exit.then]
        obtain ⟨F, hFe⟩ : ∃ F : Int, bits .and .i64 F0 31 = F := ⟨_, rfl⟩
        have HS0 : Hid (∃ m : Nat, m = pst Ks F 0 ∧ Row w6 b11 3 #[.int .i64 m] ∧ Turns w6 w6 (fun j => j = b11)) := Lib.hid ⟨0, rfl, V11.out, Turns.refl _ _⟩
        go_wp2_with fail
        go_loopw [16] (fun s16 wr => ∃ j : Nat, j ≤ N ∧ s16 = .int .i64 j ∧ Hid (∃ m : Nat, m = pst Ks F j ∧ Row wr b11 3 #[.int .i64 m] ∧ Turns w6 wr (fun j => j = b11))) (fun s16 _ => N - (intOf s16).toNat)
        case atStart => exact ⟨0, Nat.zero_le _, rfl, HS0⟩
        case round =>
          obtain ⟨j, hjN, rfl, hrel⟩ := hrel
          obtain ⟨m, hm, hr11, htu⟩ := hrel.out
          have x9 : wr.cell? ⟨b9, 0, none⟩ = some (.slice A9 N c9) := ((V9.out.turns htu (fun e => by omega)).cell 0).trans rfl
          have x11 : wr.cell? ⟨b11, 0, none⟩ = some (.int .i64 m) := (hr11.cell 0).trans rfl
          have x11f : wr.frozen? ⟨b11, 0, none⟩ = false := hr11.free 0
          have hmj : m ≤ j := by rw [hm]; exact pst_le _ _ _
          by_cases hlt : j < N
          · have hjz : (j : Int) < (N : Int) := by omega
            have hjw : IntKind.i64.wrap ((j : Int) + 1) = (j : Int) + 1 := by rw [IntKind.wrap_i64]; omega
            have hmw : IntKind.i64.wrap ((m : Int) + 1) = (m : Int) + 1 := by rw [IntKind.wrap_i64]; omega
            have hKn := HKN.out
            have hsg := VS.out.turns htu (fun g hg e => by have := hob.out g hg; omega)
            obtain ⟨g, o, cap, ev, _, _, _, hcl, _⟩ := hsg.shape (by omega)
            injection ev with ev1 ev2 ev3
            have hps := pst_succ Ks F j (by omega)
            obtain ⟨y, hy⟩ : ∃ y, Ks[j]'(by omega) = y := ⟨_, rfl⟩
            have kc : wr.cell? ⟨g, o + j, none⟩ = some (.int .i64 y) := hcl j _ (by simp [valsI, hKn, hlt, hy])
            rw [hy, ← hm] at hps
            have HPS := Lib.hid hps
            have HR11 := Lib.hid hr11
            have HTU := Lib.hid htu
            have HBF : Hid (∀ v, Turns w6 (wr.setCell ⟨b11, 0, none⟩ v) (fun j => j = b11)) := Lib.hid (fun v => htu.put b11 0 v (fun _ => rfl))
            clear hrel hr11 htu hKn hsg hcl ev2 ev3 hps hy hm hmj
            subst ev1
            by_cases hyF : y < F
            · rw [if_pos hyF] at HPS
              go_wp2
              go_roundw
              case rel => exact ⟨j + 1, by omega, by go_num, Lib.hid ⟨m + 1, HPS.out.symm, by simpa using HR11.out.put 0 (.int .i64 ((m : Int) + 1)), HBF.out _⟩⟩
              case measure => simp [intOf]; omega
            · rw [if_neg hyF] at HPS
              go_wp2
              go_roundw
              case rel => exact ⟨j + 1, by omega, by go_num, Lib.hid ⟨m, HPS.out.symm, HR11.out, HTU.out⟩⟩
              case measure => simp [intOf]; omega
          · obtain rfl : j = N := by omega
            have hpa : m = (L.filter fun x => decide (lt x.1 F)).length := by
              have h := pst_all L F
              rw [HKS.out, HKN.out] at h
              rw [hm, h]
            have hsp := congrArg List.length (up_split F HLU.out)
            rw [List.length_append, ← hpa, HN.out] at hsp
            obtain ⟨R, hR⟩ : ∃ R, L.filter (fun x => decide (¬ lt x.1 F)) = R := ⟨_, rfl⟩
            have HSA : Hid (∀ (q : Nat) (h : q < R.length), ∃ h1 : m + q < Ks.length, Ks[m + q] = R[q].1) := Lib.hid (fun q h => by
              have h2 := split_at HLU.out F q (by rw [hR]; exact h)
              rw [← hpa] at h2
              obtain ⟨h3, h4⟩ := h2
              have hk := HKS.out
              subst hk
              refine ⟨h3, ?_⟩
              rw [h4]
              subst hR
              rfl)
            have HFR : Hid (frm F tr = R) := Lib.hid (by rw [frm_toL F tr (by rw [HTL.out]; exact HUP.out), HTL.out]; exact hR)
            rw [hR] at hsp
            obtain ⟨lr, hlr⟩ : ∃ lr, R.length = lr := ⟨_, rfl⟩
            rw [hlr] at hsp
            have HLR := Lib.hid hlr
            have nb : ∀ x, x < b11 → ¬ (fun j => j = b11) x := fun x hx e => by have e : x = b11 := e; omega
            have T5 := Lib.hid (V5.out.turns htu (nb _ (by omega)))
            have T6 := Lib.hid (V6.out.turns htu (nb _ (by omega)))
            have T9 := Lib.hid (V9.out.turns htu (nb _ (by omega)))
            have T10 := Lib.hid (V10.out.turns htu (nb _ (by omega)))
            have T11 := Lib.hid hr11
            have TS := Lib.hid (VS.out.turns htu (fun g hg => nb _ (by have := hob.out g hg; omega)))
            have hh0 : Hold P0 w6 wr := ⟨htu.size, fun x cs t hx hh => (htu.block x (Array.getElem?_eq_some_iff.1 hh).1 (nb _ (by have := hP0.out x hx; omega))).trans hh⟩
            have TM := Lib.hid (VM.out.hold hh0)
            have TC := Lib.hid (VC.out.hold hh0)
            have TBW := Lib.hid (htu.below VBW.out VBW.out.size (fun x hx e => by omega))
            have hD16 : D1 < w6.heap.size := (Array.getElem?_eq_some_iff.1 HK1.out).1
            have TK1 : Hid (wr.heap[D1]? = some (.deferred (some []))) := Lib.hid ((htu.block D1 hD16 (fun e => by have e : D1 = b11 := e; omega)).trans HK1.out)
            have h6r : w6.heap.size ≤ wr.heap.size := htu.size
            clear hpa hR hlr nb hh0 hrel hr11 htu V5 V6 V9 V10 V11 VS VM VC VBW HK1 HS0 hm hlt x11 x11f
            obtain ⟨w7, hw7⟩ : ∃ x, x = wr := ⟨_, rfl⟩
            subst hw7
            go_upto_region 23 with fail
            clear x9
            obtain ⟨b17, hb17⟩ : ∃ x, w7.heap.size = x := ⟨_, rfl⟩
            obtain ⟨bm, hbm⟩ : ∃ x, b17 + 1 = x := ⟨_, rfl⟩
            obtain ⟨bk, hbk⟩ : ∃ x, bm + 1 = x := ⟨_, rfl⟩
            rw [hb17]
            obtain ⟨w7b, hw7b⟩ : ∃ x, w7.alloc (.cells #[.int .i64 0] 3) = x := ⟨_, rfl⟩
            have hz7 : w7b.heap.size = bm := by rw [← hw7b]; simp; omega
            have r17 : Row w7b b17 3 #[.int .i64 0] := by rw [← hw7b, ← hb17]; exact Row.made w7 _ _
            have hb77 : Below w7.heap.size w7 w7b := by rw [← hw7b]; exact (Below.refl _ w7).alloc (Nat.le_refl _) _
            rw [hw7b]
            have HFM := Lib.hid (frommk_i (some ⟨b, 0, none⟩) F w7b)
            rw [hz7, hbk] at HFM
            clear hw7b
            go_wp2_with fail
            refine HFM.out.mono ?_
            rintro e w8 ⟨rfl, hw8⟩
            have HW8 := Lib.hid hw8
            clear hw8
            go_wp2_with fail
            have hb78 : Below w7.heap.size w7 w8 := by rw [HW8.out]; exact (hb77.alloc hb77.size _).alloc (by have := hb77.size; simp; omega) _
            have U5 := Lib.hid (T5.out.below hb78 T5.out.lt)
            have U6 := Lib.hid (T6.out.below hb78 T6.out.lt)
            have U9 := Lib.hid (T9.out.below hb78 T9.out.lt)
            have U10 := Lib.hid (T10.out.below hb78 T10.out.lt)
            have U11 := Lib.hid (T11.out.below hb78 T11.out.lt)
            have U17 : Hid (Row w8 b17 3 #[.int .i64 0]) := Lib.hid (by rw [HW8.out]; exact (r17.alloc _).alloc _)
            have US := Lib.hid (TS.out.keep fun g hg => hb78.block g (TS.out.lt g hg))
            have UM := Lib.hid (TM.out.hold (Hold.below hb78))
            have UC := Lib.hid (TC.out.hold (Hold.below hb78))
            have UBW := Lib.hid (TBW.out.trans (hb78.mono TBW.out.size))
            have UK1 : Hid (w8.heap[D1]? = some (.deferred (some []))) := Lib.hid ((hb78.block D1 (Array.getElem?_eq_some_iff.1 TK1.out).1).trans TK1.out)
            have UB1 : Hid (Row w8 bm 47 #[.pointer (some ⟨b, 0, none⟩)]) := Lib.hid (by rw [HW8.out, ← hz7]; exact (Row.made w7b _ _).alloc _)
            have UB2 : Hid (Row w8 bk 3 #[.int .i64 F]) := Lib.hid (by
              rw [HW8.out, ← hbk, ← hz7]; have h := Row.made (w7b.alloc (.cells #[.pointer (some ⟨b, 0, none⟩)] 47)) 3 #[.int .i64 F]
              rwa [World.size_alloc] at h)
            have h78 : w7.heap.size ≤ w8.heap.size := hb78.size
            have hkz : bk < w8.heap.size := UB2.out.lt
            clear hb78 hb77 HW8 T5 T6 T9 T10 T11 TS TM TC TBW TK1 r17 HFM
            have HT2 := Lib.hid (fromtel_i (fun j => P0 j ∨ j = bm ∨ j = bk) bm bk F (.pointer (some ⟨b, 0, none⟩)) pm tr w8 (fun j hj => hj.elim (UC.out j) (fun e => e.elim (fun e => by subst e; exact ⟨_, _, UB1.out⟩) (fun e => by subst e; exact ⟨_, _, UB2.out⟩))) (.inr (.inl rfl)) (.inr (.inr rfl)) UB1.out UB2.out (.inl ⟨b, rfl, .inl UM.out.1, UM.out.2.1⟩) (UM.out.2.2.more (fun _ => .inl)) 59)
            rw [HFR.out] at HT2
            obtain ⟨PP, hPP⟩ : ∃ PP : Own, PP = fun j => ((j = w.heap.size ∨ j = w.heap.size + 1 ∨ j = b9 ∨ j = b10 ∨ j = b11) ∨ ob = some j) ∨ P0 j := ⟨_, rfl⟩
            have HPP := Lib.hid (fun j => show PP j ↔ (((j = w.heap.size ∨ j = w.heap.size + 1 ∨ j = b9 ∨ j = b10 ∨ j = b11) ∨ ob = some j) ∨ P0 j) by rw [hPP])
            clear hPP
            have HCP : Hid (Cells PP w8) := Lib.hid (fun j hj => by
              rcases (HPP.out j).1 hj with ((e | e | e | e | e) | e) | e
              · subst e; exact ⟨_, _, U5.out⟩
              · subst e; exact ⟨_, _, U6.out⟩
              · subst e; exact ⟨_, _, U9.out⟩
              · subst e; exact ⟨_, _, U10.out⟩
              · subst e; exact ⟨_, _, U11.out⟩
              · have h := US.out
                rw [e] at h
                obtain ⟨c, hr⟩ := seg_row h
                exact ⟨_, _, hr⟩
              · exact UC.out j e)
            have hlenV : w.heap.size ≤ w8.heap.size := UBW.out.size
            have HDl : Hid (∀ D ∈ ([D1] : List Nat), D < w8.heap.size) := Lib.hid (fun D h => by
              simp at h
              rcases h with h
              · subst h; exact (Array.getElem?_eq_some_iff.1 UK1.out).1)
            have HPB : Hid (¬ PP b17) := Lib.hid (fun h => by
              rcases (HPP.out b17).1 h with ((e | e | e | e | e) | e) | e
              · omega
              · omega
              · omega
              · omega
              · omega
              · have := hob.out _ e; omega
              · have := hP0.out _ e; omega)
            have HI0 : Hid (Inv w w8 b17 PP [D1] (fun _ => False) #[.int .i64 0] w8) := Lib.hid ⟨U17.out, id, ⟨Hold.refl _ _, fun _ _ e => e⟩, UBW.out, fun _ e => e.elim, fun D h => by
              simp at h
              rcases h with h
              · subst h; exact ⟨UK1.out, id⟩⟩
            obtain ⟨q, hq, hq15⟩ : ∃ q : Nat, bits .and .i64 k 15 = (q : Int) ∧ q ≤ 15 := ⟨(k % 16).toNat, by rw [and15]; omega, by omega⟩
            obtain ⟨I, hI⟩ : ∃ I : Own → List (Int × Int) → World → Prop, I = fun O pre Y => pre.length ≤ q ∧ Inv w w8 b17 PP [D1] O #[.int .i64 pre.length] Y := ⟨_, rfl⟩
            obtain ⟨Ix, hIx⟩ : ∃ I : Own → List (Int × Int) → World → Prop, I = fun O pre Y => pre.length = q + 1 ∧ Inv w w8 b17 PP [D1] O #[.int .i64 pre.length] Y := ⟨_, rfl⟩
            have HIE := Lib.hid (fun O pre Y => show I O pre Y ↔ (pre.length ≤ q ∧ Inv w w8 b17 PP [D1] O #[.int .i64 pre.length] Y) by rw [hI])
            have HXE := Lib.hid (fun O pre Y => show Ix O pre Y ↔ (pre.length = q + 1 ∧ Inv w w8 b17 PP [D1] O #[.int .i64 pre.length] Y) by rw [hIx])
            have HSI : Hid (Stb w8.heap.size I) := Lib.hid (by
              rw [hI]; exact inv_pure b17 (fun pre : List (Int × Int) => #[.int .i64 pre.length]) HCP.out HDl.out hlenV (fun pre => pre.length ≤ q))
            have HSX : Hid (Stb w8.heap.size Ix) := Lib.hid (by
              rw [hIx]; exact inv_pure b17 (fun pre : List (Int × Int) => #[.int .i64 pre.length]) HCP.out HDl.out hlenV (fun pre => pre.length = q + 1))
            have HI1 : Hid (I (fun _ => False) [] w8) := Lib.hid (by rw [hI]; exact ⟨Nat.zero_le _, HI0.out⟩)
            clear hI hIx HI0
            refine (wpIn_wide (n := 60)).1 ?_
            refine wpIn_rangeTel_br (n := 60) (d := 0) hro (by omega) (gf := 35) (lb := #[.pointer (some ⟨bm, 0, none⟩), .pointer (some ⟨bk, 0, none⟩)]) rfl trivial (enters_of Try.func35 (by kernel_rfl) rfl) HT2.out (Hold.refl _ _) (fun _ => rfl) 6 (fun a W h => h) I Ix HSI.out HSX.out HI1.out ?round2 ?rest2
            case round2 =>
              intro l O pre x X0 hl hI hnx hsz
              rw [putI]
              simp only [List.setIfInBounds_toArray, List.set_cons_succ, List.set_cons_zero]
              gi_wp2
              refine ⟨(KeepsOthers.refl _).from _, Kq.refl _ _ _ _, fun o o' ho hlo => ?_⟩
              have HIZ := Lib.hid ((HIE.out _ _ _).1 (HSI.out.put o' hI hl hlo ho))
              have hs1 : w8.heap.size + 2 ≤ (X0.putObj l o').heap.size := by simpa using hsz
              clear hI hlo hsz ho
              generalize X0.putObj l o' = Z at HIZ hs1 ⊢
              clear o o'
              obtain ⟨x1, x2⟩ := x
              obtain ⟨hlt, ex⟩ := nxt_at hnx
              obtain ⟨np, hnp⟩ : ∃ np, pre.length = np := ⟨_, rfl⟩
              simp only [hnp] at hlt ex
              obtain ⟨hmn, hKx⟩ := HSA.out np hlt
              rw [ex] at hKx
              have hKx2 : Ks[m + np] = x1 := hKx
              clear hKx
              have hki := HIZ.out.2.keep
              have hKn := HKN.out
              have hseg := hki.1.seg (fun g e => (HPP.out _).2 (.inl (.inr e))) US.out
              obtain ⟨g, o, cap, ev, _, _, _, hcl, _⟩ := hseg.shape (by omega)
              injection ev with ev1 ev2 ev3
              have kc : Z.cell? ⟨g, o + (m + np), none⟩ = some (.int .i64 x1) := hcl (m + np) _ (by
                have h9 : (valsI Ks)[m + np]? = some (.int .i64 (Ks[m + np]'hmn)) := by simp [valsI, hmn]
                rw [h9, hKx2])
              have z9 : Z.cell? ⟨b9, 0, none⟩ = some (.slice A9 j c9) := ((hki.1.row ((HPP.out _).2 (.inl (.inl (.inr (.inr (.inl rfl)))))) U9.out).cell 0).trans rfl
              have z5 : Z.cell? ⟨w.heap.size, 0, none⟩ = some (.int .i64 k) := ((hki.1.row ((HPP.out _).2 (.inl (.inl (.inl rfl)))) U5.out).cell 0).trans rfl
              have z11 : Z.cell? ⟨b11, 0, none⟩ = some (.int .i64 m) := ((hki.1.row ((HPP.out _).2 (.inl (.inl (.inr (.inr (.inr (.inr rfl))))))) U11.out).cell 0).trans rfl
              have z17 : Z.cell? ⟨b17, 0, none⟩ = some (.int .i64 np) := by rw [← hnp]; exact (HIZ.out.2.row.cell 0).trans rfl
              have z17f : Z.frozen? ⟨b17, 0, none⟩ = false := HIZ.out.2.row.free 0
              have hqn : np ≤ q := by rw [← hnp]; exact HIZ.out.1
              have HNP := Lib.hid hnp
              have hw1 : IntKind.i64.wrap ((np : Int) + 1) = (np : Int) + 1 := by rw [IntKind.wrap_i64]; omega
              have hw2 : IntKind.i64.wrap ((m : Int) + (np : Int)) = (m : Int) + (np : Int) := by rw [IntKind.wrap_i64]; omega
              have hnj : m + np < j := by omega
              have hni2 : ¬ (j : Int) ≤ (m : Int) + (np : Int) := by omega
              have hni3 : (m : Int) + (np : Int) < (j : Int) := by omega
              clear hki hcl hseg ev2 ev3 hnp hlt ex hnx hKx2 hmn hKn
              subst ev1
              dsimp only
              by_cases hbr : np = q
              · subst hbr
                have hbz : (np : Int) < (np : Int) + 1 := by omega
                gi_wp2
                have hinv := HIZ.out.2
                have hk2 := kq_set (P := fun j => P0 j ∨ j = bm ∨ j = bk) (O := O) (B := w8.heap.size + 2) Z (b := b17) (fun e => e.elim hinv.nb (fun e => e.elim (fun e => by have := hP0.out b17 e; omega) (fun e => by omega))) 0 (.int .i64 ((np : Int) + 1))
                refine ⟨(KeepsOthers.setCell _ _ _).from _, hk2, rfl, (HXE.out _ _ _).2 ⟨by rw [List.length_append, HNP.out]; rfl, ?_⟩⟩
                have hst := hinv.store (.int .i64 ((np : Int) + 1)) (by omega) HPB.out
                have e : ((pre ++ [(x1, x2)]).length : Int) = (np : Int) + 1 := by
                  rw [List.length_append, HNP.out]; rfl
                rw [e]
                exact hst
              · have hbz : ¬ (q : Int) < (np : Int) + 1 := by omega
                gi_wp2
                have hinv := HIZ.out.2
                have hk2 := kq_set (P := fun j => P0 j ∨ j = bm ∨ j = bk) (O := O) (B := w8.heap.size + 2) Z (b := b17) (fun e => e.elim hinv.nb (fun e => e.elim (fun e => by have := hP0.out b17 e; omega) (fun e => by omega))) 0 (.int .i64 ((np : Int) + 1))
                refine ⟨(KeepsOthers.setCell _ _ _).from _, hk2, (HIE.out _ _ _).2 ⟨by rw [List.length_append, HNP.out]; simp; omega, ?_⟩⟩
                have hst := hinv.store (.int .i64 ((np : Int) + 1)) (by omega) HPB.out
                have e : ((pre ++ [(x1, x2)]).length : Int) = (np : Int) + 1 := by
                  rw [List.length_append, HNP.out]; rfl
                rw [e]
                exact hst
            intro D2 O2 xs w9 hD hO hS hK
            have hfin : ∃ sm : Nat, (sm = if lr < q + 1 then lr else q + 1) ∧ Inv w w8 b17 PP [D1] O2 #[.int .i64 sm] w9 := by
              rcases hS with ⟨hS, hI⟩ | ⟨hS, hI⟩
              · have e : xs = R := hS
                obtain ⟨h1, h2⟩ := (HIE.out _ _ _).1 hI
                rw [e, HLR.out] at h1 h2
                exact ⟨lr, by rw [if_pos (by omega)], h2⟩
              · obtain ⟨h1, h2⟩ := (HXE.out _ _ _).1 hI
                have h3 : xs.length ≤ lr := by rw [← HLR.out]; exact List.IsPrefix.length_le (show xs <+: R from hS)
                rw [h1] at h2
                exact ⟨q + 1, by rw [if_neg (by omega)], h2⟩
            obtain ⟨sm, hsm, hinv⟩ := hfin
            have HK2 := Lib.hid hK
            have hD2 : w8.heap.size ≤ D2 := hD
            have T5 := Lib.hid (hinv.keep.1.row ((HPP.out _).2 (.inl (.inl (.inl rfl)))) U5.out)
            have T6 := Lib.hid (hinv.keep.1.row ((HPP.out _).2 (.inl (.inl (.inr (.inl rfl))))) U6.out)
            have T9 := Lib.hid (hinv.keep.1.row ((HPP.out _).2 (.inl (.inl (.inr (.inr (.inl rfl)))))) U9.out)
            have T10 := Lib.hid (hinv.keep.1.row ((HPP.out _).2 (.inl (.inl (.inr (.inr (.inr (.inl rfl))))))) U10.out)
            have T11 := Lib.hid (hinv.keep.1.row ((HPP.out _).2 (.inl (.inl (.inr (.inr (.inr (.inr rfl))))))) U11.out)
            have T17 := Lib.hid hinv.row
            have TS := Lib.hid (hinv.keep.1.seg (fun g e => (HPP.out _).2 (.inl (.inr e))) US.out)
            have h0 : Hold P0 w8 w9 := ⟨hinv.keep.1.1, fun j cs t hj hh => hinv.keep.1.2 j cs t ((HPP.out _).2 (.inr hj)) hh⟩
            have TC := Lib.hid (UC.out.hold h0)
            have TK1 := Lib.hid (hinv.dfs D1 (by simp)).1
            have TK2 := HK2
            have TBW := Lib.hid hinv.be
            have h89 : w8.heap.size ≤ w9.heap.size := h0.1
            have hD1w : D1 < w8.heap.size := (Array.getElem?_eq_some_iff.1 UK1.out).1
            have hD12 : D1 ≠ D2 := by omega
            clear hinv hS hK hO hD U5 U6 U9 U10 U11 U17 US UM UC UBW UB1 UB2 UK1 HIE HXE HSI HSX HI1 HCP HPP HPB HDl HT2 O2 h0 hlenV HK2
            clear xs I Ix PP
            dsimp only [Exit.inBlock, Exit.then]
            have HNT : Hid (Calls Try.prog 16 #[.pointer none] w9 fun e w' => e = .returned (.func (.func 33) #[] #[.pointer (some ⟨w9.heap.size, 0, none⟩)]) ∧ w' = w9.alloc (.cells #[.pointer none] 47)) := Lib.hid (allmk_i none w9)
            obtain ⟨bn, hbn⟩ : ∃ x, w9.heap.size = x := ⟨_, rfl⟩
            rw [hbn] at HNT
            go_wp2_with fail
            refine HNT.out.mono ?_
            rintro e wa ⟨rfl, hwa⟩
            have HWA := Lib.hid hwa
            have hb9a : Below w9.heap.size w9 wa := by rw [hwa]; exact (Below.refl _ w9).alloc (Nat.le_refl _) _
            clear hwa
            go_wp2_with fail
            have hbv := hb9a
            clear hb9a
            have U5 := Lib.hid (T5.out.below hbv T5.out.lt)
            have U6 := Lib.hid (T6.out.below hbv T6.out.lt)
            have U9 := Lib.hid (T9.out.below hbv T9.out.lt)
            have U10 := Lib.hid (T10.out.below hbv T10.out.lt)
            have U11 := Lib.hid (T11.out.below hbv T11.out.lt)
            have U17 := Lib.hid (T17.out.below hbv T17.out.lt)
            have US := Lib.hid (TS.out.keep fun g hg => hbv.block g (TS.out.lt g hg))
            have UC := Lib.hid (TC.out.hold (Hold.below hbv))
            have UBW := Lib.hid (TBW.out.trans (hbv.mono TBW.out.size))
            have UK1 : Hid (wa.heap[D1]? = some (.deferred (some []))) := Lib.hid ((hbv.block D1 (Array.getElem?_eq_some_iff.1 TK1.out).1).trans TK1.out)
            have UK2 : Hid (wa.heap[D2]? = some (.deferred (some []))) := Lib.hid ((hbv.block D2 (Array.getElem?_eq_some_iff.1 TK2.out).1).trans TK2.out)
            have hv3 : w9.heap.size ≤ wa.heap.size := hbv.size
            have UBN : Hid (Row wa bn 47 #[.pointer none]) := Lib.hid (by rw [HWA.out, ← hbn]; exact Row.made w9 _ _)
            have hbnl : bn < wa.heap.size := UBN.out.lt
            clear HWA
            clear hbv T5 T6 T9 T10 T11 T17 TS TC TBW TK1 TK2
            have HT3 := Lib.hid (alltel_i (fun j => j = bn) bn (.pointer none) (.pointer none) .leaf wa (fun j e => by subst e; exact ⟨_, _, UBN.out⟩) rfl UBN.out (.inr ⟨rfl, rfl⟩) rfl 59)
            obtain ⟨PP, hPP⟩ : ∃ PP : Own, PP = fun j => ((j = w.heap.size ∨ j = w.heap.size + 1 ∨ j = b9 ∨ j = b10 ∨ j = b11) ∨ ob = some j) ∨ P0 j := ⟨_, rfl⟩
            have HPP := Lib.hid (fun j => show PP j ↔ (((j = w.heap.size ∨ j = w.heap.size + 1 ∨ j = b9 ∨ j = b10 ∨ j = b11) ∨ ob = some j) ∨ P0 j) by rw [hPP])
            clear hPP
            have HCP : Hid (Cells PP wa) := Lib.hid (fun j hj => by
              rcases (HPP.out j).1 hj with ((e | e | e | e | e) | e) | e
              · subst e; exact ⟨_, _, U5.out⟩
              · subst e; exact ⟨_, _, U6.out⟩
              · subst e; exact ⟨_, _, U9.out⟩
              · subst e; exact ⟨_, _, U10.out⟩
              · subst e; exact ⟨_, _, U11.out⟩
              · have h := US.out
                rw [e] at h
                obtain ⟨c, hr⟩ := seg_row h
                exact ⟨_, _, hr⟩
              · exact UC.out j e)
            have hlenV : w.heap.size ≤ wa.heap.size := UBW.out.size
            have HDl : Hid (∀ D ∈ ([D1, D2] : List Nat), D < wa.heap.size) := Lib.hid (fun D h => by
              simp at h
              rcases h with h | h
              · subst h; exact (Array.getElem?_eq_some_iff.1 UK1.out).1
              · subst h; exact (Array.getElem?_eq_some_iff.1 UK2.out).1)
            have HPB : Hid (¬ PP b17) := Lib.hid (fun h => by
              rcases (HPP.out b17).1 h with ((e | e | e | e | e) | e) | e
              · omega
              · omega
              · omega
              · omega
              · omega
              · have := hob.out _ e; omega
              · have := hP0.out _ e; omega)
            have HI0 : Hid (Inv w wa b17 PP [D1, D2] (fun _ => False) #[.int .i64 sm] wa) := Lib.hid ⟨U17.out, id, ⟨Hold.refl _ _, fun _ _ e => e⟩, UBW.out, fun _ e => e.elim, fun D h => by
              simp at h
              rcases h with h | h
              · subst h; exact ⟨UK1.out, id⟩
              · subst h; exact ⟨UK2.out, id⟩⟩
            obtain ⟨I, hI⟩ : ∃ I : Own → List (Int × Int) → World → Prop, I = fun O pre Y => Inv w wa b17 PP [D1, D2] O #[.int .i64 sm] Y := ⟨_, rfl⟩
            have HIE := Lib.hid (fun O pre Y => show I O pre Y ↔ Inv w wa b17 PP [D1, D2] O #[.int .i64 sm] Y by rw [hI])
            have HSI : Hid (Stb wa.heap.size I) := Lib.hid (by
              rw [hI]; exact inv_stb b17 (fun pre : List (Int × Int) => #[.int .i64 sm]) HCP.out HDl.out hlenV)
            have HI1 : Hid (I (fun _ => False) [] wa) := Lib.hid (by rw [hI]; exact HI0.out)
            clear hI HI0
            refine (wpIn_wide (n := 60)).1 ?_
            refine rangeTel_all (n := 60) (d := 0) hro (by omega) (gf := 33) (lb := #[.pointer (some ⟨bn, 0, none⟩)]) rfl trivial (enters_of Try.func33 (by kernel_rfl) rfl) HT3.out (fun _ => rfl) I HSI.out HI1.out ?round3 ?done3
            case round3 =>
              intro l O pre x X0 hl hI hnx hsz
              obtain ⟨hlt, _⟩ := nxt_at hnx
              exact absurd hlt (Nat.not_lt_zero _)
            intro D3 On xsn wb hD hO hS hI hK
            have hinv := (HIE.out _ _ _).1 hI
            have hh3 : wa.heap.size ≤ D3 := hD
            have T5 := Lib.hid (hinv.keep.1.row ((HPP.out _).2 (.inl (.inl (.inl rfl)))) U5.out)
            have T6 := Lib.hid (hinv.keep.1.row ((HPP.out _).2 (.inl (.inl (.inr (.inl rfl))))) U6.out)
            have T9 := Lib.hid (hinv.keep.1.row ((HPP.out _).2 (.inl (.inl (.inr (.inr (.inl rfl)))))) U9.out)
            have T10 := Lib.hid (hinv.keep.1.row ((HPP.out _).2 (.inl (.inl (.inr (.inr (.inr (.inl rfl))))))) U10.out)
            have T11 := Lib.hid (hinv.keep.1.row ((HPP.out _).2 (.inl (.inl (.inr (.inr (.inr (.inr rfl))))))) U11.out)
            have T17 := Lib.hid hinv.row
            have TS := Lib.hid (hinv.keep.1.seg (fun g e => (HPP.out _).2 (.inl (.inr e))) US.out)
            have TC := Lib.hid (UC.out.hold (⟨hinv.keep.1.1, fun j cs t hj hh => hinv.keep.1.2 j cs t ((HPP.out _).2 (.inr hj)) hh⟩ : Hold P0 wa wb))
            have TK1 := Lib.hid (hinv.dfs D1 (by simp)).1
            have hdw30 : D1 < wa.heap.size := (Array.getElem?_eq_some_iff.1 UK1.out).1
            have TK2 := Lib.hid (hinv.dfs D2 (by simp)).1
            have hdw31 : D2 < wa.heap.size := (Array.getElem?_eq_some_iff.1 UK2.out).1
            have TK3 := Lib.hid hK
            have TBW := Lib.hid hinv.be
            have hx3 : wa.heap.size ≤ wb.heap.size := hinv.keep.1.1
            clear hinv hI hS hK hO hD U5 U6 U9 U10 U11 U17 US UC UBW UK1 UK2 HIE HSI HI1 HCP HPP HPB HDl HT3 On hlenV
            clear xsn I PP
            dsimp only [Exit.inBlock, Exit.then]
            obtain ⟨bo, hbo⟩ : ∃ x, wb.heap.size = x := ⟨_, rfl⟩
            have HNF := Lib.hid (frommk_i none 1 wb)
            rw [hbo] at HNF
            go_wp2_with fail
            refine HNF.out.mono ?_
            rintro e wc ⟨rfl, hwc⟩
            have HWC := Lib.hid hwc
            have hbv : Below wb.heap.size wb wc := by rw [hwc]; exact ((Below.refl _ wb).alloc (Nat.le_refl _) _).alloc (by simp) _
            clear hwc HNF
            go_wp2_with fail
            have U5 := Lib.hid (T5.out.below hbv T5.out.lt)
            have U6 := Lib.hid (T6.out.below hbv T6.out.lt)
            have U9 := Lib.hid (T9.out.below hbv T9.out.lt)
            have U10 := Lib.hid (T10.out.below hbv T10.out.lt)
            have U11 := Lib.hid (T11.out.below hbv T11.out.lt)
            have U17 := Lib.hid (T17.out.below hbv T17.out.lt)
            have US := Lib.hid (TS.out.keep fun g hg => hbv.block g (TS.out.lt g hg))
            have UC := Lib.hid (TC.out.hold (Hold.below hbv))
            have UBW := Lib.hid (TBW.out.trans (hbv.mono TBW.out.size))
            have UK1 : Hid (wc.heap[D1]? = some (.deferred (some []))) := Lib.hid ((hbv.block D1 (Array.getElem?_eq_some_iff.1 TK1.out).1).trans TK1.out)
            have UK2 : Hid (wc.heap[D2]? = some (.deferred (some []))) := Lib.hid ((hbv.block D2 (Array.getElem?_eq_some_iff.1 TK2.out).1).trans TK2.out)
            have UK3 : Hid (wc.heap[D3]? = some (.deferred (some []))) := Lib.hid ((hbv.block D3 (Array.getElem?_eq_some_iff.1 TK3.out).1).trans TK3.out)
            have hv4 : wb.heap.size ≤ wc.heap.size := hbv.size
            have UB5 : Hid (Row wc bo 47 #[.pointer none]) := Lib.hid (by rw [HWC.out, ← hbo]; exact (Row.made wb _ _).alloc _)
            have UB6 : Hid (Row wc (bo + 1) 3 #[.int .i64 1]) := Lib.hid (by
              rw [HWC.out, ← hbo]; have h := Row.made (wb.alloc (.cells #[.pointer none] 47)) 3 #[.int .i64 1]
              rwa [World.size_alloc] at h)
            have hbol : bo + 1 < wc.heap.size := UB6.out.lt
            clear HWC
            clear hbv T5 T6 T9 T10 T11 T17 TS TC TBW TK1 TK2 TK3
            have HT4 := Lib.hid (fromtel_i (fun j => j = bo ∨ j = bo + 1) bo (bo + 1) 1 (.pointer none) (.pointer none) .leaf wc (fun j e => e.elim (fun e => by subst e; exact ⟨_, _, UB5.out⟩) (fun e => by subst e; exact ⟨_, _, UB6.out⟩)) (.inl rfl) (.inr rfl) UB5.out UB6.out (.inr ⟨rfl, rfl⟩) rfl 59)
            obtain ⟨PP, hPP⟩ : ∃ PP : Own, PP = fun j => ((j = w.heap.size ∨ j = w.heap.size + 1 ∨ j = b9 ∨ j = b10 ∨ j = b11) ∨ ob = some j) ∨ P0 j := ⟨_, rfl⟩
            have HPP := Lib.hid (fun j => show PP j ↔ (((j = w.heap.size ∨ j = w.heap.size + 1 ∨ j = b9 ∨ j = b10 ∨ j = b11) ∨ ob = some j) ∨ P0 j) by rw [hPP])
            clear hPP
            have HCP : Hid (Cells PP wc) := Lib.hid (fun j hj => by
              rcases (HPP.out j).1 hj with ((e | e | e | e | e) | e) | e
              · subst e; exact ⟨_, _, U5.out⟩
              · subst e; exact ⟨_, _, U6.out⟩
              · subst e; exact ⟨_, _, U9.out⟩
              · subst e; exact ⟨_, _, U10.out⟩
              · subst e; exact ⟨_, _, U11.out⟩
              · have h := US.out
                rw [e] at h
                obtain ⟨c, hr⟩ := seg_row h
                exact ⟨_, _, hr⟩
              · exact UC.out j e)
            have hlenV : w.heap.size ≤ wc.heap.size := UBW.out.size
            have HDl : Hid (∀ D ∈ ([D1, D2, D3] : List Nat), D < wc.heap.size) := Lib.hid (fun D h => by
              simp at h
              rcases h with h | h | h
              · subst h; exact (Array.getElem?_eq_some_iff.1 UK1.out).1
              · subst h; exact (Array.getElem?_eq_some_iff.1 UK2.out).1
              · subst h; exact (Array.getElem?_eq_some_iff.1 UK3.out).1)
            have HPB : Hid (¬ PP b17) := Lib.hid (fun h => by
              rcases (HPP.out b17).1 h with ((e | e | e | e | e) | e) | e
              · omega
              · omega
              · omega
              · omega
              · omega
              · have := hob.out _ e; omega
              · have := hP0.out _ e; omega)
            have HI0 : Hid (Inv w wc b17 PP [D1, D2, D3] (fun _ => False) #[.int .i64 sm] wc) := Lib.hid ⟨U17.out, id, ⟨Hold.refl _ _, fun _ _ e => e⟩, UBW.out, fun _ e => e.elim, fun D h => by
              simp at h
              rcases h with h | h | h
              · subst h; exact ⟨UK1.out, id⟩
              · subst h; exact ⟨UK2.out, id⟩
              · subst h; exact ⟨UK3.out, id⟩⟩
            obtain ⟨I, hI⟩ : ∃ I : Own → List (Int × Int) → World → Prop, I = fun O pre Y => Inv w wc b17 PP [D1, D2, D3] O #[.int .i64 sm] Y := ⟨_, rfl⟩
            have HIE := Lib.hid (fun O pre Y => show I O pre Y ↔ Inv w wc b17 PP [D1, D2, D3] O #[.int .i64 sm] Y by rw [hI])
            have HSI : Hid (Stb wc.heap.size I) := Lib.hid (by
              rw [hI]; exact inv_stb b17 (fun pre : List (Int × Int) => #[.int .i64 sm]) HCP.out HDl.out hlenV)
            have HI1 : Hid (I (fun _ => False) [] wc) := Lib.hid (by rw [hI]; exact HI0.out)
            clear hI HI0
            refine (wpIn_wide (n := 60)).1 ?_
            refine rangeTel_all (n := 60) (d := 0) hro (by omega) (gf := 35) (lb := #[.pointer (some ⟨bo, 0, none⟩), .pointer (some ⟨bo + 1, 0, none⟩)]) rfl trivial (enters_of Try.func35 (by kernel_rfl) rfl) HT4.out (fun _ => rfl) I HSI.out HI1.out ?round4 ?done4
            case round4 =>
              intro l O pre x X0 hl hI hnx hsz
              obtain ⟨hlt, _⟩ := nxt_at hnx
              exact absurd hlt (Nat.not_lt_zero _)
            intro D4 On xsn wd hD hO hS hI hK
            have hinv := (HIE.out _ _ _).1 hI
            have hh4 : wc.heap.size ≤ D4 := hD
            have T5 := Lib.hid (hinv.keep.1.row ((HPP.out _).2 (.inl (.inl (.inl rfl)))) U5.out)
            have T6 := Lib.hid (hinv.keep.1.row ((HPP.out _).2 (.inl (.inl (.inr (.inl rfl))))) U6.out)
            have T9 := Lib.hid (hinv.keep.1.row ((HPP.out _).2 (.inl (.inl (.inr (.inr (.inl rfl)))))) U9.out)
            have T10 := Lib.hid (hinv.keep.1.row ((HPP.out _).2 (.inl (.inl (.inr (.inr (.inr (.inl rfl))))))) U10.out)
            have T11 := Lib.hid (hinv.keep.1.row ((HPP.out _).2 (.inl (.inl (.inr (.inr (.inr (.inr rfl))))))) U11.out)
            have T17 := Lib.hid hinv.row
            have TS := Lib.hid (hinv.keep.1.seg (fun g e => (HPP.out _).2 (.inl (.inr e))) US.out)
            have TC := Lib.hid (UC.out.hold (⟨hinv.keep.1.1, fun j cs t hj hh => hinv.keep.1.2 j cs t ((HPP.out _).2 (.inr hj)) hh⟩ : Hold P0 wc wd))
            have TK1 := Lib.hid (hinv.dfs D1 (by simp)).1
            have hdw40 : D1 < wc.heap.size := (Array.getElem?_eq_some_iff.1 UK1.out).1
            have TK2 := Lib.hid (hinv.dfs D2 (by simp)).1
            have hdw41 : D2 < wc.heap.size := (Array.getElem?_eq_some_iff.1 UK2.out).1
            have TK3 := Lib.hid (hinv.dfs D3 (by simp)).1
            have hdw42 : D3 < wc.heap.size := (Array.getElem?_eq_some_iff.1 UK3.out).1
            have TK4 := Lib.hid hK
            have TBW := Lib.hid hinv.be
            have hx4 : wc.heap.size ≤ wd.heap.size := hinv.keep.1.1
            clear hinv hI hS hK hO hD U5 U6 U9 U10 U11 U17 US UC UBW UK1 UK2 UK3 HIE HSI HI1 HCP HPP HPB HDl HT4 On hlenV
            clear xsn I PP
            dsimp only [Exit.inBlock, Exit.then]
            have HFI := Lib.hid (mFirst_i (fun _ => True) (.pointer none) (.pointer none) .leaf wd (.inr ⟨rfl, rfl⟩) rfl)
            have hft : tops_i (fstT (.leaf : Tr Int Int)) = #[.int .i64 0, .int .i64 0, .bool false] := rfl
            rw [hft] at HFI
            clear hft
            go_wp2_with fail
            refine HFI.out.mono ?_
            rintro e we ⟨rfl, nf, hwe⟩
            have hde : Below wd.heap.size wd we := by rw [hwe]; exact ⟨rfl, rfl, rfl, Nat.le_refl _, fun _ _ => rfl⟩
            have HDE := Lib.hid hde
            clear hwe HFI hde
            have hqw : IntKind.i64.wrap ((q : Int) + 1) = (q : Int) + 1 := by rw [IntKind.wrap_i64]; omega
            have hjm : IntKind.i64.wrap ((j : Int) - (m : Int)) = (j : Int) - (m : Int) := by rw [IntKind.wrap_i64]; omega
            have hmi1 : (if (j : Int) - (m : Int) < (q : Int) + 1 then (j : Int) - (m : Int) else (q : Int) + 1) = (sm : Int) := by rw [hsm]; split <;> split <;> omega
            have hmi2 : min ((q : Int) + 1) ((j : Int) - (m : Int)) = (sm : Int) := by rw [hsm]; split <;> omega
            have HSM := Lib.hid hsm
            clear hsm
            go_wp2_with fail
            refine (awake_any _).mono ?_
            rintro e wf ⟨rfl, hbf⟩
            have hdf : Below wd.heap.size wd wf := HDE.out.trans (hbf.mono HDE.out.size)
            have k10 : wf.cell? ⟨b10, 0, none⟩ = some (.int .i64 j) := ((T10.out.below hdf T10.out.lt).cell 0).trans rfl
            have k9 : wf.cell? ⟨b9, 0, none⟩ = some (.slice A9 j c9) := ((T9.out.below hdf T9.out.lt).cell 0).trans rfl
            have k17 : wf.cell? ⟨b17, 0, none⟩ = some (.int .i64 sm) := ((T17.out.below hdf T17.out.lt).cell 0).trans rfl
            have k5 : wf.cell? ⟨w.heap.size, 0, none⟩ = some (.int .i64 k) := ((T5.out.below hdf T5.out.lt).cell 0).trans rfl
            have k11 : wf.cell? ⟨b11, 0, none⟩ = some (.int .i64 m) := ((T11.out.below hdf T11.out.lt).cell 0).trans rfl
            have HDF := Lib.hid hdf
            have HPN := Lib.hid (putnil_i 1 2 wf)
            have HDN := Lib.hid (dropnil_i 1 wf)
            have HLN := Lib.hid (len_i (fun _ => True) (.pointer none) (.pointer none) .leaf wf (.inr ⟨rfl, rfl⟩) rfl)
            have HBN := Lib.hid (mbelow_i (fun _ => True) 5 (.pointer none) (.pointer none) .leaf wf (.inr ⟨rfl, rfl⟩) rfl (Nat.zero_le _))
            have HKN2 := Lib.hid (keys_i (fun _ => False) (.pointer none) (.pointer none) .leaf wf (fun _ e => e.elim) (.inr ⟨rfl, rfl⟩) rfl (Nat.zero_le _))
            have e1 : ((Tr.leaf : Tr Int Int).size : Nat) = 0 := rfl
            have e2 : blw 5 (Tr.leaf : Tr Int Int) = 0 := rfl
            have e3 : ((Tr.leaf : Tr Int Int).toL.map Prod.fst).length = 0 := rfl
            rw [e1] at HLN
            rw [e2] at HBN
            rw [e3] at HKN2
            clear hbf hdf e1 e2 e3
            go_wp2_with (first
              | (go_at_call 7; refine HPN.out.mono ?_; rintro e w' ⟨rfl, rfl⟩)
              | (go_at_call 8; refine HDN.out.mono ?_; rintro e w' ⟨rfl, rfl⟩)
              | (go_at_call 11; refine HLN.out.mono ?_; rintro e w' ⟨rfl, rfl⟩)
              | (go_at_call 12; refine HBN.out.mono ?_; rintro e w' ⟨rfl, rfl⟩)
              | (go_at_call 10; refine HKN2.out.mono ?_; rintro e wg ⟨vg, og, rfl, hsg, hbg⟩; obtain ⟨Ag, cg, rfl, _, _⟩ := hsg.form; have hdg := HDF.out.trans (hbg.mono HDF.out.size); have hr6 := T6.out.below hdg T6.out.lt; have g6 : wg.cell? ⟨w.heap.size + 1, 0, none⟩ = some (.bool false) := (hr6.cell 0).trans rfl; have g6f : wg.frozen? ⟨w.heap.size + 1, 0, none⟩ = false := hr6.free 0; have HDG := Lib.hid hdg; clear hsg hbg hdg hr6)
              | fail)
            all_goals
              have hbw := TBW.out.trans (HDG.out.mono TBW.out.size)
              have kd4 := (HDG.out.block D4 (Array.getElem?_eq_some_iff.1 TK4.out).1).trans TK4.out
              have kd3 := (HDG.out.block D3 (Array.getElem?_eq_some_iff.1 TK3.out).1).trans TK3.out
              have kd2 := (HDG.out.block D2 (Array.getElem?_eq_some_iff.1 TK2.out).1).trans TK2.out
              have kd1 := (HDG.out.block D1 (Array.getElem?_eq_some_iff.1 TK1.out).1).trans TK1.out
              have rX : Row (wg.setCell ⟨w.heap.size + 1, 0, none⟩ (.bool true)) (w.heap.size + 1) 4 #[.bool true] := Row.put (T6.out.below HDG.out T6.out.lt) 0 (.bool true)
              have bX : Below w.heap.size w (wg.setCell ⟨w.heap.size + 1, 0, none⟩ (.bool true)) := hbw.setCell (by show w.heap.size ≤ w.heap.size + 1; omega) _
              have n1 : D1 ≠ w.heap.size + 1 := by omega
              have n2 : D2 ≠ w.heap.size + 1 := by omega
              have n3 : D3 ≠ w.heap.size + 1 := by omega
              have n4 : D4 ≠ w.heap.size + 1 := by omega
              have x4 : (wg.setCell ⟨w.heap.size + 1, 0, none⟩ (.bool true)).heap[D4]? = some (.deferred (some [])) := (heap_setCell_other _ _ _ _ n4).trans kd4
              have x3 : (wg.setCell ⟨w.heap.size + 1, 0, none⟩ (.bool true)).heap[D3]? = some (.deferred (some [])) := (heap_setCell_other _ _ _ _ n3).trans kd3
              have x2 : (wg.setCell ⟨w.heap.size + 1, 0, none⟩ (.bool true)).heap[D2]? = some (.deferred (some [])) := (heap_setCell_other _ _ _ _ n2).trans kd2
              have x1 : (wg.setCell ⟨w.heap.size + 1, 0, none⟩ (.bool true)).heap[D1]? = some (.deferred (some [])) := (heap_setCell_other _ _ _ _ n1).trans kd1
              generalize wg.setCell ⟨w.heap.size + 1, 0, none⟩ (.bool true) = X9 at rX bX x4 x3 x2 x1 ⊢
              have y3 : (X9.putObj D4 (.deferred none)).heap[D3]? = some (.deferred (some [])) := (World.putObj_heap_other (by omega)).trans x3
              have y2 : ((X9.putObj D4 (.deferred none)).putObj D3 (.deferred none)).heap[D2]? = some (.deferred (some [])) := (World.putObj_heap_other (by omega)).trans ((World.putObj_heap_other (by omega)).trans x2)
              have y1 : (((X9.putObj D4 (.deferred none)).putObj D3 (.deferred none)).putObj D2 (.deferred none)).heap[D1]? = some (.deferred (some [])) := (World.putObj_heap_other (by omega)).trans ((World.putObj_heap_other (by omega)).trans ((World.putObj_heap_other (by omega)).trans x1))
              have g4 := grownBy_putObj' X9 D4 (.deferred none)
              have g3 := grownBy_putObj' (X9.putObj D4 (.deferred none)) D3 (.deferred none)
              have g2 := grownBy_putObj' ((X9.putObj D4 (.deferred none)).putObj D3 (.deferred none)) D2 (.deferred none)
              have g1 := grownBy_putObj' (((X9.putObj D4 (.deferred none)).putObj D3 (.deferred none)).putObj D2 (.deferred none)) D1 (.deferred none)
              have rY4 := row_kept' rX g4 (fun r e => by injection e with e; subst e; exact ⟨_, x4, rfl⟩)
              have rY3 := row_kept' rY4 g3 (fun r e => by injection e with e; subst e; exact ⟨_, y3, rfl⟩)
              have rY2 := row_kept' rY3 g2 (fun r e => by injection e with e; subst e; exact ⟨_, y2, rfl⟩)
              have rY1 := row_kept' rY2 g1 (fun r e => by injection e with e; subst e; exact ⟨_, y1, rfl⟩)
              have b4 := bX.grown g4 bX.size (fun r e => by injection e with e; omega)
              have b3 := b4.grown g3 b4.size (fun r e => by injection e with e; omega)
              have b2 := b3.grown g2 b3.size (fun r e => by injection e with e; omega)
              have b1 := b2.grown g1 b2.size (fun r e => by injection e with e; omega)
              refine ⟨by simp, .inl ⟨_, _, rfl, run_takeDeferred x4, ?_⟩⟩
              refine ⟨by simp, .inl ⟨_, _, rfl, run_takeDeferred y3, ?_⟩⟩
              refine ⟨by simp, .inl ⟨_, _, rfl, run_takeDeferred y2, ?_⟩⟩
              refine ⟨by simp, .inl ⟨_, _, rfl, run_takeDeferred y1, ?_⟩⟩
              have y0 := (rY1.cell 0).trans rfl
              exact ⟨_, results_cell0 rfl _ _ _ _ rfl y0, rfl, b1⟩
end Go.Proofs.Ytnibmfijkbfaeaa.Om
