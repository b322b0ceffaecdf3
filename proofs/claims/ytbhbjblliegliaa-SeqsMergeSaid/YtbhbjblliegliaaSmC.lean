/- Lists of stamps as one, half by half (written by gen_smc). -/
import Derived.Test.YtbhbjblliegliaaSmB
namespace Go.Proofs.Ytbhbjblliegliaa.Sm
open Go.RowKit Go.Proofs.Ytbhbjblliegliaa Go.Proofs.Ytbhbjblliegliaa.Hp
set_option linter.unusedVariables false
set_option linter.unusedSimpArgs false
set_option maxRecDepth 100000
/-- Values as they lie in memory, one cell each. -/
def LL (w : World) (B : Nat) (v : Value) (L : List Value) : Prop :=
  ∃ A c, v = .slice A L.length c ∧ L.length ≤ c ∧ c ≤ 9223372036854775807 ∧ ∀ k (h : k < L.length), ∃ g o, A = some ⟨g, o, none⟩ ∧ g < B ∧ w.cell? ⟨g, o + k, none⟩ = some L[k]
theorem LL.below {w w' : World} {B B' : Nat} {v : Value} {L : List Value} (h : LL w B v L) (hb : Below B w w') (hB : B ≤ B') : LL w' B' v L := by
  obtain ⟨A, c, rfl, h1, h2, h3⟩ := h
  refine ⟨A, c, rfl, h1, h2, fun k hk => ?_⟩
  obtain ⟨g, o, e, hg, hc⟩ := h3 k hk
  exact ⟨g, o, e, by omega, (hb.cell (p := ⟨g, o + k, none⟩) hg).trans hc⟩
theorem LL.head {W : World} {B : Nat} {v x : Value} {r : List Value} (h : LL W B v (x :: r)) : ∃ g o c, v = .slice (some ⟨g, o, none⟩) (r.length + 1) c ∧ r.length + 1 ≤ c ∧ c ≤ 9223372036854775807 ∧ g < B ∧ W.cell? ⟨g, o, none⟩ = some x := by
  obtain ⟨A, c, rfl, h1, h2, h3⟩ := h
  obtain ⟨g, o, rfl, hg, c0⟩ := h3 0 (by simp)
  exact ⟨g, o, c, rfl, h1, h2, hg, by simpa using c0⟩
theorem LL.first {W : World} {B g o n c : Nat} {x : Value} {r : List Value} (h : LL W B (.slice (some ⟨g, o, none⟩) n c) (x :: r)) : LL W B (.slice (some ⟨g, o, none⟩) 1 c) [x] := by
  obtain ⟨A, c, e, h1, h2, h3⟩ := h
  injection e with e1 e2 e3
  subst e1 e2 e3
  obtain ⟨g', o', e, hg, c0⟩ := h3 0 (by simp)
  refine ⟨_, _, rfl, by simp at h1 ⊢; omega, h2, fun k hk => ?_⟩
  obtain rfl : k = 0 := by simpa using hk
  exact ⟨g', o', e, hg, c0⟩
theorem LL.rest {W : World} {B g o n c : Nat} {x : Value} {r : List Value} (h : LL W B (.slice (some ⟨g, o, none⟩) n c) (x :: r)) : LL W B (.slice (some ⟨g, o + 1, none⟩) (n - 1) (c - 1)) r := by
  obtain ⟨A, c, e, h1, h2, h3⟩ := h
  injection e with e1 e2 e3
  subst e1 e2 e3
  have h1' : r.length + 1 ≤ c := by simpa using h1
  refine ⟨some ⟨g, o + 1, none⟩, c - 1, by simp, by omega, by omega, fun k hk => ?_⟩
  obtain ⟨g', o', e, hg, c0⟩ := h3 (k + 1) (by simp; omega)
  injection e with e
  injection e with e1 e2
  subst e1 e2
  have e0 : o + (k + 1) = o + 1 + k := by omega
  rw [e0] at c0
  exact ⟨_, _, rfl, hg, by simpa using c0⟩
/-- What Merge makes of lists. -/
def Mrg (Ls : List (List St)) (R : List St) : Prop := ∀ (V : World) (v : Value) (vs : List Value), LL V V.heap.size v vs → vs.length = Ls.length → (∀ (k : Nat) (v' : Value) (L : List St), vs[k]? = some v' → Ls[k]? = some L → LS V V.heap.size v' L) →
  Calls Try.prog 22 #[v] V fun e w' => ∃ v ob, e = .returned v ∧ Seg w' 47 3 v R.length (hcells R) ob ∧ Below V.heap.size V w'
theorem merge0 (w : World) : Calls Try.prog 22 #[.slice none 0 0] w fun e w' => e = .returned (.slice none 0 0) ∧ Below w.heap.size w w' := by
  go_enter Try.func22, Try.ntmps22
  go_wp2
  go_ret
  exact ⟨rfl, Below.refl _ _⟩
theorem merge1 (L : List St) (hl : L.length ≤ 100) : Mrg [L] L := fun V v vs hv hn hs => by
  obtain ⟨v0, rfl⟩ : ∃ v0, vs = [v0] := List.length_eq_one_iff.1 (by simpa using hn)
  obtain ⟨g, o, c, rfl, hc, hc9, hg, c0⟩ := hv.head
  have HS := Lib.hid (hs 0 v0 L rfl rfl)
  obtain ⟨A, c1, rfl, _, _, _⟩ := hs 0 v0 L rfl rfl
  rw [List.length_nil] at hc ⊢
  have hc1 : 0 < c := by omega
  clear hv hs hn
  go_enter Try.func22, Try.ntmps22
  go_wp2_with (go_at_call 36; refine (clone_s _ L _ HS.out (by omega)).mono ?_; rintro e W2 ⟨v2, ob2, rfl, hs2, hb2⟩; obtain ⟨A2, cap2, rfl, _, _⟩ := hs2.form; have HS2 := Lib.hid hs2; clear hs2)
  go_ret
  exact ⟨_, ob2, rfl, HS2.out, hb2⟩
set_option maxHeartbeats 4000000 in
theorem merge2 (x y : List St) (hx : x.length ≤ 20) (hy : y.length ≤ 20) : Mrg [x, y] (mg x y) := fun V v vs hv hn hs => by
  have hvs : ∃ v0 v1, vs = [v0, v1] := by
    match vs, hn with
    | [v0, v1], _ => exact ⟨_, _, rfl⟩
  obtain ⟨v0, v1, rfl⟩ := hvs
  obtain ⟨g, o, c, rfl, hc, hc9, hg, c0⟩ := hv.head
  have hc2 : 2 ≤ c := by simpa using hc
  have hcne : ¬ c = 1 := by omega
  have hc1 : 1 ≤ c := by omega
  have hci : (1 : Int) ≤ (c : Int) := by omega
  have HV := Lib.hid hv
  have HS := Lib.hid hs
  have HM1 := Lib.hid (merge1 x (by omega))
  have HMR := Lib.hid (merge1 y (by omega))
  have hRl : (y).length ≤ 40 := by omega
  simp only [List.length_cons, List.length_nil, Nat.zero_add, Nat.reduceAdd] at HV ⊢
  clear hv hs hn hc c0
  go_enter Try.func22, Try.ntmps22
  go_upto_region 7 with fail
  have hVd : Below V.heap.size V V.drew := (Below.refl _ V).drew
  have HV1 := Lib.hid ((HV.out.first).below hVd hVd.size)
  have HV2 := Lib.hid ((HV.out.rest).below hVd hVd.size)
  have HBV := Lib.hid hVd
  clear hVd
  refine wp_region_noPanic ?_
  refine wp_region_held_drew (S := (fun _ => True)) (by kernel_rfl) ?_ (fun hHeld => ?_)
  · exact trivial
  refine take_at3 0 17 _ (v := ?vm20) rfl rfl (by kernel_rfl) (by kernel_rfl) (by kernel_rfl) (fun _ _ _ h => h) (Or.inl ⟨by rfl, ?hym20⟩) (by assumption) ?restm20
  case hym20 =>
    intro wX hSw
    try dsimp only at hSw
    go_simp
    first
    | done
    | (with_reducible rfl)
  try simp only [Act.put, List.setIfInBounds_toArray, List.set_cons_zero, List.set_cons_succ]
  refine take_at3 1 18 _ (v := ?vm21) rfl rfl (by kernel_rfl) (by kernel_rfl) (by kernel_rfl) (fun _ _ _ h => h) (Or.inl ⟨by rfl, ?hym21⟩) (by assumption) ?restm21
  case hym21 =>
    intro wX hSw
    try dsimp only at hSw
    go_simp
    first
    | done
    | (with_reducible rfl)
  try simp only [Act.put, List.setIfInBounds_toArray, List.set_cons_zero, List.set_cons_succ]
  refine take_at3 2 19 _ (v := ?vm22) rfl rfl (by kernel_rfl) (by kernel_rfl) (by kernel_rfl) (fun _ _ _ h => h) (Or.inl ⟨by rfl, ?hym22⟩) (by assumption) ?restm22
  case hym22 =>
    intro wX hSw
    try dsimp only at hSw
    go_simp
    first
    | done
    | (with_reducible rfl)
  try simp only [Act.put, List.setIfInBounds_toArray, List.set_cons_zero, List.set_cons_succ]
  refine take_at3 4 21 _ (v := ?vm24) rfl rfl (by kernel_rfl) (by kernel_rfl) (by kernel_rfl) (fun _ _ _ h => h) (Or.inl ⟨by rfl, ?hym24⟩) (by assumption) ?restm24
  case hym24 =>
    intro wX hSw
    try dsimp only at hSw
    go_simp
    first
    | done
    | (with_reducible rfl)
  try simp only [Act.put, List.setIfInBounds_toArray, List.set_cons_zero, List.set_cons_succ]
  refine take_at3 5 22 _ (v := ?vm25) rfl rfl (by kernel_rfl) (by kernel_rfl) (by kernel_rfl) (fun _ _ _ h => h) (Or.inl ⟨by rfl, ?hym25⟩) (by assumption) ?restm25
  case hym25 =>
    intro wX hSw
    try dsimp only at hSw
    go_simp
    first
    | done
    | (with_reducible rfl)
  try simp only [Act.put, List.setIfInBounds_toArray, List.set_cons_zero, List.set_cons_succ]
  refine take_at3 6 23 _ (v := ?vm26) rfl rfl (by kernel_rfl) (by kernel_rfl) (by kernel_rfl) (fun _ _ _ h => h) (Or.inl ⟨by rfl, ?hym26⟩) (by assumption) ?restm26
  case hym26 =>
    intro wX hSw
    try dsimp only at hSw
    go_simp
    first
    | done
    | (with_reducible rfl)
  try simp only [Act.put, List.setIfInBounds_toArray, List.set_cons_zero, List.set_cons_succ]
  refine wpAnyH_ready (rs := [3]) (by kernel_rfl) (by simp) ?_
  refine AllReadyH.cons rfl (fun K hK => ?_) AllReadyH.nil
  go_simp
  go_at_call 22
  refine (HM1.out _ _ [v0] HV1.out rfl (fun k v' L h1 h2 => by
    have hk : k = 0 := by have := (List.getElem?_eq_some_iff.1 h1).1; simpa using this
    subst hk
    exact (HS.out 0 v' L (by simpa using h1) (by simpa using h2)).below HBV.out HBV.out.size)).mono ?_
  rintro e w2 ⟨va, oa, rfl, hsa, hb⟩
  have HSA := Lib.hid (LS.of_seg hsa)
  have HV2n := Lib.hid (HV2.out.below hb hb.size)
  have HBVn := Lib.hid (HBV.out.trans (hb.mono HBV.out.size))
  clear HV2 HBV hb hsa
  have HV2 := HV2n
  have HBV := HBVn
  clear HV2n HBVn

  try go_wp2_with fail
  refine hK.out _ _ ?_ (fun hHeld => ?_)
  · exact trivial
  clear hK K
  try simp only [Act.put, List.setIfInBounds_toArray, List.set_cons_zero, List.set_cons_succ]
  refine wpAnyH_ready (rs := [7]) (by kernel_rfl) (by simp) ?_
  refine AllReadyH.cons rfl (fun K hK => ?_) AllReadyH.nil
  go_simp
  go_at_call 22
  refine (HMR.out _ _ [v1] (by simpa using HV2.out) rfl (fun k v' L h1 h2 => (HS.out (k + 1) v' L (by simpa using h1) (by simpa using h2)).below HBV.out HBV.out.size)).mono ?_
  rintro e w3 ⟨vb, ob, rfl, hsb, hb⟩
  have HSB := Lib.hid (LS.of_seg hsb)
  have HSAn := Lib.hid (HSA.out.below hb hb.size)
  have HBVn := Lib.hid (HBV.out.trans (hb.mono HBV.out.size))
  clear HSA HBV hb hsb
  have HSA := HSAn
  have HBV := HBVn
  clear HSAn HBVn

  try go_wp2_with fail
  refine hK.out _ _ ?_ (fun hHeld => ?_)
  · exact trivial
  clear hK K
  try simp only [Act.put, List.setIfInBounds_toArray, List.set_cons_zero, List.set_cons_succ]
  refine wpAnyH_ready (rs := [8]) (by kernel_rfl) (by simp) ?_
  refine AllReadyH.cons rfl (fun K hK => ?_) AllReadyH.nil
  go_simp
  go_at_call 37
  refine (two_any va vb x y _ HSA.out HSB.out (by omega)).mono ?_
  rintro e w4 ⟨vc, oc, rfl, hsc, hb⟩
  have HSC := Lib.hid hsc
  have HBVn := Lib.hid (HBV.out.trans (hb.mono HBV.out.size))
  clear HBV hb hsc
  have HBV := HBVn
  clear HBVn

  try go_wp2_with fail
  refine hK.out _ _ ?_ (fun hHeld => ?_)
  · exact trivial
  clear hK K
  try simp only [Act.put, List.setIfInBounds_toArray, List.set_cons_zero, List.set_cons_succ]
  refine take_at3 9 2 _ (v := ?vm29) rfl rfl (by kernel_rfl) (by kernel_rfl) (by kernel_rfl) (fun _ _ _ h => h) (Or.inl ⟨by rfl, ?hym29⟩) (by assumption) ?restm29
  case hym29 =>
    intro wX hSw
    try dsimp only at hSw
    go_simp
    first
    | done
    | (with_reducible rfl)
  try simp only [Act.put, List.setIfInBounds_toArray, List.set_cons_zero, List.set_cons_succ]
  refine wpAnyH_done (by kernel_rfl) ?_ _
  refine NoPanic.normal ?_

  go_wp2
  go_ret
  exact ⟨_, oc, rfl, HSC.out, HBV.out⟩
set_option maxHeartbeats 4000000 in
theorem merge3 (x y z : List St) (hx : x.length ≤ 20) (hy : y.length ≤ 20) (hz : z.length ≤ 20) : Mrg [x, y, z] (mg x (mg y z)) := fun V v vs hv hn hs => by
  have hvs : ∃ v0 v1 v2, vs = [v0, v1, v2] := by
    match vs, hn with
    | [v0, v1, v2], _ => exact ⟨_, _, _, rfl⟩
  obtain ⟨v0, v1, v2, rfl⟩ := hvs
  obtain ⟨g, o, c, rfl, hc, hc9, hg, c0⟩ := hv.head
  have hc2 : 3 ≤ c := by simpa using hc
  have hcne : ¬ c = 1 := by omega
  have hc1 : 1 ≤ c := by omega
  have hci : (1 : Int) ≤ (c : Int) := by omega
  have HV := Lib.hid hv
  have HS := Lib.hid hs
  have HM1 := Lib.hid (merge1 x (by omega))
  have HMR := Lib.hid (merge2 y z hy hz)
  have hRl : (mg y z).length ≤ 40 := by rw [mg_len _ y z rfl]; omega
  obtain ⟨RR, hRR⟩ : ∃ R, mg y z = R := ⟨_, rfl⟩
  rw [hRR] at HMR hRl ⊢
  simp only [List.length_cons, List.length_nil, Nat.zero_add, Nat.reduceAdd] at HV ⊢
  clear hv hs hn hc hRR c0
  go_enter Try.func22, Try.ntmps22
  go_upto_region 7 with fail
  have hVd : Below V.heap.size V V.drew := (Below.refl _ V).drew
  have HV1 := Lib.hid ((HV.out.first).below hVd hVd.size)
  have HV2 := Lib.hid ((HV.out.rest).below hVd hVd.size)
  have HBV := Lib.hid hVd
  clear hVd
  refine wp_region_noPanic ?_
  refine wp_region_held_drew (S := (fun _ => True)) (by kernel_rfl) ?_ (fun hHeld => ?_)
  · exact trivial
  refine take_at3 0 17 _ (v := ?vm30) rfl rfl (by kernel_rfl) (by kernel_rfl) (by kernel_rfl) (fun _ _ _ h => h) (Or.inl ⟨by rfl, ?hym30⟩) (by assumption) ?restm30
  case hym30 =>
    intro wX hSw
    try dsimp only at hSw
    go_simp
    first
    | done
    | (with_reducible rfl)
  try simp only [Act.put, List.setIfInBounds_toArray, List.set_cons_zero, List.set_cons_succ]
  refine take_at3 1 18 _ (v := ?vm31) rfl rfl (by kernel_rfl) (by kernel_rfl) (by kernel_rfl) (fun _ _ _ h => h) (Or.inl ⟨by rfl, ?hym31⟩) (by assumption) ?restm31
  case hym31 =>
    intro wX hSw
    try dsimp only at hSw
    go_simp
    first
    | done
    | (with_reducible rfl)
  try simp only [Act.put, List.setIfInBounds_toArray, List.set_cons_zero, List.set_cons_succ]
  refine take_at3 2 19 _ (v := ?vm32) rfl rfl (by kernel_rfl) (by kernel_rfl) (by kernel_rfl) (fun _ _ _ h => h) (Or.inl ⟨by rfl, ?hym32⟩) (by assumption) ?restm32
  case hym32 =>
    intro wX hSw
    try dsimp only at hSw
    go_simp
    first
    | done
    | (with_reducible rfl)
  try simp only [Act.put, List.setIfInBounds_toArray, List.set_cons_zero, List.set_cons_succ]
  refine take_at3 4 21 _ (v := ?vm34) rfl rfl (by kernel_rfl) (by kernel_rfl) (by kernel_rfl) (fun _ _ _ h => h) (Or.inl ⟨by rfl, ?hym34⟩) (by assumption) ?restm34
  case hym34 =>
    intro wX hSw
    try dsimp only at hSw
    go_simp
    first
    | done
    | (with_reducible rfl)
  try simp only [Act.put, List.setIfInBounds_toArray, List.set_cons_zero, List.set_cons_succ]
  refine take_at3 5 22 _ (v := ?vm35) rfl rfl (by kernel_rfl) (by kernel_rfl) (by kernel_rfl) (fun _ _ _ h => h) (Or.inl ⟨by rfl, ?hym35⟩) (by assumption) ?restm35
  case hym35 =>
    intro wX hSw
    try dsimp only at hSw
    go_simp
    first
    | done
    | (with_reducible rfl)
  try simp only [Act.put, List.setIfInBounds_toArray, List.set_cons_zero, List.set_cons_succ]
  refine take_at3 6 23 _ (v := ?vm36) rfl rfl (by kernel_rfl) (by kernel_rfl) (by kernel_rfl) (fun _ _ _ h => h) (Or.inl ⟨by rfl, ?hym36⟩) (by assumption) ?restm36
  case hym36 =>
    intro wX hSw
    try dsimp only at hSw
    go_simp
    first
    | done
    | (with_reducible rfl)
  try simp only [Act.put, List.setIfInBounds_toArray, List.set_cons_zero, List.set_cons_succ]
  refine wpAnyH_ready (rs := [3]) (by kernel_rfl) (by simp) ?_
  refine AllReadyH.cons rfl (fun K hK => ?_) AllReadyH.nil
  go_simp
  go_at_call 22
  refine (HM1.out _ _ [v0] HV1.out rfl (fun k v' L h1 h2 => by
    have hk : k = 0 := by have := (List.getElem?_eq_some_iff.1 h1).1; simpa using this
    subst hk
    exact (HS.out 0 v' L (by simpa using h1) (by simpa using h2)).below HBV.out HBV.out.size)).mono ?_
  rintro e w2 ⟨va, oa, rfl, hsa, hb⟩
  have HSA := Lib.hid (LS.of_seg hsa)
  have HV2n := Lib.hid (HV2.out.below hb hb.size)
  have HBVn := Lib.hid (HBV.out.trans (hb.mono HBV.out.size))
  clear HV2 HBV hb hsa
  have HV2 := HV2n
  have HBV := HBVn
  clear HV2n HBVn

  try go_wp2_with fail
  refine hK.out _ _ ?_ (fun hHeld => ?_)
  · exact trivial
  clear hK K
  try simp only [Act.put, List.setIfInBounds_toArray, List.set_cons_zero, List.set_cons_succ]
  refine wpAnyH_ready (rs := [7]) (by kernel_rfl) (by simp) ?_
  refine AllReadyH.cons rfl (fun K hK => ?_) AllReadyH.nil
  go_simp
  go_at_call 22
  refine (HMR.out _ _ [v1, v2] (by simpa using HV2.out) rfl (fun k v' L h1 h2 => (HS.out (k + 1) v' L (by simpa using h1) (by simpa using h2)).below HBV.out HBV.out.size)).mono ?_
  rintro e w3 ⟨vb, ob, rfl, hsb, hb⟩
  have HSB := Lib.hid (LS.of_seg hsb)
  have HSAn := Lib.hid (HSA.out.below hb hb.size)
  have HBVn := Lib.hid (HBV.out.trans (hb.mono HBV.out.size))
  clear HSA HBV hb hsb
  have HSA := HSAn
  have HBV := HBVn
  clear HSAn HBVn

  try go_wp2_with fail
  refine hK.out _ _ ?_ (fun hHeld => ?_)
  · exact trivial
  clear hK K
  try simp only [Act.put, List.setIfInBounds_toArray, List.set_cons_zero, List.set_cons_succ]
  refine wpAnyH_ready (rs := [8]) (by kernel_rfl) (by simp) ?_
  refine AllReadyH.cons rfl (fun K hK => ?_) AllReadyH.nil
  go_simp
  go_at_call 37
  refine (two_any va vb x RR _ HSA.out HSB.out (by omega)).mono ?_
  rintro e w4 ⟨vc, oc, rfl, hsc, hb⟩
  have HSC := Lib.hid hsc
  have HBVn := Lib.hid (HBV.out.trans (hb.mono HBV.out.size))
  clear HBV hb hsc
  have HBV := HBVn
  clear HBVn

  try go_wp2_with fail
  refine hK.out _ _ ?_ (fun hHeld => ?_)
  · exact trivial
  clear hK K
  try simp only [Act.put, List.setIfInBounds_toArray, List.set_cons_zero, List.set_cons_succ]
  refine take_at3 9 2 _ (v := ?vm39) rfl rfl (by kernel_rfl) (by kernel_rfl) (by kernel_rfl) (fun _ _ _ h => h) (Or.inl ⟨by rfl, ?hym39⟩) (by assumption) ?restm39
  case hym39 =>
    intro wX hSw
    try dsimp only at hSw
    go_simp
    first
    | done
    | (with_reducible rfl)
  try simp only [Act.put, List.setIfInBounds_toArray, List.set_cons_zero, List.set_cons_succ]
  refine wpAnyH_done (by kernel_rfl) ?_ _
  refine NoPanic.normal ?_

  go_wp2
  go_ret
  exact ⟨_, oc, rfl, HSC.out, HBV.out⟩
end Go.Proofs.Ytbhbjblliegliaa.Sm
