/- SeqsEarly's law (written by gen_sre). -/
import Derived.Test.YtbhbjblliegliaaSrK
import Derived.Test.YtbhbjblliegliaaSrH
import Derived.Test.YtbhbjblliegliaaBits
import Derived.Deep.DeepCutAuto
import Derived.Deep.CutBlock
namespace Go.Proofs.Ytbhbjblliegliaa.Sr
open Go.RowKit Go.Proofs.Ytbhbjblliegliaa Go.Proofs.Ytbhbjblliegliaa.Sq
set_option linter.unusedVariables false
set_option linter.unusedSimpArgs false
set_option maxRecDepth 100000
attribute [local go_sem] Oper.semAt_some
theorem take_at2 {P : Program} {ops : Array Oper} {Q : Exit → Act → World → Prop} {md : Region.Mode} {S : World → Prop} {fuel : Nat} {listed : Array Bool} {a : Act} {w : World} (i : Nat) (d : Tmp) (oi : Oper) {v : Value} (hi : ops[i]? = some oi) (hd : oi.dst = some d)
    (hs : Region.noSelect ops = true) (hf : Region.free md ops listed i = true) (hr : (Region.ready md ops listed).contains i = true)
    (hQ : ∀ c a w, Q (.panic c) (a.put oi.dst v) w → Q (.panic c) a w) (hy : YieldsIf P ops S oi v a) (hS : S w)
    (h : wpAnyH P md ops Q S fuel (listed.setIfInBounds i true) (a.put (some d) v) w) : wpAnyH P md ops Q S (fuel + 1) listed a w :=
  wpAnyH_take hi hs hf hr hQ hy hS (by rw [hd]; exact h)
set_option maxHeartbeats 8000000 in
theorem early_law (A B : Option Addr) (m n c c2 : Nat) (zs ys : List Int) (hm : m ≤ c) (hc : c ≤ 9223372036854775807) (hn : n ≤ c2) (hc2 : c2 ≤ 9223372036854775807) (k : Int) (hk : -9223372036854775808 ≤ k ∧ k ≤ 9223372036854775807) (w : World) (HL : Hid (LI w w.heap.size (.slice A m c) zs)) (HL2 : Hid (LI w w.heap.size (.slice B n c2) ys)) :
    CallsIn Fence.wide 60 Try.prog 4 #[.slice A m c, .slice B n c2, .int .i64 k] w fun e w' => e = .returned (.bool true) ∧ Below w.heap.size w w' := by
  have hF : ∀ k, Fence.wide.fn k := fun _ => trivial
  have hro : Fence.wide.round = none := rfl
  obtain ⟨mx, hmx⟩ : ∃ x, min m 9 = x := ⟨_, rfl⟩
  obtain ⟨mn, hmn⟩ : ∃ x, min n 9 = x := ⟨_, rfl⟩
  have hx0 : (if (9 : Int) < (m : Int) then (9 : Int) else (m : Int)) = (mx : Int) := by split <;> omega
  have hy0 : (if (9 : Int) < (n : Int) then (9 : Int) else (n : Int)) = (mn : Int) := by split <;> omega
  have hxm : mx ≤ m := by omega
  have hyn : mn ≤ n := by omega
  have hx20 : mx ≤ 9 := by omega
  have hy20 : mn ≤ 9 := by omega
  have HLm := Lib.hid HL.out.len
  have HLn := Lib.hid HL2.out.len
  clear hmx hmn
  refine callsIn_of_wp_marks Try.func4 rfl trivial ?_ rfl
  simp only [Try.ntmps4, List.size_toArray, List.length_cons, List.length_nil, Nat.reduceAdd, Nat.reduceSub, Array.replicate_succ, Array.replicate_zero, List.push_toArray, List.append_toArray, List.nil_append, List.cons_append]
  refine wpIn_wide.2 ?_
  go_wp2_with (go_at_call 8; refine (awake_any _).mono ?_; rintro e w1 ⟨rfl, hb1⟩; have HB := Lib.hid hb1; clear hb1)
  obtain ⟨X, hX⟩ : ∃ X, zs.take mx = X := ⟨_, rfl⟩
  obtain ⟨Y, hY⟩ : ∃ Y, ys.take mn = Y := ⟨_, rfl⟩
  have HX := Lib.hid ((HL.out.take mx (by have := HLm.out; omega)).below HB.out HB.out.size)
  have HY := Lib.hid ((HL2.out.take mn (by have := HLn.out; omega)).below HB.out HB.out.size)
  have hXb : X.length ≤ 9 := by rw [← hX, List.length_take]; omega
  have hYb : Y.length ≤ 9 := by rw [← hY, List.length_take]; omega
  rw [hX] at HX
  rw [hY] at HY
  have hmc : mx ≤ c := by omega
  have hnc : mn ≤ c2 := by omega
  clear HL HL2 HLm HLn hX hY
  refine wp_region_noPanic ?_
  refine wp_region_held_drew (S := (fun _ => True)) (by kernel_rfl) ?_ (fun hHeld => ?_)
  · exact trivial
  refine take_at2 1 20 _ (v := ?v31) rfl rfl (by kernel_rfl) (by kernel_rfl) (by kernel_rfl) (fun _ _ _ h => h) (Or.inl ⟨by rfl, ?hy31⟩) (by assumption) ?rest31
  case hy31 =>
    intro wX hSw
    try dsimp only at hSw
    go_simp
    first
    | done
    | (with_reducible rfl)
  try simp only [Act.put, List.setIfInBounds_toArray, List.set_cons_zero, List.set_cons_succ]
  refine take_at2 2 21 _ (v := ?v32) rfl rfl (by kernel_rfl) (by kernel_rfl) (by kernel_rfl) (fun _ _ _ h => h) (Or.inl ⟨by rfl, ?hy32⟩) (by assumption) ?rest32
  case hy32 =>
    intro wX hSw
    try dsimp only at hSw
    go_simp
    first
    | done
    | (with_reducible rfl)
  try simp only [Act.put, List.setIfInBounds_toArray, List.set_cons_zero, List.set_cons_succ]
  refine take_at2 3 22 _ (v := ?v33) rfl rfl (by kernel_rfl) (by kernel_rfl) (by kernel_rfl) (fun _ _ _ h => h) (Or.inl ⟨by rfl, ?hy33⟩) (by assumption) ?rest33
  case hy33 =>
    intro wX hSw
    try dsimp only at hSw
    go_simp
    first
    | done
    | (with_reducible rfl)
  try simp only [Act.put, List.setIfInBounds_toArray, List.set_cons_zero, List.set_cons_succ]
  refine take_at2 4 23 _ (v := ?v34) rfl rfl (by kernel_rfl) (by kernel_rfl) (by kernel_rfl) (fun _ _ _ h => h) (Or.inl ⟨by rfl, ?hy34⟩) (by assumption) ?rest34
  case hy34 =>
    intro wX hSw
    try dsimp only at hSw
    go_simp
    first
    | done
    | (with_reducible rfl)
  try simp only [Act.put, List.setIfInBounds_toArray, List.set_cons_zero, List.set_cons_succ]
  refine take_at2 5 24 _ (v := ?v35) rfl rfl (by kernel_rfl) (by kernel_rfl) (by kernel_rfl) (fun _ _ _ h => h) (Or.inl ⟨by rfl, ?hy35⟩) (by assumption) ?rest35
  case hy35 =>
    intro wX hSw
    try dsimp only at hSw
    go_simp
    first
    | done
    | (with_reducible rfl)
  try simp only [Act.put, List.setIfInBounds_toArray, List.set_cons_zero, List.set_cons_succ]
  refine take_at2 7 26 _ (v := ?v37) rfl rfl (by kernel_rfl) (by kernel_rfl) (by kernel_rfl) (fun _ _ _ h => h) (Or.inl ⟨by rfl, ?hy37⟩) (by assumption) ?rest37
  case hy37 =>
    intro wX hSw
    try dsimp only at hSw
    go_simp
    first
    | done
    | (with_reducible rfl)
  try simp only [Act.put, List.setIfInBounds_toArray, List.set_cons_zero, List.set_cons_succ]
  refine take_at2 8 27 _ (v := ?v38) rfl rfl (by kernel_rfl) (by kernel_rfl) (by kernel_rfl) (fun _ _ _ h => h) (Or.inl ⟨by rfl, ?hy38⟩) (by assumption) ?rest38
  case hy38 =>
    intro wX hSw
    try dsimp only at hSw
    go_simp
    first
    | done
    | (with_reducible rfl)
  try simp only [Act.put, List.setIfInBounds_toArray, List.set_cons_zero, List.set_cons_succ]
  refine take_at2 9 28 _ (v := ?v39) rfl rfl (by kernel_rfl) (by kernel_rfl) (by kernel_rfl) (fun _ _ _ h => h) (Or.inl ⟨by rfl, ?hy39⟩) (by assumption) ?rest39
  case hy39 =>
    intro wX hSw
    try dsimp only at hSw
    go_simp
    first
    | done
    | (with_reducible rfl)
  try simp only [Act.put, List.setIfInBounds_toArray, List.set_cons_zero, List.set_cons_succ]
  refine take_at2 10 29 _ (v := ?v310) rfl rfl (by kernel_rfl) (by kernel_rfl) (by kernel_rfl) (fun _ _ _ h => h) (Or.inl ⟨by rfl, ?hy310⟩) (by assumption) ?rest310
  case hy310 =>
    intro wX hSw
    try dsimp only at hSw
    go_simp
    first
    | done
    | (with_reducible rfl)
  try simp only [Act.put, List.setIfInBounds_toArray, List.set_cons_zero, List.set_cons_succ]
  refine take_at2 11 30 _ (v := ?v311) rfl rfl (by kernel_rfl) (by kernel_rfl) (by kernel_rfl) (fun _ _ _ h => h) (Or.inl ⟨by rfl, ?hy311⟩) (by assumption) ?rest311
  case hy311 =>
    intro wX hSw
    try dsimp only at hSw
    go_simp
    first
    | done
    | (with_reducible rfl)
  try simp only [Act.put, List.setIfInBounds_toArray, List.set_cons_zero, List.set_cons_succ]
  refine wpAnyH_ready (rs := [0]) (by kernel_rfl) (by simp) ?_
  refine AllReadyH.cons rfl (fun K hK => ?_) AllReadyH.nil
  go_simp
  obtain ⟨w2, hw2⟩ : ∃ x, (w1.alloc (.cells #[] 3)).drew = x := ⟨_, rfl⟩
  have hb : Below w1.heap.size w1 w2 := by rw [← hw2]; exact ((Below.refl _ w1).alloc (Nat.le_refl _) _).drew
  rw [hw2]
  have HXn := Lib.hid (HX.out.below hb hb.size)
  clear HX
  have HX := HXn
  clear HXn
  have HYn := Lib.hid (HY.out.below hb hb.size)
  clear HY
  have HY := HYn
  clear HYn
  have HBn := Lib.hid (HB.out.trans (hb.mono HB.out.size))
  clear HB
  have HB := HBn
  clear HBn
  clear hb hw2

  try go_wp2_with fail
  refine hK.out _ _ ?_ (fun hHeld => ?_)
  · exact trivial
  clear hK K
  try simp only [Act.put, List.setIfInBounds_toArray, List.set_cons_zero, List.set_cons_succ]
  refine wpAnyH_ready (rs := [6]) (by kernel_rfl) (by simp) ?_
  refine AllReadyH.cons rfl (fun K hK => ?_) AllReadyH.nil
  refine li_app _ (by rfl) _ _ rfl _ [] X none rfl (Sq.seg_zero _ _) _ rfl HX.out (by simp; omega) ?_
  intro v25 w3 ob1 hs1 ht1 ho1
  have HS1 := Lib.hid hs1
  have HB1 := Lib.hid (below_turn (Below.refl _ _) ht1 (Nat.le_refl _))
  have HO1 := Lib.hid ho1
  have HY1 := Lib.hid (HY.out.below HB1.out HB1.out.size)
  clear hs1 ht1 ho1
  refine hK.out _ _ ?_ (fun hHeld => ?_)
  · exact trivial
  clear hK K
  try simp only [Act.put, List.setIfInBounds_toArray, List.set_cons_zero, List.set_cons_succ]
  refine wpAnyH_ready (rs := [12]) (by kernel_rfl) (by simp) ?_
  refine AllReadyH.cons rfl (fun K hK => ?_) AllReadyH.nil
  refine li_app _ (by rfl) _ _ rfl v25 ([] ++ X) Y ob1 rfl HS1.out _ rfl HY1.out (by simp; omega) ?_
  intro v31 w4 ob2 hs2 ht2 ho2
  have hb := ht2.below HB1.out (HB1.out.size) (fun g hg e => by
    rcases HO1.out with h | ⟨g', h, hg'⟩
    · rw [h] at e; cases e
    · rw [h] at e; injection e with e; omega)
  have HZ0 := Lib.hid (LI.of_seg hs2)
  rw [List.nil_append] at HZ0
  have HXn := Lib.hid (HX.out.below hb hb.size)
  clear HX
  have HX := HXn
  clear HXn
  have HYn := Lib.hid (HY.out.below hb hb.size)
  clear HY
  have HY := HYn
  clear HYn
  have HBn := Lib.hid (HB.out.trans (hb.mono HB.out.size))
  clear HB
  have HB := HBn
  clear HBn
  clear hb hs2 ht2 ho2 HS1 HB1 HO1 HY1
  refine hK.out _ _ ?_ (fun hHeld => ?_)
  · exact trivial
  clear hK K
  try simp only [Act.put, List.setIfInBounds_toArray, List.set_cons_zero, List.set_cons_succ]
  refine take_at2 13 7 _ (v := ?v313) rfl rfl (by kernel_rfl) (by kernel_rfl) (by kernel_rfl) (fun _ _ _ h => h) (Or.inl ⟨by rfl, ?hy313⟩) (by assumption) ?rest313
  case hy313 =>
    intro wX hSw
    try dsimp only at hSw
    go_simp
    first
    | done
    | (with_reducible rfl)
  try simp only [Act.put, List.setIfInBounds_toArray, List.set_cons_zero, List.set_cons_succ]
  refine wpAnyH_done (by kernel_rfl) ?_ _
  refine NoPanic.normal ?_
  obtain ⟨AZ, cZ, rfl, hz1, hz2, _⟩ := id HZ0.out
  obtain ⟨Z, hZ⟩ : ∃ Z, X ++ Y = Z := ⟨_, rfl⟩
  rw [hZ] at HZ0 hz1 ⊢
  have hZb : Z.length ≤ 18 := by rw [← hZ]; simp; omega
  obtain ⟨N, hN⟩ : ∃ N, Z.length = N := ⟨_, rfl⟩
  rw [hN] at HZ0 hz1 hZb ⊢
  have HN := Lib.hid hN
  have HZe := Lib.hid hZ
  clear hZ hN
  have HZ := HZ0
  clear HZ0
  go_upto_region 6 with fail
  obtain ⟨q, hq, hq15⟩ : ∃ q : Nat, bits .and .i64 k 15 = (q : Int) ∧ q ≤ 15 := ⟨(k % 16).toNat, by rw [and15]; omega, by omega⟩
  rw [hq]
  clear hq
  obtain ⟨La, hLa⟩ : ∃ x, w4.heap.size + 1 + 1 + 1 = x := ⟨_, rfl⟩
  rw [hLa]
  obtain ⟨Lb, hLb⟩ : ∃ x, La + 1 = x := ⟨_, rfl⟩
  rw [hLb]
  obtain ⟨Lc, hLc⟩ : ∃ x, Lb + 1 = x := ⟨_, rfl⟩
  rw [hLc]
  obtain ⟨Lk, hLk⟩ : ∃ x, Lc + 1 = x := ⟨_, rfl⟩
  rw [hLk]
  obtain ⟨Aa, hAa⟩ : ∃ x, some (⟨w4.heap.size, 0, none⟩ : Addr) = x := ⟨_, rfl⟩
  obtain ⟨Ab, hAb⟩ : ∃ x, some (⟨w4.heap.size + 1, 0, none⟩ : Addr) = x := ⟨_, rfl⟩
  obtain ⟨Ac, hAc⟩ : ∃ x, some (⟨w4.heap.size + 1 + 1, 0, none⟩ : Addr) = x := ⟨_, rfl⟩
  rw [hAa, hAb, hAc]
  obtain ⟨w5, hw5⟩ : ∃ x, ((((((w4.alloc (.cells #[] 3)).alloc (.cells #[] 3)).alloc (.cells #[] 3)).alloc (.cells #[.slice Aa 0 0] 22)).alloc (.cells #[.slice Ab 0 0] 22)).alloc (.cells #[.slice Ac 0 0] 22)).alloc (.cells #[.int .i64 q] 3) = x := ⟨_, rfl⟩
  have hb : Below w4.heap.size w4 w5 := by rw [← hw5]; exact (((((((Below.refl _ w4).alloc (Nat.le_refl _) _).alloc (by simp) _).alloc (by simp; omega) _).alloc (by simp; omega) _).alloc (by simp; omega) _).alloc (by simp; omega) _).alloc (by simp; omega) _
  have hz5 : w5.heap.size = Lk + 1 := by rw [← hw5]; simp; omega
  have HRa : Hid (Row w5 La 22 #[.slice Aa 0 0]) := Lib.hid (by rw [← hw5, ← hLa]; have := (((Row.made (((w4.alloc (.cells #[] 3)).alloc (.cells #[] 3)).alloc (.cells #[] 3)) 22 #[.slice Aa 0 0]).alloc (.cells #[.slice Ab 0 0] 22)).alloc (.cells #[.slice Ac 0 0] 22)).alloc (.cells #[.int .i64 q] 3); simpa using this)
  have HRb : Hid (Row w5 Lb 22 #[.slice Ab 0 0]) := Lib.hid (by rw [← hw5, ← hLb, ← hLa]; have := ((Row.made ((((w4.alloc (.cells #[] 3)).alloc (.cells #[] 3)).alloc (.cells #[] 3)).alloc (.cells #[.slice Aa 0 0] 22)) 22 #[.slice Ab 0 0]).alloc (.cells #[.slice Ac 0 0] 22)).alloc (.cells #[.int .i64 q] 3); simpa using this)
  have HRc : Hid (Row w5 Lc 22 #[.slice Ac 0 0]) := Lib.hid (by rw [← hw5, ← hLc, ← hLb, ← hLa]; have := (Row.made (((((w4.alloc (.cells #[] 3)).alloc (.cells #[] 3)).alloc (.cells #[] 3)).alloc (.cells #[.slice Aa 0 0] 22)).alloc (.cells #[.slice Ab 0 0] 22)) 22 #[.slice Ac 0 0]).alloc (.cells #[.int .i64 q] 3); simpa using this)
  have HRk : Hid (Row w5 Lk 3 #[.int .i64 q]) := Lib.hid (by rw [← hw5, ← hLk, ← hLc, ← hLb, ← hLa]; have := Row.made ((((((w4.alloc (.cells #[] 3)).alloc (.cells #[] 3)).alloc (.cells #[] 3)).alloc (.cells #[.slice Aa 0 0] 22)).alloc (.cells #[.slice Ab 0 0] 22)).alloc (.cells #[.slice Ac 0 0] 22)) 3 #[.int .i64 q]; simpa using this)
  rw [hw5]
  have hLaw : w.heap.size ≤ La := by have := HB.out.size; omega
  have hLa4 : w4.heap.size ≤ La := by omega
  have HX4 := HX
  have HY4 := HY
  have HZ4 := HZ
  have HW4 := Lib.hid HB.out
  have HB4 := Lib.hid hb
  have HXn := Lib.hid (HX.out.below hb hb.size)
  clear HX
  have HX := HXn
  clear HXn
  have HYn := Lib.hid (HY.out.below hb hb.size)
  clear HY
  have HY := HYn
  clear HYn
  have HZn := Lib.hid (HZ.out.below hb hb.size)
  clear HZ
  have HZ := HZn
  clear HZn
  have HBn := Lib.hid (HB.out.trans (hb.mono HB.out.size))
  clear HB
  have HB := HBn
  clear HBn
  clear hb hw5 hAa hAb hAc hLa
  have HB5 := Lib.hid (Below.refl w5.heap.size w5)
  have hb : Below w5.heap.size w5 w5.drew := (Below.refl _ w5).drew
  have HXn := Lib.hid (HX.out.below hb hb.size)
  clear HX
  have HX := HXn
  clear HXn
  have HYn := Lib.hid (HY.out.below hb hb.size)
  clear HY
  have HY := HYn
  clear HYn
  have HZn := Lib.hid (HZ.out.below hb hb.size)
  clear HZ
  have HZ := HZn
  clear HZn
  have HBn := Lib.hid (HB.out.trans (hb.mono HB.out.size))
  clear HB
  have HB := HBn
  clear HBn
  have HB5n := Lib.hid (HB5.out.trans (hb.mono HB5.out.size))
  clear HB5
  have HB5 := HB5n
  clear HB5n
  clear hb
  refine wp_region_noPanic ?_
  refine wp_region_held_drew (S := (fun _ => True)) (by kernel_rfl) ?_ (fun hHeld => ?_)
  · exact trivial
  refine take_at2 0 37 _ (v := ?v60) rfl rfl (by kernel_rfl) (by kernel_rfl) (by kernel_rfl) (fun _ _ _ h => h) (Or.inl ⟨by rfl, ?hy60⟩) (by assumption) ?rest60
  case hy60 =>
    intro wX hSw
    try dsimp only at hSw
    go_simp
    first
    | done
    | (with_reducible rfl)
  try simp only [Act.put, List.setIfInBounds_toArray, List.set_cons_zero, List.set_cons_succ]
  refine take_at2 1 38 _ (v := ?v61) rfl rfl (by kernel_rfl) (by kernel_rfl) (by kernel_rfl) (fun _ _ _ h => h) (Or.inl ⟨by rfl, ?hy61⟩) (by assumption) ?rest61
  case hy61 =>
    intro wX hSw
    try dsimp only at hSw
    go_simp
    first
    | done
    | (with_reducible rfl)
  try simp only [Act.put, List.setIfInBounds_toArray, List.set_cons_zero, List.set_cons_succ]
  refine take_at2 2 39 _ (v := ?v62) rfl rfl (by kernel_rfl) (by kernel_rfl) (by kernel_rfl) (fun _ _ _ h => h) (Or.inl ⟨by rfl, ?hy62⟩) (by assumption) ?rest62
  case hy62 =>
    intro wX hSw
    try dsimp only at hSw
    go_simp
    first
    | done
    | (with_reducible rfl)
  try simp only [Act.put, List.setIfInBounds_toArray, List.set_cons_zero, List.set_cons_succ]
  refine take_at2 3 40 _ (v := ?v63) rfl rfl (by kernel_rfl) (by kernel_rfl) (by kernel_rfl) (fun _ _ _ h => h) (Or.inl ⟨by rfl, ?hy63⟩) (by assumption) ?rest63
  case hy63 =>
    intro wX hSw
    try dsimp only at hSw
    go_simp
    first
    | done
    | (with_reducible rfl)
  try simp only [Act.put, List.setIfInBounds_toArray, List.set_cons_zero, List.set_cons_succ]
  refine take_at2 4 41 _ (v := ?v64) rfl rfl (by kernel_rfl) (by kernel_rfl) (by kernel_rfl) (fun _ _ _ h => h) (Or.inl ⟨by rfl, ?hy64⟩) (by assumption) ?rest64
  case hy64 =>
    intro wX hSw
    try dsimp only at hSw
    go_simp
    first
    | done
    | (with_reducible rfl)
  try simp only [Act.put, List.setIfInBounds_toArray, List.set_cons_zero, List.set_cons_succ]
  refine take_at2 6 43 _ (v := ?v66) rfl rfl (by kernel_rfl) (by kernel_rfl) (by kernel_rfl) (fun _ _ _ h => h) (Or.inl ⟨by rfl, ?hy66⟩) (by assumption) ?rest66
  case hy66 =>
    intro wX hSw
    try dsimp only at hSw
    go_simp
    first
    | done
    | (with_reducible rfl)
  try simp only [Act.put, List.setIfInBounds_toArray, List.set_cons_zero, List.set_cons_succ]
  refine take_at2 7 44 _ (v := ?v67) rfl rfl (by kernel_rfl) (by kernel_rfl) (by kernel_rfl) (fun _ _ _ h => h) (Or.inl ⟨by rfl, ?hy67⟩) (by assumption) ?rest67
  case hy67 =>
    intro wX hSw
    try dsimp only at hSw
    go_simp
    first
    | done
    | (with_reducible rfl)
  try simp only [Act.put, List.setIfInBounds_toArray, List.set_cons_zero, List.set_cons_succ]
  refine take_at2 8 45 _ (v := ?v68) rfl rfl (by kernel_rfl) (by kernel_rfl) (by kernel_rfl) (fun _ _ _ h => h) (Or.inl ⟨by rfl, ?hy68⟩) (by assumption) ?rest68
  case hy68 =>
    intro wX hSw
    try dsimp only at hSw
    go_simp
    first
    | done
    | (with_reducible rfl)
  try simp only [Act.put, List.setIfInBounds_toArray, List.set_cons_zero, List.set_cons_succ]
  refine take_at2 9 46 _ (v := ?v69) rfl rfl (by kernel_rfl) (by kernel_rfl) (by kernel_rfl) (fun _ _ _ h => h) (Or.inl ⟨by rfl, ?hy69⟩) (by assumption) ?rest69
  case hy69 =>
    intro wX hSw
    try dsimp only at hSw
    go_simp
    first
    | done
    | (with_reducible rfl)
  try simp only [Act.put, List.setIfInBounds_toArray, List.set_cons_zero, List.set_cons_succ]
  refine take_at2 10 47 _ (v := ?v610) rfl rfl (by kernel_rfl) (by kernel_rfl) (by kernel_rfl) (fun _ _ _ h => h) (Or.inl ⟨by rfl, ?hy610⟩) (by assumption) ?rest610
  case hy610 =>
    intro wX hSw
    try dsimp only at hSw
    go_simp
    first
    | done
    | (with_reducible rfl)
  try simp only [Act.put, List.setIfInBounds_toArray, List.set_cons_zero, List.set_cons_succ]
  refine wpAnyH_ready (rs := [5]) (by kernel_rfl) (by simp) ?_
  refine AllReadyH.cons rfl (fun K hK => ?_) AllReadyH.nil
  go_simp
  go_at_call 11
  have HB5s := Lib.hid HB5.out.size
  refine (of_b X _ _ HX.out (by omega)).mono ?_
  rintro e w6 ⟨f42, rfl, hit, hb⟩
  have HXn := Lib.hid (HX.out.below hb hb.size)
  clear HX
  have HX := HXn
  clear HXn
  have HYn := Lib.hid (HY.out.below hb hb.size)
  clear HY
  have HY := HYn
  clear HYn
  have HZn := Lib.hid (HZ.out.below hb hb.size)
  clear HZ
  have HZ := HZn
  clear HZn
  have HBn := Lib.hid (HB.out.trans (hb.mono HB.out.size))
  clear HB
  have HB := HBn
  clear HBn
  have HB5n := Lib.hid (HB5.out.trans (hb.mono HB5.out.size))
  clear HB5
  have HB5 := HB5n
  clear HB5n
  have HF := Lib.hid (hit.lower HB5s.out)
  clear hit
  clear hb

  try go_wp2_with fail
  refine hK.out _ _ ?_ (fun hHeld => ?_)
  · exact trivial
  clear hK K
  try simp only [Act.put, List.setIfInBounds_toArray, List.set_cons_zero, List.set_cons_succ]
  refine wpAnyH_ready (rs := [11]) (by kernel_rfl) (by simp) ?_
  refine AllReadyH.cons rfl (fun K hK => ?_) AllReadyH.nil
  go_simp
  go_at_call 11
  have HB5s := Lib.hid HB5.out.size
  refine (of_b Y _ _ HY.out (by omega)).mono ?_
  rintro e w7 ⟨f48, rfl, hit, hb⟩
  have HXn := Lib.hid (HX.out.below hb hb.size)
  clear HX
  have HX := HXn
  clear HXn
  have HYn := Lib.hid (HY.out.below hb hb.size)
  clear HY
  have HY := HYn
  clear HYn
  have HZn := Lib.hid (HZ.out.below hb hb.size)
  clear HZ
  have HZ := HZn
  clear HZn
  have HBn := Lib.hid (HB.out.trans (hb.mono HB.out.size))
  clear HB
  have HB := HBn
  clear HBn
  have HB5n := Lib.hid (HB5.out.trans (hb.mono HB5.out.size))
  clear HB5
  have HB5 := HB5n
  clear HB5n
  have HF2 := Lib.hid (hit.lower HB5s.out)
  have HFn := Lib.hid (HF.out.below hb)
  clear hit HF
  have HF := HFn
  clear HFn
  clear hb

  try go_wp2_with fail
  refine hK.out _ _ ?_ (fun hHeld => ?_)
  · exact trivial
  clear hK K
  try simp only [Act.put, List.setIfInBounds_toArray, List.set_cons_zero, List.set_cons_succ]
  refine wpAnyH_ready (rs := [12]) (by kernel_rfl) (by simp) ?_
  refine AllReadyH.cons rfl (fun K hK => ?_) AllReadyH.nil
  go_simp
  go_at_call 13
  refine (both_v f42 f48 X Y 1 w5.heap.size _ HB5.out.size HF.out HF2.out).mono ?_
  rintro e w8 ⟨f49, rfl, hit, hb⟩
  have HXn := Lib.hid (HX.out.below hb hb.size)
  clear HX
  have HX := HXn
  clear HXn
  have HYn := Lib.hid (HY.out.below hb hb.size)
  clear HY
  have HY := HYn
  clear HYn
  have HZn := Lib.hid (HZ.out.below hb hb.size)
  clear HZ
  have HZ := HZn
  clear HZn
  have HBn := Lib.hid (HB.out.trans (hb.mono HB.out.size))
  clear HB
  have HB := HBn
  clear HBn
  have HB5n := Lib.hid (HB5.out.trans (hb.mono HB5.out.size))
  clear HB5
  have HB5 := HB5n
  clear HB5n
  have HV := Lib.hid hit
  clear hit HF HF2
  clear hb

  try go_wp2_with fail
  refine hK.out _ _ ?_ (fun hHeld => ?_)
  · exact trivial
  clear hK K
  try simp only [Act.put, List.setIfInBounds_toArray, List.set_cons_zero, List.set_cons_succ]
  refine wpAnyH_done (by kernel_rfl) ?_ _
  refine NoPanic.normal ?_
  go_wp2_with fail
  have HB45 := Lib.hid HB4.out.size
  have HB48 := Lib.hid (HB4.out.trans (HB5.out.mono HB4.out.size))
  have hz8 : w5.heap.size ≤ w8.heap.size := HB5.out.size
  have hL1 : La < Lb := by omega
  have hL2 : Lb < Lc := by omega
  have hL3 : Lc < Lk := by omega
  have hLw4 : Hid (w4.heap.size ≤ La) := Lib.hid hLa4
  have HRa8 := Lib.hid ((HB5.out.block La (by omega)).trans HRa.out)
  have HRb8 := Lib.hid ((HB5.out.block Lb (by omega)).trans HRb.out)
  have HRc8 := Lib.hid ((HB5.out.block Lc (by omega)).trans HRc.out)
  have HRk8 := Lib.hid ((HB5.out.block Lk (by omega)).trans HRk.out)
  have HB4V := HB48
  have HRkV := HRk8
  have HLw := hLw4
  have HVB : Hid (Lk < w5.heap.size) := Lib.hid (by omega)
  obtain ⟨gs1, lb1, P1, rfl, hPc1, hPl1, eg1, hT1⟩ := HV.out
  have HT1 := Lib.hid (hT1 59 (by omega))
  have HPc := Lib.hid hPc1
  have HPl := Lib.hid (fun k hk => show Lk < k by have := hPl1 k hk; have := HVB.out; omega)
  obtain ⟨PP, hPP⟩ : ∃ PP : Own, PP = fun j => j = Lb ∨ j = Lc ∨ j = Lk := ⟨_, rfl⟩
  have HPP := Lib.hid (fun j => show PP j ↔ (j = Lb ∨ j = Lc ∨ j = Lk) by rw [hPP])
  clear hPP hPc1 hPl1 hT1 HV
  have HCP : Hid (Cells PP w8) := Lib.hid (fun j hj => by
    rcases (HPP.out j).1 hj with e | e | e
    · subst e; exact ⟨_, _, HRb8.out⟩
    · subst e; exact ⟨_, _, HRc8.out⟩
    · subst e; exact ⟨_, _, HRkV.out⟩)
  have HPk : Hid (PP Lk) := Lib.hid ((HPP.out _).2 (.inr (.inr rfl)))
  have HPPl : Hid (∀ k, PP k → k < w8.heap.size ∧ k ≠ La) := Lib.hid (fun k hk => by
    rcases (HPP.out k).1 hk with e | e | e <;> omega)
  have HDs : Hid (∀ D ∈ ([] : List Nat), D < w8.heap.size) := Lib.hid (by simp)
  have HDl : Hid (∀ D ∈ ([] : List Nat), Lk < D) := Lib.hid (by simp)
  have HD0 : Hid (Dfs [] (fun _ => False) w8) := Lib.hid (fun D h => by cases h)
  obtain ⟨I, hI⟩ : ∃ I : Own → List Int → World → Prop, I = fun O pre X => (pre.length ≤ q ∧ (((∃ v ob, Lo w4 La w8.heap.size O X (pre.take q) v ob) ∧ KeepO PP w8 O X) ∧ Dfs [] O X)) := ⟨_, rfl⟩
  obtain ⟨Ix, hIx⟩ : ∃ I : Own → List Int → World → Prop, I = fun O pre X => (q ≤ pre.length ∧ (((∃ v ob, Lo w4 La w8.heap.size O X (pre.take q) v ob) ∧ KeepO PP w8 O X) ∧ Dfs [] O X)) := ⟨_, rfl⟩
  have HIE := Lib.hid (fun O pre X => show I O pre X ↔ (pre.length ≤ q ∧ (((∃ v ob, Lo w4 La w8.heap.size O X (pre.take q) v ob) ∧ KeepO PP w8 O X) ∧ Dfs [] O X)) by rw [hI])
  have HXE := Lib.hid (fun O pre X => show Ix O pre X ↔ (q ≤ pre.length ∧ (((∃ v ob, Lo w4 La w8.heap.size O X (pre.take q) v ob) ∧ KeepO PP w8 O X) ∧ Dfs [] O X)) by rw [hIx])
  have HSI : Hid (Stb w8.heap.size I) := Lib.hid (by
    rw [hI]; exact ((((lo_stb w4 La w8.heap.size w8.heap.size hLw4.out (by have := HB4V.out.size; omega)).at (fun pre : List Int => pre.take q)).keep HCP.out).defs [] HDs.out).pure (fun pre => pre.length ≤ q))
  have HSX : Hid (Stb w8.heap.size Ix) := Lib.hid (by
    rw [hIx]; exact ((((lo_stb w4 La w8.heap.size w8.heap.size hLw4.out (by have := HB4V.out.size; omega)).at (fun pre : List Int => pre.take q)).keep HCP.out).defs [] HDs.out).pure (fun pre => q ≤ pre.length))
  have HI0 : Hid (I (fun _ => False) [] w8) := Lib.hid (by
    rw [hI]; exact ⟨Nat.zero_le _, ⟨⟨_, none, HRa8.out, by simpa using Sq.seg_zero w8 Aa, (fun _ e => by cases e), (fun _ e => e.elim), (fun _ e => e.elim), HB4V.out⟩, Hold.refl _ _, fun _ _ e => e⟩, HD0.out⟩)
  clear hI hIx HD0
  refine (wpIn_wide (n := 60)).1 ?_
  refine wpIn_rangeTel_br (n := 60) (d := 5) hro (by omega) (gf := gs1) (lb := lb1) rfl trivial eg1 HT1.out (Hold.refl _ _) (fun _ => rfl) 0 (fun a W h => h) I Ix HSI.out HSX.out HI0.out ?round1 ?rest1
  case round1 =>
    intro l O pre x X0 hl hI hnx hsz
    rw [put1]
    simp only [List.setIfInBounds_toArray, List.set_cons_succ, List.set_cons_zero]
    gi_wp2
    refine ⟨(KeepsOthers.refl _).from _, Kq.refl _ _ _ _, fun o o' ho hlo => ?_⟩
    have HIZ := Lib.hid ((HIE.out _ _ _).1 (HSI.out.put o' hI hl hlo ho))
    have hs1 : w8.heap.size + 2 ≤ (X0.putObj l o').heap.size := by simpa using hsz
    clear hI hlo hsz
    generalize X0.putObj l o' = Z0 at HIZ hs1 ⊢
    obtain ⟨hpq, ⟨⟨v, ob, hL⟩, hKO⟩, hDF⟩ := HIZ.out
    rw [List.take_of_length_le (by simpa using hpq)] at hL
    obtain ⟨np, hnp⟩ : ∃ np, pre.length = np := ⟨_, rfl⟩
    have hpl : pre.length = np := hnp
    have hfm := hL.seg.form
    rw [hnp] at hfm
    obtain ⟨Av, cv, rfl, hcv, hcm⟩ := hfm
    have l0 : Z0.cell? ⟨La, 0, none⟩ = some (.slice Av np cv) := (hL.row.cell 0).trans rfl
    have lk : Z0.cell? ⟨Lk, 0, none⟩ = some (.int .i64 q) := ((hKO.1.row HPk.out HRkV.out).cell 0).trans rfl
    have hsg := hL.seg.alloc (.cells #[.int .i64 x] 3)
    rw [hnp] at hsg
    have HSG := Lib.hid hsg
    have HL := Lib.hid hL
    have HKO := Lib.hid hKO
    have HDF := Lib.hid hDF
    have HNP := Lib.hid hnp
    have HPL := Lib.hid hpl
    have hpn : np ≤ q := by omega
    obtain ⟨i0, hi0, hz0, hz1, hz2⟩ := info_parts int_info
    clear hL hKO hcv hcm HIZ hpq hDF hnp hpl hsg
    by_cases hq2 : q ≤ np
    · gi_wp2
      refine ⟨(KeepsOthers.refl _).from _, Kq.refl _ _ _ _, rfl, (HXE.out _ _ _).2 ⟨by have := HPL.out; simp; omega, ⟨⟨.slice Av np cv, ob, ?_⟩, HKO.out⟩, HDF.out⟩⟩
      have e : (pre ++ [x]).take q = pre := by
        have h1 := HNP.out
        
        rw [List.take_append_of_le_length (by omega), List.take_of_length_le (by omega)]
      rw [e]
      exact HL.out
    · gi_wp2_with (gi_at_builtin; refine wpListIn_append_seg _ rfl _ _ 22 rfl 3 i0 _ 1 8 Try.underlying22 hi0 hz0 hz1 hz2 rfl (by decide) _ np (ints pre) ob rfl HSG.out ⟨Z0.heap.size, 0, none⟩ 1 1 [.int .i64 x] rfl rfl (news_row (Row.made Z0 _ _)) (by simp [Value.oneCell']) (by decide) (by unfold maxLen; omega) (by omega) ?_; intro v2 z5 ob2 hs2 ht2 ho2; have r5 := (Row.alloc HL.out.row (.cells #[.int .i64 x] 3)).turns ht2 (fun e => by have := (HL.out.own La e).1; omega); obtain ⟨A2, cap2, rfl, hn5, hm5⟩ := hs2.form; have f0 := (r5.cell 0).trans rfl; have f1 := r5.free 0; go_frame)
      rw [← HNP.out] at hs2
      obtain ⟨p1, p2, p3, p4⟩ := lo_push HL.out HLw.out (by omega) (by omega) hs2 ht2 ho2
      rw [HNP.out] at p1 p2 p3 p4
      refine ⟨p2 _, p3 _ (fun k hk => ⟨HPc.out.lt hk, by have := HPl.out k hk; omega⟩) _, (HIE.out _ _ _).2 ⟨by have := HPL.out; simp; omega, ⟨⟨.slice A2 (np + 1) cap2, ob2, ?_⟩, HKO.out.1.kq (p3 PP (fun k hk => HPPl.out k hk) 0), HKO.out.2⟩, fun D hd => ⟨p4 D _ (HDs.out D hd) (by have := HDl.out D hd; omega) (HDF.out D hd).1, (HDF.out D hd).2⟩⟩⟩
      have e : (pre ++ [x]).take q = pre ++ [x] := by
        have h1 := HNP.out
        
        rw [List.take_of_length_le (by simp at h1 ⊢; omega)]
        
      rw [e]
      exact p1
  intro D1 O1 xs w9 hD hO hS hK
  have hfin : ((∃ v ob, Lo w4 La w8.heap.size O1 w9 ((X ++ Y).take q) v ob) ∧ KeepO PP w8 O1 w9) ∧ Dfs [] O1 w9 := by
    rcases hS with ⟨hS, hI⟩ | ⟨hS, hI⟩
    · have e : xs = (X ++ Y) := hS
      subst e
      exact ((HIE.out _ _ _).1 hI).2
    · obtain ⟨hq, h⟩ := (HXE.out _ _ _).1 hI
      obtain ⟨t, ht⟩ := (show xs <+: (X ++ Y) from hS)
      rw [← ht, List.take_append_of_le_length hq]
      exact h
  have HK1 := Lib.hid hK
  have HFIN1 := Lib.hid hfin
  have HD1 := Lib.hid hD
  have HPP1 := HPP
  clear hfin hK hS hD hO HIE HXE HSI HSX HI0 HCP HPPl HPc HPl HT1
  dsimp only [Exit.inBlock, Exit.then]
  rw [HZe.out] at HFIN1
  obtain ⟨⟨⟨v1, ob1, hL1⟩, hKO1⟩, _⟩ := HFIN1.out
  have HLo1 := Lib.hid hL1
  have HZ := Lib.hid (HZ4.out.below hL1.be hL1.be.size)
  have HRa9 := Lib.hid hL1.row
  have HSa9 := Lib.hid hL1.seg
  have HOa := Lib.hid (fun g e => show Lk < g by have := (hL1.own g e).1; omega)
  have HRb9 := Lib.hid (hKO1.1.row ((HPP1.out _).2 (.inl rfl)) HRb8.out)
  have HRc9 := Lib.hid (hKO1.1.row ((HPP1.out _).2 (.inr (.inl rfl))) HRc8.out)
  have HRk9 := Lib.hid (hKO1.1.row ((HPP1.out _).2 (.inr (.inr rfl))) HRk8.out)
  have HB49 := Lib.hid hL1.be
  have h89 : w8.heap.size ≤ w9.heap.size := hKO1.1.1
  have HB9k : Hid (Lk < w9.heap.size) := Lib.hid (by have := hKO1.1.1; omega)
  clear hL1 hKO1
  have HB := Lib.hid (HW4.out.trans (HB49.out.mono HW4.out.size))
  have HB5 := Lib.hid (Below.refl w9.heap.size w9)
  go_upto_region 10 with fail
  go_wp2_with fail
  refine (of_b Z _ _ HZ.out (by rw [HN.out]; omega)).mono ?_
  rintro e w10 ⟨f60, rfl, hit, hb⟩
  have HZn := Lib.hid (HZ.out.below hb hb.size)
  clear HZ
  have HZ := HZn
  clear HZn
  have HBn := Lib.hid (HB.out.trans (hb.mono HB.out.size))
  clear HB
  have HB := HBn
  clear HBn
  have HB5n := Lib.hid (HB5.out.trans (hb.mono HB5.out.size))
  clear HB5
  have HB5 := HB5n
  clear HB5n
  have HF := Lib.hid hit
  clear hit
  clear hb
  go_wp2_with fail
  refine (skip_v f60 Z 1 w9.heap.size 2 _ (by rw [HN.out]; omega) HB5.out.size HF.out).mono ?_
  rintro e w11 ⟨f61, rfl, hit, hb⟩
  have HZn := Lib.hid (HZ.out.below hb hb.size)
  clear HZ
  have HZ := HZn
  clear HZn
  have HBn := Lib.hid (HB.out.trans (hb.mono HB.out.size))
  clear HB
  have HB := HBn
  clear HBn
  have HB5n := Lib.hid (HB5.out.trans (hb.mono HB5.out.size))
  clear HB5
  have HB5 := HB5n
  clear HB5n
  have HV := Lib.hid hit
  clear hit HF
  clear hb
  have HB4V := Lib.hid (HB49.out.trans (HB5.out.mono HB49.out.size))
  have hz11 : w9.heap.size ≤ w11.heap.size := HB5.out.size
  have HRaV := Lib.hid ((HB5.out.block La HRa9.out.lt).trans HRa9.out)
  have HRbV := Lib.hid ((HB5.out.block Lb HRb9.out.lt).trans HRb9.out)
  have HRcV := Lib.hid ((HB5.out.block Lc HRc9.out.lt).trans HRc9.out)
  have HRkV := Lib.hid ((HB5.out.block Lk HRk9.out.lt).trans HRk9.out)
  have HSaV := Lib.hid (HSa9.out.keep fun g hg => HB5.out.block g (HSa9.out.lt g hg))
  have HK1V := Lib.hid ((HB5.out.block D1 (Array.getElem?_eq_some_iff.1 HK1.out).1).trans HK1.out)
  have HK1V0 := HK1V
  have hVk : Lk < w11.heap.size := by have := HB9k.out; omega
  have HVB := HB9k
  have HLw : Hid (w4.heap.size ≤ Lb) := Lib.hid (by omega)
  have hLw4 : Hid (w4.heap.size ≤ Lb) := HLw
  go_wp2_with fail
  obtain ⟨gs1, lb1, P1, rfl, hPc1, hPl1, eg1, hT1⟩ := HV.out
  have HT1 := Lib.hid (hT1 59 (by omega))
  have HPc := Lib.hid hPc1
  have HPl := Lib.hid (fun k hk => show Lk < k by have := hPl1 k hk; have := HVB.out; omega)
  obtain ⟨PP, hPP⟩ : ∃ PP : Own, PP = fun j => (j = La ∨ ob1 = some j) ∨ j = Lc ∨ j = Lk := ⟨_, rfl⟩
  have HPP := Lib.hid (fun j => show PP j ↔ ((j = La ∨ ob1 = some j) ∨ j = Lc ∨ j = Lk) by rw [hPP])
  clear hPP hPc1 hPl1 hT1 HV
  have HCP : Hid (Cells PP w11) := Lib.hid (fun j hj => by
    rcases (HPP.out j).1 hj with (e | e) | e | e
    · subst e; exact ⟨_, _, HRaV.out⟩
    · have hs := HSaV.out
      rw [e] at hs
      obtain ⟨c, hr⟩ := seg_row hs
      exact ⟨_, _, hr⟩
    · subst e; exact ⟨_, _, HRcV.out⟩
    · subst e; exact ⟨_, _, HRkV.out⟩)
  have HPk : Hid (PP Lk) := Lib.hid ((HPP.out _).2 (.inr (.inr rfl)))
  have HPPl : Hid (∀ k, PP k → k < w11.heap.size ∧ k ≠ Lb) := Lib.hid (fun k hk => by
    rcases (HPP.out k).1 hk with (e | e) | e | e
    · omega
    · have h1 := HSaV.out.lt k e; have h2 := HOa.out k e; omega
    · omega
    · omega)
  have HDs : Hid (∀ D ∈ [D1], D < w11.heap.size) := Lib.hid (fun D h => by simp at h; subst h; exact (Array.getElem?_eq_some_iff.1 HK1V.out).1)
  have HDl : Hid (∀ D ∈ [D1], Lk < D) := Lib.hid (fun D h => by simp at h; subst h; have := HD1.out; omega)
  have HD0 : Hid (Dfs [D1] (fun _ => False) w11) := Lib.hid (fun D h => by simp at h; subst h; exact ⟨HK1V.out, id⟩)
  obtain ⟨I, hI⟩ : ∃ I : Own → List Int → World → Prop, I = fun O pre X => (pre.length ≤ q ∧ (((∃ v ob, Lo w4 Lb w11.heap.size O X (pre.take q) v ob) ∧ KeepO PP w11 O X) ∧ Dfs [D1] O X)) := ⟨_, rfl⟩
  obtain ⟨Ix, hIx⟩ : ∃ I : Own → List Int → World → Prop, I = fun O pre X => (q ≤ pre.length ∧ (((∃ v ob, Lo w4 Lb w11.heap.size O X (pre.take q) v ob) ∧ KeepO PP w11 O X) ∧ Dfs [D1] O X)) := ⟨_, rfl⟩
  have HIE := Lib.hid (fun O pre X => show I O pre X ↔ (pre.length ≤ q ∧ (((∃ v ob, Lo w4 Lb w11.heap.size O X (pre.take q) v ob) ∧ KeepO PP w11 O X) ∧ Dfs [D1] O X)) by rw [hI])
  have HXE := Lib.hid (fun O pre X => show Ix O pre X ↔ (q ≤ pre.length ∧ (((∃ v ob, Lo w4 Lb w11.heap.size O X (pre.take q) v ob) ∧ KeepO PP w11 O X) ∧ Dfs [D1] O X)) by rw [hIx])
  have HSI : Hid (Stb w11.heap.size I) := Lib.hid (by
    rw [hI]; exact ((((lo_stb w4 Lb w11.heap.size w11.heap.size hLw4.out (by have := HB4V.out.size; omega)).at (fun pre : List Int => pre.take q)).keep HCP.out).defs [D1] HDs.out).pure (fun pre => pre.length ≤ q))
  have HSX : Hid (Stb w11.heap.size Ix) := Lib.hid (by
    rw [hIx]; exact ((((lo_stb w4 Lb w11.heap.size w11.heap.size hLw4.out (by have := HB4V.out.size; omega)).at (fun pre : List Int => pre.take q)).keep HCP.out).defs [D1] HDs.out).pure (fun pre => q ≤ pre.length))
  have HI0 : Hid (I (fun _ => False) [] w11) := Lib.hid (by
    rw [hI]; exact ⟨Nat.zero_le _, ⟨⟨_, none, HRbV.out, by simpa using Sq.seg_zero w11 Ab, (fun _ e => by cases e), (fun _ e => e.elim), (fun _ e => e.elim), HB4V.out⟩, Hold.refl _ _, fun _ _ e => e⟩, HD0.out⟩)
  clear hI hIx HD0
  refine (wpIn_wide (n := 60)).1 ?_
  refine wpIn_rangeTel_br (n := 60) (d := 5) hro (by omega) (gf := gs1) (lb := lb1) rfl trivial eg1 HT1.out (Hold.refl _ _) (fun _ => rfl) 2 (fun a W h => h) I Ix HSI.out HSX.out HI0.out ?round2 ?rest2
  case round2 =>
    intro l O pre x X0 hl hI hnx hsz
    rw [put1]
    simp only [List.setIfInBounds_toArray, List.set_cons_succ, List.set_cons_zero]
    gi_wp2
    refine ⟨(KeepsOthers.refl _).from _, Kq.refl _ _ _ _, fun o o' ho hlo => ?_⟩
    have HIZ := Lib.hid ((HIE.out _ _ _).1 (HSI.out.put o' hI hl hlo ho))
    have hs1 : w11.heap.size + 2 ≤ (X0.putObj l o').heap.size := by simpa using hsz
    clear hI hlo hsz
    generalize X0.putObj l o' = Z0 at HIZ hs1 ⊢
    obtain ⟨hpq, ⟨⟨v, ob, hL⟩, hKO⟩, hDF⟩ := HIZ.out
    rw [List.take_of_length_le (by simpa using hpq)] at hL
    obtain ⟨np, hnp⟩ : ∃ np, pre.length = np := ⟨_, rfl⟩
    have hpl : pre.length = np := hnp
    have hfm := hL.seg.form
    rw [hnp] at hfm
    obtain ⟨Av, cv, rfl, hcv, hcm⟩ := hfm
    have l0 : Z0.cell? ⟨Lb, 0, none⟩ = some (.slice Av np cv) := (hL.row.cell 0).trans rfl
    have lk : Z0.cell? ⟨Lk, 0, none⟩ = some (.int .i64 q) := ((hKO.1.row HPk.out HRkV.out).cell 0).trans rfl
    have hsg := hL.seg.alloc (.cells #[.int .i64 x] 3)
    rw [hnp] at hsg
    have HSG := Lib.hid hsg
    have HL := Lib.hid hL
    have HKO := Lib.hid hKO
    have HDF := Lib.hid hDF
    have HNP := Lib.hid hnp
    have HPL := Lib.hid hpl
    have hpn : np ≤ q := by omega
    obtain ⟨i0, hi0, hz0, hz1, hz2⟩ := info_parts int_info
    clear hL hKO hcv hcm HIZ hpq hDF hnp hpl hsg
    by_cases hq2 : q ≤ np
    · gi_wp2
      refine ⟨(KeepsOthers.refl _).from _, Kq.refl _ _ _ _, rfl, (HXE.out _ _ _).2 ⟨by have := HPL.out; simp; omega, ⟨⟨.slice Av np cv, ob, ?_⟩, HKO.out⟩, HDF.out⟩⟩
      have e : (pre ++ [x]).take q = pre := by
        have h1 := HNP.out
        
        rw [List.take_append_of_le_length (by omega), List.take_of_length_le (by omega)]
      rw [e]
      exact HL.out
    · gi_wp2_with (gi_at_builtin; refine wpListIn_append_seg _ rfl _ _ 22 rfl 3 i0 _ 1 8 Try.underlying22 hi0 hz0 hz1 hz2 rfl (by decide) _ np (ints pre) ob rfl HSG.out ⟨Z0.heap.size, 0, none⟩ 1 1 [.int .i64 x] rfl rfl (news_row (Row.made Z0 _ _)) (by simp [Value.oneCell']) (by decide) (by unfold maxLen; omega) (by omega) ?_; intro v2 z5 ob2 hs2 ht2 ho2; have r5 := (Row.alloc HL.out.row (.cells #[.int .i64 x] 3)).turns ht2 (fun e => by have := (HL.out.own Lb e).1; omega); obtain ⟨A2, cap2, rfl, hn5, hm5⟩ := hs2.form; have f0 := (r5.cell 0).trans rfl; have f1 := r5.free 0; go_frame)
      rw [← HNP.out] at hs2
      obtain ⟨p1, p2, p3, p4⟩ := lo_push HL.out HLw.out (by omega) (by omega) hs2 ht2 ho2
      rw [HNP.out] at p1 p2 p3 p4
      refine ⟨p2 _, p3 _ (fun k hk => ⟨HPc.out.lt hk, by have := HPl.out k hk; omega⟩) _, (HIE.out _ _ _).2 ⟨by have := HPL.out; simp; omega, ⟨⟨.slice A2 (np + 1) cap2, ob2, ?_⟩, HKO.out.1.kq (p3 PP (fun k hk => HPPl.out k hk) 0), HKO.out.2⟩, fun D hd => ⟨p4 D _ (HDs.out D hd) (by have := HDl.out D hd; omega) (HDF.out D hd).1, (HDF.out D hd).2⟩⟩⟩
      have e : (pre ++ [x]).take q = pre ++ [x] := by
        have h1 := HNP.out
        
        rw [List.take_of_length_le (by simp at h1 ⊢; omega)]
        
      rw [e]
      exact p1
  intro D2 O2 xs w12 hD hO hS hK
  have hfin : ((∃ v ob, Lo w4 Lb w11.heap.size O2 w12 ((Z.drop 2).take q) v ob) ∧ KeepO PP w11 O2 w12) ∧ Dfs [D1] O2 w12 := by
    rcases hS with ⟨hS, hI⟩ | ⟨hS, hI⟩
    · have e : xs = (Z.drop 2) := hS
      subst e
      exact ((HIE.out _ _ _).1 hI).2
    · obtain ⟨hq, h⟩ := (HXE.out _ _ _).1 hI
      obtain ⟨t, ht⟩ := (show xs <+: (Z.drop 2) from hS)
      rw [← ht, List.take_append_of_le_length hq]
      exact h
  have HK2 := Lib.hid hK
  have HFIN2 := Lib.hid hfin
  have HD2 := Lib.hid hD
  have HPP2 := HPP
  clear hfin hK hS hD hO HIE HXE HSI HSX HI0 HCP HPPl HPc HPl HT1
  dsimp only [Exit.inBlock, Exit.then]
  go_upto_region 14 with fail
  obtain ⟨⟨⟨v2, ob2, hL2⟩, hKO2⟩, hDf2⟩ := HFIN2.out
  have HLo2 := Lib.hid hL2
  have HZ := Lib.hid (HZ4.out.below hL2.be hL2.be.size)
  have HRb12 := Lib.hid hL2.row
  have HSb12 := Lib.hid hL2.seg
  have HOb := Lib.hid (fun g e => show Lk < g by have := (hL2.own g e).1; omega)
  have HRa12 := Lib.hid (hKO2.1.row ((HPP2.out _).2 (.inl (.inl rfl))) HRaV.out)
  have HSa12 := Lib.hid (hKO2.1.seg (fun g e => (HPP2.out _).2 (.inl (.inr e))) HSaV.out)
  have HRc12 := Lib.hid (hKO2.1.row ((HPP2.out _).2 (.inr (.inl rfl))) HRcV.out)
  have HRk12 := Lib.hid (hKO2.1.row ((HPP2.out _).2 (.inr (.inr rfl))) HRkV.out)
  have HK1W := Lib.hid (hDf2 D1 (by simp)).1
  have HB412 := Lib.hid hL2.be
  have HB12k : Hid (Lk < w12.heap.size) := Lib.hid (by have := hKO2.1.1; omega)
  have h1112 : w11.heap.size ≤ w12.heap.size := hKO2.1.1
  have hD1a : w8.heap.size ≤ D1 := HD1.out
  clear hL2 hKO2 hDf2
  have HB := Lib.hid (HW4.out.trans (HB412.out.mono HW4.out.size))
  have HB5 := Lib.hid (Below.refl w12.heap.size w12)
  have HKP : Hid (∀ V : World, Below w12.heap.size w12 V → V.cell? ⟨Lk, 0, none⟩ = some (.int .i64 q)) := Lib.hid (fun V hV => ((show Row V Lk _ _ from (hV.block Lk HB12k.out).trans HRk12.out).cell 0).trans rfl)
  go_upto_region 14 with fail
  have hb : Below w12.heap.size w12 w12.drew := (Below.refl _ w12).drew
  have HZn := Lib.hid (HZ.out.below hb hb.size)
  clear HZ
  have HZ := HZn
  clear HZn
  have HBn := Lib.hid (HB.out.trans (hb.mono HB.out.size))
  clear HB
  have HB := HBn
  clear HBn
  have HB5n := Lib.hid (HB5.out.trans (hb.mono HB5.out.size))
  clear HB5
  have HB5 := HB5n
  clear HB5n
  clear hb
  refine wp_region_noPanic ?_
  refine wp_region_held_drew (S := (fun X => X.cell? ⟨Lk, 0, none⟩ = some (.int .i64 q))) (by kernel_rfl) ?_ (fun hHeld => ?_)
  · exact HKP.out _ HB5.out
  refine take_at2 0 71 _ (v := ?v140) rfl rfl (by kernel_rfl) (by kernel_rfl) (by kernel_rfl) (fun _ _ _ h => h) (Or.inl ⟨by rfl, ?hy140⟩) (by assumption) ?rest140
  case hy140 =>
    intro wX hSw
    try dsimp only at hSw
    go_simp
    first
    | done
    | (with_reducible rfl)
  try simp only [Act.put, List.setIfInBounds_toArray, List.set_cons_zero, List.set_cons_succ]
  refine take_at2 2 73 _ (v := ?v142) rfl rfl (by kernel_rfl) (by kernel_rfl) (by kernel_rfl) (fun _ _ _ h => h) (Or.inl ⟨by rfl, ?hy142⟩) (by assumption) ?rest142
  case hy142 =>
    intro wX hSw
    try dsimp only at hSw
    go_simp
    first
    | done
    | (with_reducible rfl)
  try simp only [Act.put, List.setIfInBounds_toArray, List.set_cons_zero, List.set_cons_succ]
  refine wpAnyH_ready (rs := [1]) (by kernel_rfl) (by simp) ?_
  refine AllReadyH.cons rfl (fun K hK => ?_) AllReadyH.nil
  go_simp
  go_at_call 11
  have HB5s := Lib.hid HB5.out.size
  refine (of_b Z _ _ HZ.out (by rw [HN.out]; omega)).mono ?_
  rintro e w13 ⟨f72, rfl, hit, hb⟩
  have HZn := Lib.hid (HZ.out.below hb hb.size)
  clear HZ
  have HZ := HZn
  clear HZn
  have HBn := Lib.hid (HB.out.trans (hb.mono HB.out.size))
  clear HB
  have HB := HBn
  clear HBn
  have HB5n := Lib.hid (HB5.out.trans (hb.mono HB5.out.size))
  clear HB5
  have HB5 := HB5n
  clear HB5n
  have HF := Lib.hid (hit.lower HB5s.out)
  clear hit
  clear hb

  try go_wp2_with fail
  refine hK.out _ _ ?_ (fun hHeld => ?_)
  · exact HKP.out _ HB5.out
  clear hK K
  try simp only [Act.put, List.setIfInBounds_toArray, List.set_cons_zero, List.set_cons_succ]
  refine wpAnyH_ready (rs := [3]) (by kernel_rfl) (by simp) ?_
  refine AllReadyH.cons rfl (fun K hK => ?_) AllReadyH.nil
  go_simp
  go_at_call 10
  refine (take_b f72 Z 1 w12.heap.size q _ (by rw [HN.out]; omega) HB5.out.size HF.out).mono ?_
  rintro e w14 ⟨f74, rfl, hit, hb⟩
  have HZn := Lib.hid (HZ.out.below hb hb.size)
  clear HZ
  have HZ := HZn
  clear HZn
  have HBn := Lib.hid (HB.out.trans (hb.mono HB.out.size))
  clear HB
  have HB := HBn
  clear HBn
  have HB5n := Lib.hid (HB5.out.trans (hb.mono HB5.out.size))
  clear HB5
  have HB5 := HB5n
  clear HB5n
  have HF2 := Lib.hid hit
  clear hit HF
  clear hb

  try go_wp2_with fail
  refine hK.out _ _ ?_ (fun hHeld => ?_)
  · exact HKP.out _ HB5.out
  clear hK K
  try simp only [Act.put, List.setIfInBounds_toArray, List.set_cons_zero, List.set_cons_succ]
  refine wpAnyH_ready (rs := [4]) (by kernel_rfl) (by simp) ?_
  refine AllReadyH.cons rfl (fun K hK => ?_) AllReadyH.nil
  go_simp
  go_at_call 17
  refine (numb_v f74 (Z.take q) 5 w12.heap.size _ (by rw [List.length_take, HN.out]; omega) HB5.out.size HF2.out).mono ?_
  rintro e w15 ⟨f75, rfl, hit, hb⟩
  have HZn := Lib.hid (HZ.out.below hb hb.size)
  clear HZ
  have HZ := HZn
  clear HZn
  have HBn := Lib.hid (HB.out.trans (hb.mono HB.out.size))
  clear HB
  have HB := HBn
  clear HBn
  have HB5n := Lib.hid (HB5.out.trans (hb.mono HB5.out.size))
  clear HB5
  have HB5 := HB5n
  clear HB5n
  have HV := Lib.hid hit
  clear hit HF2
  clear hb

  try go_wp2_with fail
  refine hK.out _ _ ?_ (fun hHeld => ?_)
  · exact HKP.out _ HB5.out
  clear hK K
  try simp only [Act.put, List.setIfInBounds_toArray, List.set_cons_zero, List.set_cons_succ]
  refine wpAnyH_done (by kernel_rfl) ?_ _
  refine NoPanic.normal ?_
  have HB4V := Lib.hid (HB412.out.trans (HB5.out.mono HB412.out.size))
  have hz15 : w12.heap.size ≤ w15.heap.size := HB5.out.size
  have HRaV := Lib.hid ((HB5.out.block La HRa12.out.lt).trans HRa12.out)
  have HRbV := Lib.hid ((HB5.out.block Lb HRb12.out.lt).trans HRb12.out)
  have HRcV := Lib.hid ((HB5.out.block Lc HRc12.out.lt).trans HRc12.out)
  have HRkV := Lib.hid ((HB5.out.block Lk HRk12.out.lt).trans HRk12.out)
  have HSaV := Lib.hid (HSa12.out.keep fun g hg => HB5.out.block g (HSa12.out.lt g hg))
  have HSbV := Lib.hid (HSb12.out.keep fun g hg => HB5.out.block g (HSb12.out.lt g hg))
  have HK1V := Lib.hid ((HB5.out.block D1 (Array.getElem?_eq_some_iff.1 HK1W.out).1).trans HK1W.out)
  have HK2V := Lib.hid ((HB5.out.block D2 (Array.getElem?_eq_some_iff.1 HK2.out).1).trans HK2.out)
  have hVk : Lk < w15.heap.size := by have := HB12k.out; omega
  have HVB := HB12k
  have HLw : Hid (w4.heap.size ≤ Lc) := Lib.hid (by omega)
  have hLw4 : Hid (w4.heap.size ≤ Lc) := HLw
  have HD2o := HD2
  have HD2 : Hid (w8.heap.size ≤ D2) := Lib.hid (by have := HD2.out; omega)
  go_wp2_with fail
  obtain ⟨gs1, lb1, P1, rfl, hPc1, hPl1, eg1, hT1⟩ := HV.out
  have HT1 := Lib.hid (hT1 59 (by omega))
  have HPc := Lib.hid hPc1
  have HPl := Lib.hid (fun k hk => show Lk < k by have := hPl1 k hk; have := HVB.out; omega)
  obtain ⟨PP, hPP⟩ : ∃ PP : Own, PP = fun j => ((j = La ∨ ob1 = some j) ∨ (j = Lb ∨ ob2 = some j)) ∨ j = Lk := ⟨_, rfl⟩
  have HPP := Lib.hid (fun j => show PP j ↔ (((j = La ∨ ob1 = some j) ∨ (j = Lb ∨ ob2 = some j)) ∨ j = Lk) by rw [hPP])
  clear hPP hPc1 hPl1 hT1 HV
  have HCP : Hid (Cells PP w15) := Lib.hid (fun j hj => by
    rcases (HPP.out j).1 hj with ((e | e) | (e | e)) | e
    · subst e; exact ⟨_, _, HRaV.out⟩
    · have hs := HSaV.out
      rw [e] at hs
      obtain ⟨c, hr⟩ := seg_row hs
      exact ⟨_, _, hr⟩
    · subst e; exact ⟨_, _, HRbV.out⟩
    · have hs := HSbV.out
      rw [e] at hs
      obtain ⟨c, hr⟩ := seg_row hs
      exact ⟨_, _, hr⟩
    · subst e; exact ⟨_, _, HRkV.out⟩)
  have HPk : Hid (PP Lk) := Lib.hid ((HPP.out _).2 (.inr rfl))
  have HPPl : Hid (∀ k, PP k → k < w15.heap.size ∧ k ≠ Lc) := Lib.hid (fun k hk => by
    rcases (HPP.out k).1 hk with ((e | e) | (e | e)) | e
    · omega
    · have h1 := HSaV.out.lt k e; have h2 := HOa.out k e; omega
    · omega
    · have h1 := HSbV.out.lt k e; have h2 := HOb.out k e; omega
    · omega)
  have HDs : Hid (∀ D ∈ [D1, D2], D < w15.heap.size) := Lib.hid (fun D h => by
    simp at h
    rcases h with h | h
    · subst h; exact (Array.getElem?_eq_some_iff.1 HK1V.out).1
    · subst h; exact (Array.getElem?_eq_some_iff.1 HK2V.out).1)
  have HDl : Hid (∀ D ∈ [D1, D2], Lk < D) := Lib.hid (fun D h => by
    simp at h
    have h1 := HD1.out
    have h2 := HD2.out
    rcases h with h | h <;> omega)
  have HD0 : Hid (Dfs [D1, D2] (fun _ => False) w15) := Lib.hid (fun D h => by
    simp at h
    rcases h with h | h
    · subst h; exact ⟨HK1V.out, id⟩
    · subst h; exact ⟨HK2V.out, id⟩)
  obtain ⟨I, hI⟩ : ∃ I : Own → List (Int × Int) → World → Prop, I = fun O pre X => (pre.length ≤ 3 ∧ (((∃ v ob, Lo w4 Lc w15.heap.size O X ((pre.map Prod.snd).take 3) v ob) ∧ KeepO PP w15 O X) ∧ Dfs [D1, D2] O X)) := ⟨_, rfl⟩
  obtain ⟨Ix, hIx⟩ : ∃ I : Own → List (Int × Int) → World → Prop, I = fun O pre X => (3 ≤ pre.length ∧ (((∃ v ob, Lo w4 Lc w15.heap.size O X ((pre.map Prod.snd).take 3) v ob) ∧ KeepO PP w15 O X) ∧ Dfs [D1, D2] O X)) := ⟨_, rfl⟩
  have HIE := Lib.hid (fun O pre X => show I O pre X ↔ (pre.length ≤ 3 ∧ (((∃ v ob, Lo w4 Lc w15.heap.size O X ((pre.map Prod.snd).take 3) v ob) ∧ KeepO PP w15 O X) ∧ Dfs [D1, D2] O X)) by rw [hI])
  have HXE := Lib.hid (fun O pre X => show Ix O pre X ↔ (3 ≤ pre.length ∧ (((∃ v ob, Lo w4 Lc w15.heap.size O X ((pre.map Prod.snd).take 3) v ob) ∧ KeepO PP w15 O X) ∧ Dfs [D1, D2] O X)) by rw [hIx])
  have HSI : Hid (Stb w15.heap.size I) := Lib.hid (by
    rw [hI]; exact ((((lo_stb w4 Lc w15.heap.size w15.heap.size hLw4.out (by have := HB4V.out.size; omega)).at (fun pre : List (Int × Int) => (pre.map Prod.snd).take 3)).keep HCP.out).defs [D1, D2] HDs.out).pure (fun pre => pre.length ≤ 3))
  have HSX : Hid (Stb w15.heap.size Ix) := Lib.hid (by
    rw [hIx]; exact ((((lo_stb w4 Lc w15.heap.size w15.heap.size hLw4.out (by have := HB4V.out.size; omega)).at (fun pre : List (Int × Int) => (pre.map Prod.snd).take 3)).keep HCP.out).defs [D1, D2] HDs.out).pure (fun pre => 3 ≤ pre.length))
  have HI0 : Hid (I (fun _ => False) [] w15) := Lib.hid (by
    rw [hI]; exact ⟨Nat.zero_le _, ⟨⟨_, none, HRcV.out, by simpa using Sq.seg_zero w15 Ac, (fun _ e => by cases e), (fun _ e => e.elim), (fun _ e => e.elim), HB4V.out⟩, Hold.refl _ _, fun _ _ e => e⟩, HD0.out⟩)
  clear hI hIx HD0
  refine (wpIn_wide (n := 60)).1 ?_
  refine wpIn_rangeTel_br (n := 60) (d := 9) hro (by omega) (gf := gs1) (lb := lb1) rfl trivial eg1 HT1.out (Hold.refl _ _) (fun _ => rfl) 4 (fun a W h => h) I Ix HSI.out HSX.out HI0.out ?round3 ?rest3
  case round3 =>
    intro l O pre x X0 hl hI hnx hsz
    rw [put2]
    simp only [List.setIfInBounds_toArray, List.set_cons_succ, List.set_cons_zero]
    gi_wp2
    refine ⟨(KeepsOthers.refl _).from _, Kq.refl _ _ _ _, fun o o' ho hlo => ?_⟩
    have HIZ := Lib.hid ((HIE.out _ _ _).1 (HSI.out.put o' hI hl hlo ho))
    have hs1 : w15.heap.size + 2 ≤ (X0.putObj l o').heap.size := by simpa using hsz
    clear hI hlo hsz
    generalize X0.putObj l o' = Z0 at HIZ hs1 ⊢
    obtain ⟨hpq, ⟨⟨v, ob, hL⟩, hKO⟩, hDF⟩ := HIZ.out
    rw [List.take_of_length_le (by simpa using hpq)] at hL
    obtain ⟨np, hnp⟩ : ∃ np, (pre.map Prod.snd).length = np := ⟨_, rfl⟩
    have hx1 : x.1 = (np : Int) := by
      obtain ⟨l9, x9, e1, e2, _⟩ := hnx
      rw [← hnp, e2, e1, num_snd]
    have hpl : pre.length = np := by rw [← hnp]; simp
    obtain ⟨x1, x2⟩ := x
    have hx1 : x1 = (np : Int) := hx1
    subst hx1
    have hfm := hL.seg.form
    rw [hnp] at hfm
    obtain ⟨Av, cv, rfl, hcv, hcm⟩ := hfm
    have l0 : Z0.cell? ⟨Lc, 0, none⟩ = some (.slice Av np cv) := (hL.row.cell 0).trans rfl
    have lk : Z0.cell? ⟨Lk, 0, none⟩ = some (.int .i64 q) := ((hKO.1.row HPk.out HRkV.out).cell 0).trans rfl
    have hsg := hL.seg.alloc (.cells #[.int .i64 x2] 3)
    rw [hnp] at hsg
    have HSG := Lib.hid hsg
    have HL := Lib.hid hL
    have HKO := Lib.hid hKO
    have HDF := Lib.hid hDF
    have HNP := Lib.hid hnp
    have HPL := Lib.hid hpl
    have hpn : np ≤ 3 := by omega
    obtain ⟨i0, hi0, hz0, hz1, hz2⟩ := info_parts int_info
    clear hL hKO hcv hcm HIZ hpq hDF hnp hpl hsg
    by_cases hq2 : 3 ≤ np
    · gi_wp2
      refine ⟨(KeepsOthers.refl _).from _, Kq.refl _ _ _ _, rfl, (HXE.out _ _ _).2 ⟨by have := HPL.out; simp; omega, ⟨⟨.slice Av np cv, ob, ?_⟩, HKO.out⟩, HDF.out⟩⟩
      have e : ((pre ++ [((np : Int), x2)]).map Prod.snd).take 3 = (pre.map Prod.snd) := by
        have h1 := HNP.out
        rw [List.map_append]
        rw [List.take_append_of_le_length (by omega), List.take_of_length_le (by omega)]
      rw [e]
      exact HL.out
    · gi_wp2_with (gi_at_builtin; refine wpListIn_append_seg _ rfl _ _ 22 rfl 3 i0 _ 1 8 Try.underlying22 hi0 hz0 hz1 hz2 rfl (by decide) _ np (ints (pre.map Prod.snd)) ob rfl HSG.out ⟨Z0.heap.size, 0, none⟩ 1 1 [.int .i64 x2] rfl rfl (news_row (Row.made Z0 _ _)) (by simp [Value.oneCell']) (by decide) (by unfold maxLen; omega) (by omega) ?_; intro v2 z5 ob2 hs2 ht2 ho2; have r5 := (Row.alloc HL.out.row (.cells #[.int .i64 x2] 3)).turns ht2 (fun e => by have := (HL.out.own Lc e).1; omega); obtain ⟨A2, cap2, rfl, hn5, hm5⟩ := hs2.form; have f0 := (r5.cell 0).trans rfl; have f1 := r5.free 0; go_frame)
      rw [← HNP.out] at hs2
      obtain ⟨p1, p2, p3, p4⟩ := lo_push HL.out HLw.out (by omega) (by omega) hs2 ht2 ho2
      rw [HNP.out] at p1 p2 p3 p4
      refine ⟨p2 _, p3 _ (fun k hk => ⟨HPc.out.lt hk, by have := HPl.out k hk; omega⟩) _, (HIE.out _ _ _).2 ⟨by have := HPL.out; simp; omega, ⟨⟨.slice A2 (np + 1) cap2, ob2, ?_⟩, HKO.out.1.kq (p3 PP (fun k hk => HPPl.out k hk) 0), HKO.out.2⟩, fun D hd => ⟨p4 D _ (HDs.out D hd) (by have := HDl.out D hd; omega) (HDF.out D hd).1, (HDF.out D hd).2⟩⟩⟩
      have e : ((pre ++ [((np : Int), x2)]).map Prod.snd).take 3 = (pre.map Prod.snd) ++ [x2] := by
        have h1 := HNP.out
        rw [List.map_append]
        rw [List.take_of_length_le (by simp at h1 ⊢; omega)]
        rfl
      rw [e]
      exact p1
  intro D3 O3 xs w16 hD hO hS hK
  have hfin : ((∃ v ob, Lo w4 Lc w15.heap.size O3 w16 ((Z.take q).take 3) v ob) ∧ KeepO PP w15 O3 w16) ∧ Dfs [D1, D2] O3 w16 := by
    rcases hS with ⟨hS, hI⟩ | ⟨hS, hI⟩
    · obtain ⟨l9, rfl, e⟩ := hS
      have e : l9 = (Z.take q) := by simpa using e
      subst e
      have h := ((HIE.out _ _ _).1 hI).2
      rw [num_snd] at h
      exact h
    · obtain ⟨hq, h⟩ := (HXE.out _ _ _).1 hI
      obtain ⟨l9, rfl, e⟩ := hS
      have e : l9 <+: (Z.take q) := by simpa using e
      obtain ⟨t, ht⟩ := e
      rw [num_len] at hq
      rw [num_snd] at h
      rw [← ht, List.take_append_of_le_length hq]
      exact h
  have HK3 := Lib.hid hK
  have HFIN3 := Lib.hid hfin
  have HD3 := Lib.hid hD
  have HPP3 := HPP
  clear hfin hK hS hD hO HIE HXE HSI HSX HI0 HCP HPPl HPc HPl HT1
  dsimp only [Exit.inBlock, Exit.then]
  obtain ⟨⟨⟨v3, ob3, hL3⟩, hKO3⟩, hDf3⟩ := HFIN3.out
  have HZ := Lib.hid (HZ4.out.below hL3.be hL3.be.size)
  have HRa16 := Lib.hid (hKO3.1.row ((HPP3.out _).2 (.inl (.inl (.inl rfl)))) HRaV.out)
  have HSa16 := Lib.hid (hKO3.1.seg (fun g e => (HPP3.out _).2 (.inl (.inl (.inr e)))) HSaV.out)
  have HRb16 := Lib.hid (hKO3.1.row ((HPP3.out _).2 (.inl (.inr (.inl rfl)))) HRbV.out)
  have HSb16 := Lib.hid (hKO3.1.seg (fun g e => (HPP3.out _).2 (.inl (.inr (.inr e)))) HSbV.out)
  have HRc16 := Lib.hid hL3.row
  have HSc16 := Lib.hid hL3.seg
  have HRk16 := Lib.hid (hKO3.1.row ((HPP3.out _).2 (.inr rfl)) HRkV.out)
  have HK1Z := Lib.hid (hDf3 D1 (by simp)).1
  have HK2Z := Lib.hid (hDf3 D2 (by simp)).1
  have HB := Lib.hid (HW4.out.trans (hL3.be.mono HW4.out.size))
  have hD2a : w11.heap.size ≤ D2 := HD2o.out
  have hD12 : D1 ≠ D2 := by have := (Array.getElem?_eq_some_iff.1 HK1V0.out).1; omega
  have hD23 : D2 ≠ D3 := by have h1 := (Array.getElem?_eq_some_iff.1 HK2V.out).1; have h2 := HD3.out; omega
  have hD13 : D1 ≠ D3 := by have h1 := (Array.getElem?_eq_some_iff.1 HK1V.out).1; have h2 := HD3.out; omega
  clear hL3 hKO3 hDf3
  have HVa := Lib.hid (LI.of_seg HSa16.out)
  have HVb := Lib.hid (LI.of_seg HSb16.out)
  have HVc := Lib.hid (LI.of_seg HSc16.out)
  go_upto_region 19 with fail
  obtain ⟨m2, hm2⟩ : ∃ x, min 2 N = x := ⟨_, rfl⟩
  obtain ⟨A16, hA16⟩ : ∃ A9, (if cZ = m2 then AZ else Option.map (fun x => x.add m2) AZ) = A9 := ⟨_, rfl⟩
  have HS16 : Hid (LI w16 w16.heap.size (.slice A16 (N - m2) (cZ - m2)) (Z.drop m2)) := Lib.hid (by have h := HZ.out.dropi m2 (by rw [HN.out]; omega); rwa [hA16] at h)
  go_cut [16] from 84 to 89 (fun s16 wx => s16 = .slice A16 (N - m2) (cZ - m2) ∧ w16 = wx)
  case first =>
    by_cases h2 : N < 2
    · have e : m2 = N := by omega
      have h3 : (N : Int) < 2 := by omega
      clear hm2
      subst m2
      go_wp2
      go_meet
      exact ⟨by rw [Nat.sub_self], rfl⟩
    · have e : m2 = 2 := by omega
      have h3 : ¬ (N : Int) < 2 := by omega
      have h4 : 2 ≤ N := by omega
      have h5 : 2 ≤ cZ := by omega
      clear hm2
      subst m2
      by_cases hcz : cZ = 2
      · subst hcz
        go_wp2
        go_meet
        exact ⟨by have e0 : N - 2 = 0 := by omega
                  rw [e0, ← hA16, if_pos trivial], rfl⟩
      · rw [if_neg hcz] at hA16
        go_wp2
        go_meet
        exact ⟨by rw [← hA16]; rfl, rfl⟩
  obtain ⟨rfl, rfl⟩ := hcut
  obtain ⟨Ns, hNs⟩ : ∃ x, N - m2 = x := ⟨_, rfl⟩
  obtain ⟨cS, hcS⟩ : ∃ x, cZ - m2 = x := ⟨_, rfl⟩
  rw [hNs, hcS] at HS16 ⊢
  have hNsc : Ns ≤ cS := by omega
  obtain ⟨e1, he1⟩ : ∃ x, min q N = x := ⟨_, rfl⟩
  obtain ⟨e2, he2⟩ : ∃ x, min q Ns = x := ⟨_, rfl⟩
  obtain ⟨e4, he4⟩ : ∃ x, min q 3 = x := ⟨_, rfl⟩
  obtain ⟨e3, he3⟩ : ∃ x, min e4 N = x := ⟨_, rfl⟩
  have n1 : (if N < q then (N : Int) else (q : Int)) = (e1 : Int) := by split <;> omega
  have n2 : (if Ns < q then (Ns : Int) else (q : Int)) = (e2 : Int) := by split <;> omega
  have n4 : (if 3 < q then (3 : Int) else (q : Int)) = (e4 : Int) := by split <;> omega
  have n3 : (if N < e4 then (N : Int) else (e4 : Int)) = (e3 : Int) := by split <;> omega
  have i1 : (if (N : Int) < (q : Int) then (N : Int) else (q : Int)) = (e1 : Int) := by split <;> omega
  have i2 : (if (Ns : Int) < (q : Int) then (Ns : Int) else (q : Int)) = (e2 : Int) := by split <;> omega
  have i4 : (if (3 : Int) < (q : Int) then (3 : Int) else (q : Int)) = (e4 : Int) := by split <;> omega
  have i3 : (if (N : Int) < (e4 : Int) then (N : Int) else (e4 : Int)) = (e3 : Int) := by split <;> omega
  have HXa : Hid (LI w16 w16.heap.size (.slice AZ e1 cZ) (Z.take q)) := Lib.hid (by
    have h := HZ.out.take e1 (by rw [HN.out]; omega)
    have e : Z.take e1 = Z.take q := by rw [← he1, ← HN.out]; rcases Nat.le_total q Z.length with h | h
                                        · rw [Nat.min_eq_left h]
                                        · rw [Nat.min_eq_right h, List.take_of_length_le h, List.take_length]
    rwa [e] at h)
  have HXb : Hid (LI w16 w16.heap.size (.slice A16 e2 cS) ((Z.drop 2).take q)) := Lib.hid (by
    have hl : (Z.drop m2).length = Ns := by rw [List.length_drop, HN.out]; exact hNs
    have h := HS16.out.take e2 (by rw [hl]; omega)
    have e0 : Z.drop m2 = Z.drop 2 := by
      rw [← hm2, ← HN.out]
      rcases Nat.le_total 2 Z.length with h | h
      · rw [Nat.min_eq_left h]
      · rw [Nat.min_eq_right h, List.drop_eq_nil_of_le h, List.drop_length]
    have e : (Z.drop m2).take e2 = (Z.drop 2).take q := by
      rw [e0] at hl ⊢
      rw [← he2, ← hl]
      rcases Nat.le_total q (Z.drop 2).length with h | h
      · rw [Nat.min_eq_left h]
      · rw [Nat.min_eq_right h, List.take_of_length_le h, List.take_length]
    rwa [e] at h)
  have HXc : Hid (LI w16 w16.heap.size (.slice AZ e3 cZ) ((Z.take q).take 3)) := Lib.hid (by
    have h := HZ.out.take e3 (by rw [HN.out]; omega)
    have e : Z.take e3 = (Z.take q).take 3 := by
      rw [List.take_take, ← he3, ← he4, ← HN.out, Nat.min_comm 3 q]
      rcases Nat.le_total (min q 3) Z.length with h | h
      · rw [Nat.min_eq_left h]
      · rw [Nat.min_eq_right h, List.take_of_length_le h, List.take_length]
    rwa [e] at h)
  have hl1 : Hid ((Z.take q).length ≤ 1000000) := Lib.hid (by rw [List.length_take, HN.out]; omega)
  have hl2 : Hid (((Z.drop 2).take q).length ≤ 1000000) := Lib.hid (by rw [List.length_take, List.length_drop, HN.out]; omega)
  have hl3 : Hid (((Z.take q).take 3).length ≤ 1000000) := Lib.hid (by rw [List.length_take, List.length_take, HN.out]; omega)
  have j1 : e1 ≤ N := by omega
  have j2 : e2 ≤ Ns := by omega
  have j3 : e3 ≤ N := by omega
  have k1 : e1 ≤ cZ := by omega
  have k2 : e2 ≤ cS := by omega
  have k3 : e3 ≤ cZ := by omega
  clear hm2 hA16 hNs hcS he1 he2 he3 he4 HS16
  have HB5 := Lib.hid (Below.refl w16.heap.size w16)
  have HKP : Hid (∀ V : World, Below w16.heap.size w16 V → V.cell? ⟨La, 0, none⟩ = some v1 ∧ V.cell? ⟨Lb, 0, none⟩ = some v2 ∧ V.cell? ⟨Lc, 0, none⟩ = some v3 ∧ V.cell? ⟨Lk, 0, none⟩ = some (.int .i64 q)) := Lib.hid (fun V hV =>
    ⟨((show Row V La _ _ from (hV.block La HRa16.out.lt).trans HRa16.out).cell 0).trans rfl, ((show Row V Lb _ _ from (hV.block Lb HRb16.out.lt).trans HRb16.out).cell 0).trans rfl, ((show Row V Lc _ _ from (hV.block Lc HRc16.out.lt).trans HRc16.out).cell 0).trans rfl, ((show Row V Lk _ _ from (hV.block Lk HRk16.out.lt).trans HRk16.out).cell 0).trans rfl⟩)
  go_upto_region 20 with fail
  have hb : Below w16.heap.size w16 w16.drew := (Below.refl _ w16).drew
  have HVan := Lib.hid (HVa.out.below hb hb.size)
  clear HVa
  have HVa := HVan
  clear HVan
  have HVbn := Lib.hid (HVb.out.below hb hb.size)
  clear HVb
  have HVb := HVbn
  clear HVbn
  have HVcn := Lib.hid (HVc.out.below hb hb.size)
  clear HVc
  have HVc := HVcn
  clear HVcn
  have HXan := Lib.hid (HXa.out.below hb hb.size)
  clear HXa
  have HXa := HXan
  clear HXan
  have HXbn := Lib.hid (HXb.out.below hb hb.size)
  clear HXb
  have HXb := HXbn
  clear HXbn
  have HXcn := Lib.hid (HXc.out.below hb hb.size)
  clear HXc
  have HXc := HXcn
  clear HXcn
  have HBn := Lib.hid (HB.out.trans (hb.mono HB.out.size))
  clear HB
  have HB := HBn
  clear HBn
  have HB5n := Lib.hid (HB5.out.trans (hb.mono HB5.out.size))
  clear HB5
  have HB5 := HB5n
  clear HB5n
  clear hb
  refine wp_region_noPanic ?_
  refine wp_region_held_drew (S := (fun X => X.cell? ⟨La, 0, none⟩ = some v1 ∧ X.cell? ⟨Lb, 0, none⟩ = some v2 ∧ X.cell? ⟨Lc, 0, none⟩ = some v3 ∧ X.cell? ⟨Lk, 0, none⟩ = some (.int .i64 q))) (by kernel_rfl) ?_ (fun hHeld => ?_)
  · exact HKP.out _ HB5.out
  refine wpAnyH_ready (rs := [0]) (by kernel_rfl) (by simp) ?_
  refine AllReadyH.cons rfl (fun K hK => ?_) AllReadyH.nil
  go_simp
  go_at_call 8
  refine (awake_any _).mono ?_
  rintro e w17 ⟨rfl, hb⟩
  have HVan := Lib.hid (HVa.out.below hb hb.size)
  clear HVa
  have HVa := HVan
  clear HVan
  have HVbn := Lib.hid (HVb.out.below hb hb.size)
  clear HVb
  have HVb := HVbn
  clear HVbn
  have HVcn := Lib.hid (HVc.out.below hb hb.size)
  clear HVc
  have HVc := HVcn
  clear HVcn
  have HXan := Lib.hid (HXa.out.below hb hb.size)
  clear HXa
  have HXa := HXan
  clear HXan
  have HXbn := Lib.hid (HXb.out.below hb hb.size)
  clear HXb
  have HXb := HXbn
  clear HXbn
  have HXcn := Lib.hid (HXc.out.below hb hb.size)
  clear HXc
  have HXc := HXcn
  clear HXcn
  have HBn := Lib.hid (HB.out.trans (hb.mono HB.out.size))
  clear HB
  have HB := HBn
  clear HBn
  have HB5n := Lib.hid (HB5.out.trans (hb.mono HB5.out.size))
  clear HB5
  have HB5 := HB5n
  clear HB5n
  clear hb

  try go_wp2_with fail
  refine hK.out _ _ ?_ (fun hHeld => ?_)
  · exact HKP.out _ HB5.out
  clear hK K
  try simp only [Act.put, List.setIfInBounds_toArray, List.set_cons_zero, List.set_cons_succ]
  refine take_at2 1 90 _ (v := ?v201) rfl rfl (by kernel_rfl) (by kernel_rfl) (by kernel_rfl) (fun _ _ _ h => h) (Or.inl ⟨by rfl, ?hy201⟩) (by assumption) ?rest201
  case hy201 =>
    intro wX hSw
    try dsimp only at hSw
    go_simp
    first
    | done
    | (with_reducible rfl)
  try simp only [Act.put, List.setIfInBounds_toArray, List.set_cons_zero, List.set_cons_succ]
  refine take_at2 2 91 _ (v := ?v202) rfl rfl (by kernel_rfl) (by kernel_rfl) (by kernel_rfl) (fun _ _ _ h => h) (Or.inl ⟨by rfl, ?hy202⟩) (by assumption) ?rest202
  case hy202 =>
    intro wX hSw
    try dsimp only at hSw
    go_simp
    first
    | done
    | (with_reducible rfl)
  try simp only [Act.put, List.setIfInBounds_toArray, List.set_cons_zero, List.set_cons_succ]
  refine take_at2 3 92 _ (v := ?v203) rfl rfl (by kernel_rfl) (by kernel_rfl) (by kernel_rfl) (fun _ _ _ h => h) (Or.inl ⟨by rfl, ?hy203⟩) (by assumption) ?rest203
  case hy203 =>
    intro wX hSw
    try dsimp only at hSw
    go_simp
    first
    | done
    | (with_reducible rfl)
  try simp only [Act.put, List.setIfInBounds_toArray, List.set_cons_zero, List.set_cons_succ]
  refine take_at2 4 93 _ (v := ?v204) rfl rfl (by kernel_rfl) (by kernel_rfl) (by kernel_rfl) (fun _ _ _ h => h) (Or.inl ⟨by rfl, ?hy204⟩) (by assumption) ?rest204
  case hy204 =>
    intro wX hSw
    try dsimp only at hSw
    go_simp
    first
    | done
    | (with_reducible rfl)
  try simp only [Act.put, List.setIfInBounds_toArray, List.set_cons_zero, List.set_cons_succ]
  refine take_at2 5 94 _ (v := ?v205) rfl rfl (by kernel_rfl) (by kernel_rfl) (by kernel_rfl) (fun _ _ _ h => h) (Or.inl ⟨by rfl, ?hy205⟩) (by assumption) ?rest205
  case hy205 =>
    intro wX hSw
    try dsimp only at hSw
    go_simp
    first
    | done
    | (with_reducible rfl)
  try simp only [Act.put, List.setIfInBounds_toArray, List.set_cons_zero, List.set_cons_succ]
  refine take_at2 6 95 _ (v := ?v206) rfl rfl (by kernel_rfl) (by kernel_rfl) (by kernel_rfl) (fun _ _ _ h => h) (Or.inl ⟨by rfl, ?hy206⟩) (by assumption) ?rest206
  case hy206 =>
    intro wX hSw
    try dsimp only at hSw
    go_simp
    first
    | done
    | (with_reducible rfl)
  try simp only [Act.put, List.setIfInBounds_toArray, List.set_cons_zero, List.set_cons_succ]
  refine take_at2 7 96 _ (v := ?v207) rfl rfl (by kernel_rfl) (by kernel_rfl) (by kernel_rfl) (fun _ _ _ h => h) (Or.inl ⟨by rfl, ?hy207⟩) (by assumption) ?rest207
  case hy207 =>
    intro wX hSw
    try dsimp only at hSw
    go_simp
    first
    | done
    | (with_reducible rfl)
  try simp only [Act.put, List.setIfInBounds_toArray, List.set_cons_zero, List.set_cons_succ]
  refine take_at2 8 97 _ (v := ?v208) rfl rfl (by kernel_rfl) (by kernel_rfl) (by kernel_rfl) (fun _ _ _ h => h) (Or.inl ⟨by rfl, ?hy208⟩) (by assumption) ?rest208
  case hy208 =>
    intro wX hSw
    try dsimp only at hSw
    go_simp
    first
    | done
    | (with_reducible rfl)
  try simp only [Act.put, List.setIfInBounds_toArray, List.set_cons_zero, List.set_cons_succ]
  refine wpAnyH_ready (rs := [9]) (by kernel_rfl) (by simp) ?_
  refine AllReadyH.cons rfl (fun K hK => ?_) AllReadyH.nil
  go_simp
  have HSM := Lib.hid (same_l _ _ _ _ HVa.out HXa.out hl1.out)
  go_at_call 14
  with_reducible refine HSM.out.mono ?_
  clear HSM
  rintro e w18 ⟨rfl, mq, hq⟩
  have hb := below_drewN hq
  have HVan := Lib.hid (HVa.out.below hb hb.size)
  clear HVa
  have HVa := HVan
  clear HVan
  have HVbn := Lib.hid (HVb.out.below hb hb.size)
  clear HVb
  have HVb := HVbn
  clear HVbn
  have HVcn := Lib.hid (HVc.out.below hb hb.size)
  clear HVc
  have HVc := HVcn
  clear HVcn
  have HXan := Lib.hid (HXa.out.below hb hb.size)
  clear HXa
  have HXa := HXan
  clear HXan
  have HXbn := Lib.hid (HXb.out.below hb hb.size)
  clear HXb
  have HXb := HXbn
  clear HXbn
  have HXcn := Lib.hid (HXc.out.below hb hb.size)
  clear HXc
  have HXc := HXcn
  clear HXcn
  have HBn := Lib.hid (HB.out.trans (hb.mono HB.out.size))
  clear HB
  have HB := HBn
  clear HBn
  have HB5n := Lib.hid (HB5.out.trans (hb.mono HB5.out.size))
  clear HB5
  have HB5 := HB5n
  clear HB5n
  clear hb hq

  try go_wp2_with fail
  refine hK.out _ _ ?_ (fun hHeld => ?_)
  · exact HKP.out _ HB5.out
  clear hK K
  try simp only [Act.put, List.setIfInBounds_toArray, List.set_cons_zero, List.set_cons_succ]
  refine take_at2 10 99 _ (v := ?v2010) rfl rfl (by kernel_rfl) (by kernel_rfl) (by kernel_rfl) (fun _ _ _ h => h) (Or.inl ⟨by rfl, ?hy2010⟩) (by assumption) ?rest2010
  case hy2010 =>
    intro wX hSw
    try dsimp only at hSw
    go_simp
    first
    | done
    | (with_reducible rfl)
  try simp only [Act.put, List.setIfInBounds_toArray, List.set_cons_zero, List.set_cons_succ]
  refine take_at2 11 100 _ (v := ?v2011) rfl rfl (by kernel_rfl) (by kernel_rfl) (by kernel_rfl) (fun _ _ _ h => h) (Or.inl ⟨by rfl, ?hy2011⟩) (by assumption) ?rest2011
  case hy2011 =>
    intro wX hSw
    try dsimp only at hSw
    go_simp
    first
    | done
    | (with_reducible rfl)
  try simp only [Act.put, List.setIfInBounds_toArray, List.set_cons_zero, List.set_cons_succ]
  refine take_at2 12 101 _ (v := ?v2012) rfl rfl (by kernel_rfl) (by kernel_rfl) (by kernel_rfl) (fun _ _ _ h => h) (Or.inl ⟨by rfl, ?hy2012⟩) (by assumption) ?rest2012
  case hy2012 =>
    intro wX hSw
    try dsimp only at hSw
    go_simp
    first
    | done
    | (with_reducible rfl)
  try simp only [Act.put, List.setIfInBounds_toArray, List.set_cons_zero, List.set_cons_succ]
  refine take_at2 13 102 _ (v := ?v2013) rfl rfl (by kernel_rfl) (by kernel_rfl) (by kernel_rfl) (fun _ _ _ h => h) (Or.inl ⟨by rfl, ?hy2013⟩) (by assumption) ?rest2013
  case hy2013 =>
    intro wX hSw
    try dsimp only at hSw
    go_simp
    first
    | done
    | (with_reducible rfl)
  try simp only [Act.put, List.setIfInBounds_toArray, List.set_cons_zero, List.set_cons_succ]
  refine take_at2 14 103 _ (v := ?v2014) rfl rfl (by kernel_rfl) (by kernel_rfl) (by kernel_rfl) (fun _ _ _ h => h) (Or.inl ⟨by rfl, ?hy2014⟩) (by assumption) ?rest2014
  case hy2014 =>
    intro wX hSw
    try dsimp only at hSw
    go_simp
    first
    | done
    | (with_reducible rfl)
  try simp only [Act.put, List.setIfInBounds_toArray, List.set_cons_zero, List.set_cons_succ]
  refine take_at2 15 104 _ (v := ?v2015) rfl rfl (by kernel_rfl) (by kernel_rfl) (by kernel_rfl) (fun _ _ _ h => h) (Or.inl ⟨by rfl, ?hy2015⟩) (by assumption) ?rest2015
  case hy2015 =>
    intro wX hSw
    try dsimp only at hSw
    go_simp
    first
    | done
    | (with_reducible rfl)
  try simp only [Act.put, List.setIfInBounds_toArray, List.set_cons_zero, List.set_cons_succ]
  refine take_at2 16 105 _ (v := ?v2016) rfl rfl (by kernel_rfl) (by kernel_rfl) (by kernel_rfl) (fun _ _ _ h => h) (Or.inl ⟨by rfl, ?hy2016⟩) (by assumption) ?rest2016
  case hy2016 =>
    intro wX hSw
    try dsimp only at hSw
    go_simp
    first
    | done
    | (with_reducible rfl)
  try simp only [Act.put, List.setIfInBounds_toArray, List.set_cons_zero, List.set_cons_succ]
  refine take_at2 17 106 _ (v := ?v2017) rfl rfl (by kernel_rfl) (by kernel_rfl) (by kernel_rfl) (fun _ _ _ h => h) (Or.inl ⟨by rfl, ?hy2017⟩) (by assumption) ?rest2017
  case hy2017 =>
    intro wX hSw
    try dsimp only at hSw
    go_simp
    first
    | done
    | (with_reducible rfl)
  try simp only [Act.put, List.setIfInBounds_toArray, List.set_cons_zero, List.set_cons_succ]
  refine take_at2 18 107 _ (v := ?v2018) rfl rfl (by kernel_rfl) (by kernel_rfl) (by kernel_rfl) (fun _ _ _ h => h) (Or.inl ⟨by rfl, ?hy2018⟩) (by assumption) ?rest2018
  case hy2018 =>
    intro wX hSw
    try dsimp only at hSw
    go_simp
    first
    | done
    | (with_reducible rfl)
  try simp only [Act.put, List.setIfInBounds_toArray, List.set_cons_zero, List.set_cons_succ]
  refine wpAnyH_ready (rs := [19]) (by kernel_rfl) (by simp) ?_
  refine AllReadyH.cons rfl (fun K hK => ?_) AllReadyH.nil
  go_simp
  have HSM := Lib.hid (same_l _ _ _ _ HVb.out HXb.out hl2.out)
  go_at_call 14
  with_reducible refine HSM.out.mono ?_
  clear HSM
  rintro e w19 ⟨rfl, mq, hq⟩
  have hb := below_drewN hq
  have HVan := Lib.hid (HVa.out.below hb hb.size)
  clear HVa
  have HVa := HVan
  clear HVan
  have HVbn := Lib.hid (HVb.out.below hb hb.size)
  clear HVb
  have HVb := HVbn
  clear HVbn
  have HVcn := Lib.hid (HVc.out.below hb hb.size)
  clear HVc
  have HVc := HVcn
  clear HVcn
  have HXan := Lib.hid (HXa.out.below hb hb.size)
  clear HXa
  have HXa := HXan
  clear HXan
  have HXbn := Lib.hid (HXb.out.below hb hb.size)
  clear HXb
  have HXb := HXbn
  clear HXbn
  have HXcn := Lib.hid (HXc.out.below hb hb.size)
  clear HXc
  have HXc := HXcn
  clear HXcn
  have HBn := Lib.hid (HB.out.trans (hb.mono HB.out.size))
  clear HB
  have HB := HBn
  clear HBn
  have HB5n := Lib.hid (HB5.out.trans (hb.mono HB5.out.size))
  clear HB5
  have HB5 := HB5n
  clear HB5n
  clear hb hq

  try go_wp2_with fail
  refine hK.out _ _ ?_ (fun hHeld => ?_)
  · exact HKP.out _ HB5.out
  clear hK K
  try simp only [Act.put, List.setIfInBounds_toArray, List.set_cons_zero, List.set_cons_succ]
  refine take_at2 20 109 _ (v := ?v2020) rfl rfl (by kernel_rfl) (by kernel_rfl) (by kernel_rfl) (fun _ _ _ h => h) (Or.inl ⟨by rfl, ?hy2020⟩) (by assumption) ?rest2020
  case hy2020 =>
    intro wX hSw
    try dsimp only at hSw
    go_simp
    first
    | done
    | (with_reducible rfl)
  try simp only [Act.put, List.setIfInBounds_toArray, List.set_cons_zero, List.set_cons_succ]
  refine take_at2 21 110 _ (v := ?v2021) rfl rfl (by kernel_rfl) (by kernel_rfl) (by kernel_rfl) (fun _ _ _ h => h) (Or.inl ⟨by rfl, ?hy2021⟩) (by assumption) ?rest2021
  case hy2021 =>
    intro wX hSw
    try dsimp only at hSw
    go_simp
    first
    | done
    | (with_reducible rfl)
  try simp only [Act.put, List.setIfInBounds_toArray, List.set_cons_zero, List.set_cons_succ]
  refine take_at2 22 111 _ (v := ?v2022) rfl rfl (by kernel_rfl) (by kernel_rfl) (by kernel_rfl) (fun _ _ _ h => h) (Or.inl ⟨by rfl, ?hy2022⟩) (by assumption) ?rest2022
  case hy2022 =>
    intro wX hSw
    try dsimp only at hSw
    go_simp
    first
    | done
    | (with_reducible rfl)
  try simp only [Act.put, List.setIfInBounds_toArray, List.set_cons_zero, List.set_cons_succ]
  refine take_at2 23 112 _ (v := ?v2023) rfl rfl (by kernel_rfl) (by kernel_rfl) (by kernel_rfl) (fun _ _ _ h => h) (Or.inl ⟨by rfl, ?hy2023⟩) (by assumption) ?rest2023
  case hy2023 =>
    intro wX hSw
    try dsimp only at hSw
    go_simp
    first
    | done
    | (with_reducible rfl)
  try simp only [Act.put, List.setIfInBounds_toArray, List.set_cons_zero, List.set_cons_succ]
  refine take_at2 24 113 _ (v := ?v2024) rfl rfl (by kernel_rfl) (by kernel_rfl) (by kernel_rfl) (fun _ _ _ h => h) (Or.inl ⟨by rfl, ?hy2024⟩) (by assumption) ?rest2024
  case hy2024 =>
    intro wX hSw
    try dsimp only at hSw
    go_simp
    first
    | done
    | (with_reducible rfl)
  try simp only [Act.put, List.setIfInBounds_toArray, List.set_cons_zero, List.set_cons_succ]
  refine take_at2 25 114 _ (v := ?v2025) rfl rfl (by kernel_rfl) (by kernel_rfl) (by kernel_rfl) (fun _ _ _ h => h) (Or.inl ⟨by rfl, ?hy2025⟩) (by assumption) ?rest2025
  case hy2025 =>
    intro wX hSw
    try dsimp only at hSw
    go_simp
    first
    | done
    | (with_reducible rfl)
  try simp only [Act.put, List.setIfInBounds_toArray, List.set_cons_zero, List.set_cons_succ]
  refine take_at2 26 115 _ (v := ?v2026) rfl rfl (by kernel_rfl) (by kernel_rfl) (by kernel_rfl) (fun _ _ _ h => h) (Or.inl ⟨by rfl, ?hy2026⟩) (by assumption) ?rest2026
  case hy2026 =>
    intro wX hSw
    try dsimp only at hSw
    go_simp
    first
    | done
    | (with_reducible rfl)
  try simp only [Act.put, List.setIfInBounds_toArray, List.set_cons_zero, List.set_cons_succ]
  refine take_at2 27 116 _ (v := ?v2027) rfl rfl (by kernel_rfl) (by kernel_rfl) (by kernel_rfl) (fun _ _ _ h => h) (Or.inl ⟨by rfl, ?hy2027⟩) (by assumption) ?rest2027
  case hy2027 =>
    intro wX hSw
    try dsimp only at hSw
    go_simp
    first
    | done
    | (with_reducible rfl)
  try simp only [Act.put, List.setIfInBounds_toArray, List.set_cons_zero, List.set_cons_succ]
  refine take_at2 28 117 _ (v := ?v2028) rfl rfl (by kernel_rfl) (by kernel_rfl) (by kernel_rfl) (fun _ _ _ h => h) (Or.inl ⟨by rfl, ?hy2028⟩) (by assumption) ?rest2028
  case hy2028 =>
    intro wX hSw
    try dsimp only at hSw
    go_simp
    first
    | done
    | (with_reducible rfl)
  try simp only [Act.put, List.setIfInBounds_toArray, List.set_cons_zero, List.set_cons_succ]
  refine wpAnyH_ready (rs := [29]) (by kernel_rfl) (by simp) ?_
  refine AllReadyH.cons rfl (fun K hK => ?_) AllReadyH.nil
  go_simp
  have HSM := Lib.hid (same_l _ _ _ _ HVc.out HXc.out hl3.out)
  go_at_call 14
  with_reducible refine HSM.out.mono ?_
  clear HSM
  rintro e w20 ⟨rfl, mq, hq⟩
  have hb := below_drewN hq
  have HVan := Lib.hid (HVa.out.below hb hb.size)
  clear HVa
  have HVa := HVan
  clear HVan
  have HVbn := Lib.hid (HVb.out.below hb hb.size)
  clear HVb
  have HVb := HVbn
  clear HVbn
  have HVcn := Lib.hid (HVc.out.below hb hb.size)
  clear HVc
  have HVc := HVcn
  clear HVcn
  have HXan := Lib.hid (HXa.out.below hb hb.size)
  clear HXa
  have HXa := HXan
  clear HXan
  have HXbn := Lib.hid (HXb.out.below hb hb.size)
  clear HXb
  have HXb := HXbn
  clear HXbn
  have HXcn := Lib.hid (HXc.out.below hb hb.size)
  clear HXc
  have HXc := HXcn
  clear HXcn
  have HBn := Lib.hid (HB.out.trans (hb.mono HB.out.size))
  clear HB
  have HB := HBn
  clear HBn
  have HB5n := Lib.hid (HB5.out.trans (hb.mono HB5.out.size))
  clear HB5
  have HB5 := HB5n
  clear HB5n
  clear hb hq

  try go_wp2_with fail
  refine hK.out _ _ ?_ (fun hHeld => ?_)
  · exact HKP.out _ HB5.out
  clear hK K
  try simp only [Act.put, List.setIfInBounds_toArray, List.set_cons_zero, List.set_cons_succ]
  refine take_at2 30 119 _ (v := ?v2030) rfl rfl (by kernel_rfl) (by kernel_rfl) (by kernel_rfl) (fun _ _ _ h => h) (Or.inl ⟨by rfl, ?hy2030⟩) (by assumption) ?rest2030
  case hy2030 =>
    intro wX hSw
    try dsimp only at hSw
    go_simp
    first
    | done
    | (with_reducible rfl)
  try simp only [Act.put, List.setIfInBounds_toArray, List.set_cons_zero, List.set_cons_succ]
  refine take_at2 31 6 _ (v := ?v2031) rfl rfl (by kernel_rfl) (by kernel_rfl) (by kernel_rfl) (fun _ _ _ h => h) (Or.inl ⟨by rfl, ?hy2031⟩) (by assumption) ?rest2031
  case hy2031 =>
    intro wX hSw
    try dsimp only at hSw
    go_simp
    first
    | done
    | (with_reducible rfl)
  try simp only [Act.put, List.setIfInBounds_toArray, List.set_cons_zero, List.set_cons_succ]
  refine wpAnyH_done (by kernel_rfl) ?_ _
  refine NoPanic.normal ?_
  have kd3 := (HB5.out.block D3 (Array.getElem?_eq_some_iff.1 HK3.out).1).trans HK3.out
  have kd2 := (HB5.out.block D2 (Array.getElem?_eq_some_iff.1 HK2Z.out).1).trans HK2Z.out
  have kd1 := (HB5.out.block D1 (Array.getElem?_eq_some_iff.1 HK1Z.out).1).trans HK1Z.out
  have HB5f := HB5.out
  go_wp2
  have hx3 : (w20.putObj D3 (.deferred none)).heap[D2]? = some (.deferred (some [])) := (World.putObj_heap_other hD23).trans kd2
  have hx1 : ((w20.putObj D3 (.deferred none)).putObj D2 (.deferred none)).heap[D1]? = some (.deferred (some [])) := (World.putObj_heap_other hD12).trans ((World.putObj_heap_other hD13).trans kd1)
  refine ⟨by simp, .inl ⟨_, _, rfl, run_takeDeferred kd3, ?_⟩⟩
  refine ⟨by simp, .inl ⟨_, _, rfl, run_takeDeferred hx3, ?_⟩⟩
  refine ⟨by simp, .inl ⟨_, _, rfl, run_takeDeferred hx1, ?_⟩⟩
  have hw8 : w.heap.size ≤ w8.heap.size := by have h1 := HW4.out.size; have h2 := HB48.out.size; omega
  have hd1 := HD1.out
  have hd2 := HD2.out
  have hd3 : w.heap.size ≤ D3 := by have h3 := HD3.out; omega
  have b3 := HB.out.trans (belowK_b (w := w) (Nat.le_refl _) w20 D3 _ (.deferred none) hd3 kd3 rfl rfl)
  have b2 := b3.trans (belowK_b (w := w) (Nat.le_refl _) _ D2 _ (.deferred none) (by omega) hx3 rfl rfl)
  have b1 := b2.trans (belowK_b (w := w) (Nat.le_refl _) _ D1 _ (.deferred none) (by omega) hx1 rfl rfl)
  exact ⟨_, results_tmp rfl _ _ _, rfl, b1⟩

end Go.Proofs.Ytbhbjblliegliaa.Sr
