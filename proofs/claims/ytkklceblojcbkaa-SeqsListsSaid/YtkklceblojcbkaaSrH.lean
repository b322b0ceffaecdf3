/- SeqsParts' law (written by gen_srh). -/
import Derived.Test.YtkklceblojcbkaaSrG
import Derived.Test.YtkklceblojcbkaaLaw
import Derived.Test.YtkklceblojcbkaaApp
import Derived.Deep.RegionHeld3
import Derived.BigRegion
import Derived.Deep.RegionHeld
import Derived.BigQuiet
import Derived.Deep.DeepCutAuto
import Derived.Deep.CutBlock
namespace Go.Proofs.Ytkklceblojcbkaa.Sr
open Go.RowKit Go.Proofs.Ytkklceblojcbkaa Go.Proofs.Ytkklceblojcbkaa.Sq
set_option linter.unusedVariables false
set_option linter.unusedSimpArgs false
set_option maxRecDepth 100000
theorem below_drewN {w w' : World} {m : Nat} (h : w' = w.drewN m) : Below w.heap.size w w' := by subst h; exact ⟨rfl, rfl, rfl, Nat.le_refl _, fun _ _ => rfl⟩
theorem lies_li {w : World} {B : Nat} {A : Option Addr} {m c : Nat} {L : List Int} (h : LI w B (.slice A m c) L) : Lies w B A m (fun k => .int .i64 (L.getD k 0)) := fun k hk => by
  have e := h.len
  subst e
  obtain ⟨A, c, e, h1, h2, h3⟩ := h
  injection e with e1 e2 e3
  subst e1
  obtain ⟨g, o, e, hg, hc⟩ := h3 k hk
  exact ⟨g, o, e, hg, by simpa [hk] using hc⟩
theorem range_ints (L : List Int) : (List.range L.length).map (fun k => Value.int .i64 (L.getD k 0)) = ints L := by
  refine List.ext_getElem (by simp [ints]) fun j h1 h2 => ?_
  simp at h1
  simp [ints, h1]
theorem li_app {ops : Array Oper} {o : Oper} {a : Act} {K : Act → World → Prop} {Q : Exit → Act → World → Prop} {E : Prop} (w : World) (hw : Region.wanted o (yielded ops a.tmps) = true) (s x : Operand)
    (hop : o.op = .call { callee := .builtin .append, args := #[s, x], argTypes := #[22, 22] }) (v : Value) (Z L : List Int) (ob : Option Nat) (hs : a.eval s = v) (h : Seg w 3 1 v Z.length (ints Z) ob)
    (xv : Value) (hx : a.eval x = xv) (hl : LI w w.heap.size xv L) (hlen : Z.length + L.length ≤ 1000)
    (hK : ∀ v' w' ob', Seg w' 3 1 v' (Z ++ L).length (ints (Z ++ L)) ob' → Turns w w' (fun k => ob = some k) → (ob' = ob ∨ ∃ g, ob' = some g ∧ w.heap.size ≤ g) → K (a.put o.dst v') w') :
    if Region.wanted o (yielded ops a.tmps) = true then Oper.wp Try.prog o a w K Q else E := by
  rw [if_pos hw]
  obtain ⟨i0, hi0, hz0, hz1, hz2⟩ := info_parts int_info
  obtain ⟨A, c, rfl, h1, h2, h3⟩ := id hl
  obtain ⟨v', w', ob', hrun, r1, r2, r3⟩ := run_append_lies (P := Try.prog) 22 o.type i0 _ 8 Try.underlying22 hi0 hz0 hz1 hz2 rfl h w.heap.size A L.length c _ (lies_li hl) (fun _ => rfl) (by unfold maxLen; omega) (by omega)
  rw [range_ints] at r1
  unfold Oper.wp
  simp [execOp, hop, resolve, invoke, builtin, hs, hx, hrun, Result.andThen]
  refine hK v' w' ob' ?_ r2 r3
  simpa [ints] using r1
theorem count_o (f : Value) (zs : List Int) {Bn : Nat} {A : Option Addr} {cap : Nat} {ob : Option Nat} (w : World) (h : OfS w f zs Bn A cap ob) (hz : zs.length ≤ 1000000) :
    Calls Try.prog 15 #[f] w fun e w' => e = .returned (.int .i64 zs.length) ∧ Below w.heap.size w w' := by
  obtain ⟨rfl, hr, hs⟩ := h
  exact callsIn_wide.1 (count_of Fence.wide 30 (fun _ => trivial) rfl (by omega) Bn zs A cap ob w hz ((hr.cell 0).trans rfl) hr.lt hs)
theorem take_at {P : Program} {ops : Array Oper} {Q : Exit → Act → World → Prop} {md : Region.Mode} {S : World → Prop} {fuel : Nat} {listed : Array Bool} {a : Act} {w : World} (i : Nat) (d : Tmp) (oi : Oper) {v : Value} (hi : ops[i]? = some oi) (hd : oi.dst = some d)
    (hs : Region.noSelect ops = true) (hf : Region.free md ops listed i = true) (hr : (Region.ready md ops listed).contains i = true)
    (hQ : ∀ c a w, Q (.panic c) (a.put oi.dst v) w → Q (.panic c) a w) (hy : YieldsIf P ops S oi v a) (hS : S w)
    (h : wpAnyH P md ops Q S fuel (listed.setIfInBounds i true) (a.put (some d) v) w) : wpAnyH P md ops Q S (fuel + 1) listed a w :=
  wpAnyH_take hi hs hf hr hQ hy hS (by rw [hd]; exact h)
set_option maxHeartbeats 8000000 in
theorem parts_hid (A B : Option Addr) (m n c c2 : Nat) (zs ys : List Int) (hm : m ≤ c) (hc : c ≤ 9223372036854775807) (hn : n ≤ c2) (hc2 : c2 ≤ 9223372036854775807) (k : Int) (hk : -9223372036854775808 ≤ k ∧ k ≤ 9223372036854775807) (w : World) (HL : Hid (LI w w.heap.size (.slice A m c) zs)) (HL2 : Hid (LI w w.heap.size (.slice B n c2) ys)) :
    Calls Try.prog 3 #[.slice A m c, .slice B n c2, .int .i64 k] w fun e w' => e = .returned (.bool true) ∧ Below w.heap.size w w' := by
  obtain ⟨mx, hmx⟩ : ∃ x, min m 20 = x := ⟨_, rfl⟩
  obtain ⟨mn, hmn⟩ : ∃ x, min n 20 = x := ⟨_, rfl⟩
  have hx0 : (if (20 : Int) < (m : Int) then (20 : Int) else (m : Int)) = (mx : Int) := by split <;> omega
  have hy0 : (if (20 : Int) < (n : Int) then (20 : Int) else (n : Int)) = (mn : Int) := by split <;> omega
  have hxm : mx ≤ m := by omega
  have hyn : mn ≤ n := by omega
  have hx20 : mx ≤ 20 := by omega
  have hy20 : mn ≤ 20 := by omega
  have HLm := Lib.hid HL.out.len
  have HLn := Lib.hid HL2.out.len
  clear hmx hmn
  go_enter Try.func3, Try.ntmps3
  go_wp2_with (go_at_call 8; refine (awake_any _).mono ?_; rintro e w1 ⟨rfl, hb1⟩; have HB1 := Lib.hid hb1; clear hb1)
  go_cut [7, 8] (fun s7 s8 wx => s7 = .slice A mx c ∧ s8 = .slice B mn c2 ∧ Hid (Below w.heap.size w wx))
  case first =>
    go_region
    go_wp2
    go_meet
    exact ⟨rfl, rfl, Lib.hid HB1.out.drew⟩
  obtain ⟨rfl, rfl, hbc⟩ := hcut
  clear HB1
  obtain ⟨kk, hK⟩ : ∃ kk, min k.toNat mx = kk := ⟨_, rfl⟩
  clear hx0 hy0
  go_upto_region 4 with fail
  go_cut [9] (fun s9 wx => s9 = .int .i64 kk ∧ wx = wc)
  case first =>
    go_wp2
    all_goals (go_meet; refine ⟨?_, rfl⟩; first | rfl | (congr 1; omega))
  obtain ⟨rfl, rfl⟩ := hcut
  obtain ⟨X, hX⟩ : ∃ X, zs.take mx = X := ⟨_, rfl⟩
  obtain ⟨Y, hY⟩ : ∃ Y, ys.take mn = Y := ⟨_, rfl⟩
  have hXl : X.length = mx := by rw [← hX, List.length_take]; have := HLm.out; omega
  have hYl : Y.length = mn := by rw [← hY, List.length_take]; have := HLn.out; omega
  have HX := Lib.hid ((HL.out.take mx (by have := HLm.out; omega)).below hbc.out hbc.out.size)
  have HY := Lib.hid ((HL2.out.take mn (by have := HLn.out; omega)).below hbc.out hbc.out.size)
  rw [hX] at HX
  rw [hY] at HY
  have HT : Hid (X.take k.toNat = X.take kk) := Lib.hid (by
    rw [← hK, ← hXl]
    rcases Nat.le_total k.toNat X.length with h | h
    · rw [Nat.min_eq_left h]
    · rw [Nat.min_eq_right h, List.take_of_length_le h, List.take_length])
  have HD : Hid (X.drop k.toNat = X.drop kk) := Lib.hid (by
    rw [← hK, ← hXl]
    rcases Nat.le_total k.toNat X.length with h | h
    · rw [Nat.min_eq_left h]
    · rw [Nat.min_eq_right h, List.drop_eq_nil_of_le h, List.drop_length])
  have HK : Hid (kk ≤ X.length) := Lib.hid (by omega)
  have HB := hbc
  have hKm : kk ≤ mx := by omega
  have hKc : kk ≤ c := by omega
  have HXL := Lib.hid hXl
  have HYL := Lib.hid hYl
  have hXb : X.length ≤ 20 := by omega
  have hYb : Y.length ≤ 20 := by omega
  clear HL HL2 HLm HLn hbc hX hY hK hXl hYl
  have HL1 : Hid ((X.take kk).length ≤ 1000000) := Lib.hid (by simp; omega)
  have HL2 : Hid ((X.drop kk).length ≤ 1000000) := Lib.hid (by simp; omega)
  have HL3 : Hid ((X ++ Y).length ≤ 1000000) := Lib.hid (by simp; omega)
  have HL0 : Hid (X.length ≤ 1000000) := Lib.hid (by omega)
  obtain ⟨A9, hA9⟩ : ∃ A9, (if c = kk then A else Option.map (fun x => x.add kk) A) = A9 := ⟨_, rfl⟩
  have HDI : Hid (∀ V : World, LI V V.heap.size (.slice A mx c) X → LI V V.heap.size (.slice A9 (mx - kk) (c - kk)) (X.drop kk)) := Lib.hid (fun V h => by have := h.dropi kk HK.out; rwa [hA9] at this)
  go_wp2_with fail
  refine (of_l X _ _ HX.out (by omega)).mono ?_
  rintro e w3 ⟨f1, B1, A1, c1, o1, rfl, hof, hb⟩
  have HXn := Lib.hid (HX.out.below hb hb.size)
  clear HX
  have HX := HXn
  clear HXn
  have HYn := Lib.hid (HY.out.below hb hb.size)
  clear HY
  have HY := HYn
  clear HYn
  have HBn := Lib.hid (HB.out.trans (hb.mono HB.out.size))
  clear HB
  have HB := HBn
  clear HBn
  have HF := Lib.hid (hof.it (by omega))
  clear hof
  clear hb
  go_wp2_with fail
  refine (take_it f1 X 1 k _ (by omega) HF.out).mono ?_
  rintro e w4 ⟨f2, rfl, hit, hb⟩
  have HXn := Lib.hid (HX.out.below hb hb.size)
  clear HX
  have HX := HXn
  clear HXn
  have HYn := Lib.hid (HY.out.below hb hb.size)
  clear HY
  have HY := HYn
  clear HYn
  have HBn := Lib.hid (HB.out.trans (hb.mono HB.out.size))
  clear HB
  have HB := HBn
  clear HBn
  have HF2 := Lib.hid hit
  clear hit HF
  clear hb
  go_wp2_with fail
  refine (all_it f2 (X.take k.toNat) 5 _ (by simp; omega) HF2.out).mono ?_
  rintro e w5 ⟨v10, o10, rfl, hsg, hb⟩
  have HXn := Lib.hid (HX.out.below hb hb.size)
  clear HX
  have HX := HXn
  clear HXn
  have HYn := Lib.hid (HY.out.below hb hb.size)
  clear HY
  have HY := HYn
  clear HYn
  have HBn := Lib.hid (HB.out.trans (hb.mono HB.out.size))
  clear HB
  have HB := HBn
  clear HBn
  have HV10 := Lib.hid (LI.of_seg hsg)
  clear hsg HF2
  clear hb
  go_wp2_with fail
  refine (of_l X _ _ HX.out (by omega)).mono ?_
  rintro e w6 ⟨f3, B1, A1, c1, o1, rfl, hof, hb⟩
  have HXn := Lib.hid (HX.out.below hb hb.size)
  clear HX
  have HX := HXn
  clear HXn
  have HYn := Lib.hid (HY.out.below hb hb.size)
  clear HY
  have HY := HYn
  clear HYn
  have HV10n := Lib.hid (HV10.out.below hb hb.size)
  clear HV10
  have HV10 := HV10n
  clear HV10n
  have HBn := Lib.hid (HB.out.trans (hb.mono HB.out.size))
  clear HB
  have HB := HBn
  clear HBn
  have HF := Lib.hid (hof.it (by omega))
  clear hof
  clear hb
  go_wp2_with fail
  refine (skip_it f3 X 1 k _ (by omega) HF.out).mono ?_
  rintro e w7 ⟨f4, rfl, hit, hb⟩
  have HXn := Lib.hid (HX.out.below hb hb.size)
  clear HX
  have HX := HXn
  clear HXn
  have HYn := Lib.hid (HY.out.below hb hb.size)
  clear HY
  have HY := HYn
  clear HYn
  have HV10n := Lib.hid (HV10.out.below hb hb.size)
  clear HV10
  have HV10 := HV10n
  clear HV10n
  have HBn := Lib.hid (HB.out.trans (hb.mono HB.out.size))
  clear HB
  have HB := HBn
  clear HBn
  have HF2 := Lib.hid hit
  clear hit HF
  clear hb
  go_wp2_with fail
  refine (all_it f4 (X.drop k.toNat) 5 _ (by simp; omega) HF2.out).mono ?_
  rintro e w8 ⟨v11, o11, rfl, hsg, hb⟩
  have HXn := Lib.hid (HX.out.below hb hb.size)
  clear HX
  have HX := HXn
  clear HXn
  have HYn := Lib.hid (HY.out.below hb hb.size)
  clear HY
  have HY := HYn
  clear HYn
  have HV10n := Lib.hid (HV10.out.below hb hb.size)
  clear HV10
  have HV10 := HV10n
  clear HV10n
  have HBn := Lib.hid (HB.out.trans (hb.mono HB.out.size))
  clear HB
  have HB := HBn
  clear HBn
  have HV11 := Lib.hid (LI.of_seg hsg)
  clear hsg HF2
  clear hb
  go_wp2_with fail
  refine (of_l X _ _ HX.out (by omega)).mono ?_
  rintro e w9 ⟨f5, B1, A1, c1, o1, rfl, hof, hb⟩
  have HXn := Lib.hid (HX.out.below hb hb.size)
  clear HX
  have HX := HXn
  clear HXn
  have HYn := Lib.hid (HY.out.below hb hb.size)
  clear HY
  have HY := HYn
  clear HYn
  have HV10n := Lib.hid (HV10.out.below hb hb.size)
  clear HV10
  have HV10 := HV10n
  clear HV10n
  have HV11n := Lib.hid (HV11.out.below hb hb.size)
  clear HV11
  have HV11 := HV11n
  clear HV11n
  have HBn := Lib.hid (HB.out.trans (hb.mono HB.out.size))
  clear HB
  have HB := HBn
  clear HBn
  have HF := Lib.hid (hof.it (by omega))
  clear hof
  clear hb
  go_wp2_with fail
  refine (of_l Y _ _ HY.out (by omega)).mono ?_
  rintro e w10 ⟨f6, B2, A2, c3, o2, rfl, hof, hb⟩
  have HXn := Lib.hid (HX.out.below hb hb.size)
  clear HX
  have HX := HXn
  clear HXn
  have HYn := Lib.hid (HY.out.below hb hb.size)
  clear HY
  have HY := HYn
  clear HYn
  have HV10n := Lib.hid (HV10.out.below hb hb.size)
  clear HV10
  have HV10 := HV10n
  clear HV10n
  have HV11n := Lib.hid (HV11.out.below hb hb.size)
  clear HV11
  have HV11 := HV11n
  clear HV11n
  have HBn := Lib.hid (HB.out.trans (hb.mono HB.out.size))
  clear HB
  have HB := HBn
  clear HBn
  have HF2 := Lib.hid (hof.it (by omega))
  have HFn := Lib.hid (HF.out.below hb)
  clear hof HF
  have HF := HFn
  clear HFn
  clear hb
  go_wp2_with fail
  refine (both_it f5 f6 X Y 1 _ HF.out HF2.out).mono ?_
  rintro e w11 ⟨f7, rfl, hit, hb⟩
  have HXn := Lib.hid (HX.out.below hb hb.size)
  clear HX
  have HX := HXn
  clear HXn
  have HYn := Lib.hid (HY.out.below hb hb.size)
  clear HY
  have HY := HYn
  clear HYn
  have HV10n := Lib.hid (HV10.out.below hb hb.size)
  clear HV10
  have HV10 := HV10n
  clear HV10n
  have HV11n := Lib.hid (HV11.out.below hb hb.size)
  clear HV11
  have HV11 := HV11n
  clear HV11n
  have HBn := Lib.hid (HB.out.trans (hb.mono HB.out.size))
  clear HB
  have HB := HBn
  clear HBn
  have HF3 := Lib.hid hit
  clear hit HF HF2
  clear hb
  go_wp2_with fail
  refine (all_it f7 (X ++ Y) 5 _ (by simp; omega) HF3.out).mono ?_
  rintro e w12 ⟨v12, o12, rfl, hsg, hb⟩
  have HXn := Lib.hid (HX.out.below hb hb.size)
  clear HX
  have HX := HXn
  clear HXn
  have HYn := Lib.hid (HY.out.below hb hb.size)
  clear HY
  have HY := HYn
  clear HYn
  have HV10n := Lib.hid (HV10.out.below hb hb.size)
  clear HV10
  have HV10 := HV10n
  clear HV10n
  have HV11n := Lib.hid (HV11.out.below hb hb.size)
  clear HV11
  have HV11 := HV11n
  clear HV11n
  have HBn := Lib.hid (HB.out.trans (hb.mono HB.out.size))
  clear HB
  have HB := HBn
  clear HBn
  have HV12 := Lib.hid (LI.of_seg hsg)
  clear hsg HF3
  clear hb
  rw [HT.out] at HV10
  rw [HD.out] at HV11
  go_upto_region 7 with fail
  have hb : Below w12.heap.size w12 w12.drew := (Below.refl _ w12).drew
  have HXn := Lib.hid (HX.out.below hb hb.size)
  clear HX
  have HX := HXn
  clear HXn
  have HYn := Lib.hid (HY.out.below hb hb.size)
  clear HY
  have HY := HYn
  clear HYn
  have HV10n := Lib.hid (HV10.out.below hb hb.size)
  clear HV10
  have HV10 := HV10n
  clear HV10n
  have HV11n := Lib.hid (HV11.out.below hb hb.size)
  clear HV11
  have HV11 := HV11n
  clear HV11n
  have HV12n := Lib.hid (HV12.out.below hb hb.size)
  clear HV12
  have HV12 := HV12n
  clear HV12n
  have HBn := Lib.hid (HB.out.trans (hb.mono HB.out.size))
  clear HB
  have HB := HBn
  clear HBn
  clear hb
  refine wp_region_noPanic ?_
  refine wp_region_held_drew (S := (fun _ => True)) (by kernel_rfl) ?_ (fun hHeld => ?_)
  · exact trivial
  refine wpAnyH_ready (rs := [0]) (by kernel_rfl) (by simp) ?_
  refine AllReadyH.cons rfl (fun K hK => ?_) AllReadyH.nil
  go_simp
  go_at_call 8
  refine (awake_any _).mono ?_
  rintro e w13 ⟨rfl, hb⟩
  have HXn := Lib.hid (HX.out.below hb hb.size)
  clear HX
  have HX := HXn
  clear HXn
  have HYn := Lib.hid (HY.out.below hb hb.size)
  clear HY
  have HY := HYn
  clear HYn
  have HV10n := Lib.hid (HV10.out.below hb hb.size)
  clear HV10
  have HV10 := HV10n
  clear HV10n
  have HV11n := Lib.hid (HV11.out.below hb hb.size)
  clear HV11
  have HV11 := HV11n
  clear HV11n
  have HV12n := Lib.hid (HV12.out.below hb hb.size)
  clear HV12
  have HV12 := HV12n
  clear HV12n
  have HBn := Lib.hid (HB.out.trans (hb.mono HB.out.size))
  clear HB
  have HB := HBn
  clear HBn
  clear hb

  try go_wp2_with fail
  refine hK.out _ _ ?_ (fun hHeld => ?_)
  · exact trivial
  clear hK K
  try simp only [Act.put, List.setIfInBounds_toArray, List.set_cons_zero, List.set_cons_succ]
  refine take_at 1 47 _ (v := ?v71) rfl rfl (by kernel_rfl) (by kernel_rfl) (by kernel_rfl) (fun _ _ _ h => h) (Or.inl ⟨by rfl, ?hy71⟩) (by assumption) ?rest71
  case hy71 =>
    intro wX hSw
    try dsimp only at hSw
    go_simp
    first
    | done
    | (with_reducible rfl)
  try simp only [Act.put, List.setIfInBounds_toArray, List.set_cons_zero, List.set_cons_succ]
  refine take_at 2 48 _ (v := ?v72) rfl rfl (by kernel_rfl) (by kernel_rfl) (by kernel_rfl) (fun _ _ _ h => h) (Or.inl ⟨by rfl, ?hy72⟩) (by assumption) ?rest72
  case hy72 =>
    intro wX hSw
    try dsimp only at hSw
    go_simp
    first
    | done
    | (with_reducible rfl)
  try simp only [Act.put, List.setIfInBounds_toArray, List.set_cons_zero, List.set_cons_succ]
  refine take_at 5 51 _ (v := ?v75) rfl rfl (by kernel_rfl) (by kernel_rfl) (by kernel_rfl) (fun _ _ _ h => h) (Or.inl ⟨by rfl, ?hy75⟩) (by assumption) ?rest75
  case hy75 =>
    intro wX hSw
    try dsimp only at hSw
    go_simp
    first
    | done
    | (with_reducible rfl)
  try simp only [Act.put, List.setIfInBounds_toArray, List.set_cons_zero, List.set_cons_succ]
  refine wpAnyH_ready (rs := [3]) (by kernel_rfl) (by simp) ?_
  refine AllReadyH.cons rfl (fun K hK => ?_) AllReadyH.nil
  go_simp
  go_at_call 11
  refine (of_l X _ _ HX.out (by omega)).mono ?_
  rintro e w14 ⟨g1, B1, A1, c1, o1, rfl, hof, hb⟩
  have HXn := Lib.hid (HX.out.below hb hb.size)
  clear HX
  have HX := HXn
  clear HXn
  have HYn := Lib.hid (HY.out.below hb hb.size)
  clear HY
  have HY := HYn
  clear HYn
  have HV10n := Lib.hid (HV10.out.below hb hb.size)
  clear HV10
  have HV10 := HV10n
  clear HV10n
  have HV11n := Lib.hid (HV11.out.below hb hb.size)
  clear HV11
  have HV11 := HV11n
  clear HV11n
  have HV12n := Lib.hid (HV12.out.below hb hb.size)
  clear HV12
  have HV12 := HV12n
  clear HV12n
  have HBn := Lib.hid (HB.out.trans (hb.mono HB.out.size))
  clear HB
  have HB := HBn
  clear HBn
  have HF := Lib.hid (hof.it (by omega))
  clear hof
  clear hb

  try go_wp2_with fail
  refine hK.out _ _ ?_ (fun hHeld => ?_)
  · exact trivial
  clear hK K
  try simp only [Act.put, List.setIfInBounds_toArray, List.set_cons_zero, List.set_cons_succ]
  refine wpAnyH_ready (rs := [4]) (by kernel_rfl) (by simp) ?_
  refine AllReadyH.cons rfl (fun K hK => ?_) AllReadyH.nil
  go_simp
  go_at_call 9
  refine (all_it g1 X 1 _ (by omega) HF.out).mono ?_
  rintro e w15 ⟨v50, o50, rfl, hsg, hb⟩
  have HXn := Lib.hid (HX.out.below hb hb.size)
  clear HX
  have HX := HXn
  clear HXn
  have HYn := Lib.hid (HY.out.below hb hb.size)
  clear HY
  have HY := HYn
  clear HYn
  have HV10n := Lib.hid (HV10.out.below hb hb.size)
  clear HV10
  have HV10 := HV10n
  clear HV10n
  have HV11n := Lib.hid (HV11.out.below hb hb.size)
  clear HV11
  have HV11 := HV11n
  clear HV11n
  have HV12n := Lib.hid (HV12.out.below hb hb.size)
  clear HV12
  have HV12 := HV12n
  clear HV12n
  have HBn := Lib.hid (HB.out.trans (hb.mono HB.out.size))
  clear HB
  have HB := HBn
  clear HBn
  have HV50 := Lib.hid (LI.of_seg hsg)
  clear hsg HF
  clear hb

  try go_wp2_with fail
  refine hK.out _ _ ?_ (fun hHeld => ?_)
  · exact trivial
  clear hK K
  try simp only [Act.put, List.setIfInBounds_toArray, List.set_cons_zero, List.set_cons_succ]
  refine wpAnyH_ready (rs := [6]) (by kernel_rfl) (by simp) ?_
  refine AllReadyH.cons rfl (fun K hK => ?_) AllReadyH.nil
  go_simp
  have HSM := Lib.hid (same_l X _ _ _ HV50.out HX.out HL0.out)
  go_at_call 14
  with_reducible refine HSM.out.mono ?_
  clear HSM
  rintro e w16 ⟨rfl, mq, hq⟩
  have hb := below_drewN hq
  have HXn := Lib.hid (HX.out.below hb hb.size)
  clear HX
  have HX := HXn
  clear HXn
  have HYn := Lib.hid (HY.out.below hb hb.size)
  clear HY
  have HY := HYn
  clear HYn
  have HV10n := Lib.hid (HV10.out.below hb hb.size)
  clear HV10
  have HV10 := HV10n
  clear HV10n
  have HV11n := Lib.hid (HV11.out.below hb hb.size)
  clear HV11
  have HV11 := HV11n
  clear HV11n
  have HV12n := Lib.hid (HV12.out.below hb hb.size)
  clear HV12
  have HV12 := HV12n
  clear HV12n
  have HBn := Lib.hid (HB.out.trans (hb.mono HB.out.size))
  clear HB
  have HB := HBn
  clear HBn
  clear hb hq
  clear HV50

  try go_wp2_with fail
  refine hK.out _ _ ?_ (fun hHeld => ?_)
  · exact trivial
  clear hK K
  try simp only [Act.put, List.setIfInBounds_toArray, List.set_cons_zero, List.set_cons_succ]
  refine take_at 7 53 _ (v := ?v77) rfl rfl (by kernel_rfl) (by kernel_rfl) (by kernel_rfl) (fun _ _ _ h => h) (Or.inl ⟨by rfl, ?hy77⟩) (by assumption) ?rest77
  case hy77 =>
    intro wX hSw
    try dsimp only at hSw
    go_simp
    first
    | done
    | (with_reducible rfl)
  try simp only [Act.put, List.setIfInBounds_toArray, List.set_cons_zero, List.set_cons_succ]
  refine take_at 8 54 _ (v := ?v78) rfl rfl (by kernel_rfl) (by kernel_rfl) (by kernel_rfl) (fun _ _ _ h => h) (Or.inl ⟨by rfl, ?hy78⟩) (by assumption) ?rest78
  case hy78 =>
    intro wX hSw
    try dsimp only at hSw
    go_simp
    first
    | done
    | (with_reducible rfl)
  try simp only [Act.put, List.setIfInBounds_toArray, List.set_cons_zero, List.set_cons_succ]
  refine take_at 9 55 _ (v := ?v79) rfl rfl (by kernel_rfl) (by kernel_rfl) (by kernel_rfl) (fun _ _ _ h => h) (Or.inl ⟨by rfl, ?hy79⟩) (by assumption) ?rest79
  case hy79 =>
    intro wX hSw
    try dsimp only at hSw
    go_simp
    first
    | done
    | (with_reducible rfl)
  try simp only [Act.put, List.setIfInBounds_toArray, List.set_cons_zero, List.set_cons_succ]
  refine take_at 10 56 _ (v := ?v710) rfl rfl (by kernel_rfl) (by kernel_rfl) (by kernel_rfl) (fun _ _ _ h => h) (Or.inl ⟨by rfl, ?hy710⟩) (by assumption) ?rest710
  case hy710 =>
    intro wX hSw
    try dsimp only at hSw
    go_simp
    first
    | done
    | (with_reducible rfl)
  try simp only [Act.put, List.setIfInBounds_toArray, List.set_cons_zero, List.set_cons_succ]
  refine take_at 11 57 _ (v := ?v711) rfl rfl (by kernel_rfl) (by kernel_rfl) (by kernel_rfl) (fun _ _ _ h => h) (Or.inl ⟨by rfl, ?hy711⟩) (by assumption) ?rest711
  case hy711 =>
    intro wX hSw
    try dsimp only at hSw
    go_simp
    first
    | done
    | (with_reducible rfl)
  try simp only [Act.put, List.setIfInBounds_toArray, List.set_cons_zero, List.set_cons_succ]
  refine take_at 12 58 _ (v := ?v712) rfl rfl (by kernel_rfl) (by kernel_rfl) (by kernel_rfl) (fun _ _ _ h => h) (Or.inl ⟨by rfl, ?hy712⟩) (by assumption) ?rest712
  case hy712 =>
    intro wX hSw
    try dsimp only at hSw
    go_simp
    first
    | done
    | (with_reducible rfl)
  try simp only [Act.put, List.setIfInBounds_toArray, List.set_cons_zero, List.set_cons_succ]
  refine wpAnyH_ready (rs := [13]) (by kernel_rfl) (by simp) ?_
  refine AllReadyH.cons rfl (fun K hK => ?_) AllReadyH.nil
  go_simp
  have HSM := Lib.hid (same_l (X.take kk) _ _ _ HV10.out (HX.out.take kk HK.out) HL1.out)
  go_at_call 14
  with_reducible refine HSM.out.mono ?_
  clear HSM
  rintro e w17 ⟨rfl, mq, hq⟩
  have hb := below_drewN hq
  have HXn := Lib.hid (HX.out.below hb hb.size)
  clear HX
  have HX := HXn
  clear HXn
  have HYn := Lib.hid (HY.out.below hb hb.size)
  clear HY
  have HY := HYn
  clear HYn
  have HV10n := Lib.hid (HV10.out.below hb hb.size)
  clear HV10
  have HV10 := HV10n
  clear HV10n
  have HV11n := Lib.hid (HV11.out.below hb hb.size)
  clear HV11
  have HV11 := HV11n
  clear HV11n
  have HV12n := Lib.hid (HV12.out.below hb hb.size)
  clear HV12
  have HV12 := HV12n
  clear HV12n
  have HBn := Lib.hid (HB.out.trans (hb.mono HB.out.size))
  clear HB
  have HB := HBn
  clear HBn
  clear hb hq

  try go_wp2_with fail
  refine hK.out _ _ ?_ (fun hHeld => ?_)
  · exact trivial
  clear hK K
  try simp only [Act.put, List.setIfInBounds_toArray, List.set_cons_zero, List.set_cons_succ]
  refine take_at 14 60 _ (v := ?v714) rfl rfl (by kernel_rfl) (by kernel_rfl) (by kernel_rfl) (fun _ _ _ h => h) (Or.inl ⟨by rfl, ?hy714⟩) (by assumption) ?rest714
  case hy714 =>
    intro wX hSw
    try dsimp only at hSw
    go_simp
    first
    | done
    | (with_reducible rfl)
  try simp only [Act.put, List.setIfInBounds_toArray, List.set_cons_zero, List.set_cons_succ]
  refine take_at 15 61 _ (v := ?v715) rfl rfl (by kernel_rfl) (by kernel_rfl) (by kernel_rfl) (fun _ _ _ h => h) (Or.inl ⟨by rfl, ?hy715⟩) (by assumption) ?rest715
  case hy715 =>
    intro wX hSw
    try dsimp only at hSw
    go_simp
    first
    | done
    | (with_reducible rfl)
  try simp only [Act.put, List.setIfInBounds_toArray, List.set_cons_zero, List.set_cons_succ]
  refine take_at 16 62 _ (v := ?v716) rfl rfl (by kernel_rfl) (by kernel_rfl) (by kernel_rfl) (fun _ _ _ h => h) (Or.inl ⟨by rfl, ?hy716⟩) (by assumption) ?rest716
  case hy716 =>
    intro wX hSw
    try dsimp only at hSw
    go_simp
    first
    | done
    | (with_reducible rfl)
  try simp only [Act.put, List.setIfInBounds_toArray, List.set_cons_zero, List.set_cons_succ]
  refine take_at 17 63 _ (v := ?v717) rfl rfl (by kernel_rfl) (by kernel_rfl) (by kernel_rfl) (fun _ _ _ h => h) (Or.inl ⟨by rfl, ?hy717⟩) (by assumption) ?rest717
  case hy717 =>
    intro wX hSw
    try dsimp only at hSw
    go_simp
    first
    | done
    | (with_reducible rfl)
  try simp only [Act.put, List.setIfInBounds_toArray, List.set_cons_zero, List.set_cons_succ]
  refine take_at 18 64 _ (v := ?v718) rfl rfl (by kernel_rfl) (by kernel_rfl) (by kernel_rfl) (fun _ _ _ h => h) (Or.inl ⟨by rfl, ?hy718⟩) (by assumption) ?rest718
  case hy718 =>
    intro wX hSw
    try dsimp only at hSw
    go_simp
    first
    | done
    | (with_reducible rfl)
  try simp only [Act.put, List.setIfInBounds_toArray, List.set_cons_zero, List.set_cons_succ]
  refine take_at 19 65 _ (v := ?v719) rfl rfl (by kernel_rfl) (by kernel_rfl) (by kernel_rfl) (fun _ _ _ h => h) (Or.inl ⟨by rfl, ?hy719⟩) (by assumption) ?rest719
  case hy719 =>
    intro wX hSw
    try dsimp only at hSw
    go_simp
    first
    | done
    | (with_reducible rfl)
  try simp only [Act.put, List.setIfInBounds_toArray, List.set_cons_zero, List.set_cons_succ]
  refine wpAnyH_ready (rs := [20]) (by kernel_rfl) (by simp) ?_
  refine AllReadyH.cons rfl (fun K hK => ?_) AllReadyH.nil
  go_simp
  have HSM := Lib.hid (same_l (X.drop kk) _ _ _ HV11.out (HDI.out _ HX.out) HL2.out)
  go_at_call 14
  with_reducible refine HSM.out.mono ?_
  clear HSM
  rintro e w18 ⟨rfl, mq, hq⟩
  have hb := below_drewN hq
  have HXn := Lib.hid (HX.out.below hb hb.size)
  clear HX
  have HX := HXn
  clear HXn
  have HYn := Lib.hid (HY.out.below hb hb.size)
  clear HY
  have HY := HYn
  clear HYn
  have HV10n := Lib.hid (HV10.out.below hb hb.size)
  clear HV10
  have HV10 := HV10n
  clear HV10n
  have HV11n := Lib.hid (HV11.out.below hb hb.size)
  clear HV11
  have HV11 := HV11n
  clear HV11n
  have HV12n := Lib.hid (HV12.out.below hb hb.size)
  clear HV12
  have HV12 := HV12n
  clear HV12n
  have HBn := Lib.hid (HB.out.trans (hb.mono HB.out.size))
  clear HB
  have HB := HBn
  clear HBn
  clear hb hq

  try go_wp2_with fail
  refine hK.out _ _ ?_ (fun hHeld => ?_)
  · exact trivial
  clear hK K
  try simp only [Act.put, List.setIfInBounds_toArray, List.set_cons_zero, List.set_cons_succ]
  refine take_at 21 67 _ (v := ?v721) rfl rfl (by kernel_rfl) (by kernel_rfl) (by kernel_rfl) (fun _ _ _ h => h) (Or.inl ⟨by rfl, ?hy721⟩) (by assumption) ?rest721
  case hy721 =>
    intro wX hSw
    try dsimp only at hSw
    go_simp
    first
    | done
    | (with_reducible rfl)
  try simp only [Act.put, List.setIfInBounds_toArray, List.set_cons_zero, List.set_cons_succ]
  refine take_at 22 68 _ (v := ?v722) rfl rfl (by kernel_rfl) (by kernel_rfl) (by kernel_rfl) (fun _ _ _ h => h) (Or.inl ⟨by rfl, ?hy722⟩) (by assumption) ?rest722
  case hy722 =>
    intro wX hSw
    try dsimp only at hSw
    go_simp
    first
    | done
    | (with_reducible rfl)
  try simp only [Act.put, List.setIfInBounds_toArray, List.set_cons_zero, List.set_cons_succ]
  refine take_at 23 69 _ (v := ?v723) rfl rfl (by kernel_rfl) (by kernel_rfl) (by kernel_rfl) (fun _ _ _ h => h) (Or.inl ⟨by rfl, ?hy723⟩) (by assumption) ?rest723
  case hy723 =>
    intro wX hSw
    try dsimp only at hSw
    go_simp
    first
    | done
    | (with_reducible rfl)
  try simp only [Act.put, List.setIfInBounds_toArray, List.set_cons_zero, List.set_cons_succ]
  refine take_at 25 71 _ (v := ?v725) rfl rfl (by kernel_rfl) (by kernel_rfl) (by kernel_rfl) (fun _ _ _ h => h) (Or.inl ⟨by rfl, ?hy725⟩) (by assumption) ?rest725
  case hy725 =>
    intro wX hSw
    try dsimp only at hSw
    go_simp
    first
    | done
    | (with_reducible rfl)
  try simp only [Act.put, List.setIfInBounds_toArray, List.set_cons_zero, List.set_cons_succ]
  refine take_at 27 73 _ (v := ?v727) rfl rfl (by kernel_rfl) (by kernel_rfl) (by kernel_rfl) (fun _ _ _ h => h) (Or.inl ⟨by rfl, ?hy727⟩) (by assumption) ?rest727
  case hy727 =>
    intro wX hSw
    try dsimp only at hSw
    go_simp
    first
    | done
    | (with_reducible rfl)
  try simp only [Act.put, List.setIfInBounds_toArray, List.set_cons_zero, List.set_cons_succ]
  refine wpAnyH_ready (rs := [24]) (by kernel_rfl) (by simp) ?_
  refine AllReadyH.cons rfl (fun K hK => ?_) AllReadyH.nil
  go_simp
  obtain ⟨w19, hw19⟩ : ∃ x, w18.alloc (.cells #[] 3) = x := ⟨_, rfl⟩
  have hb : Below w18.heap.size w18 w19 := by rw [← hw19]; exact (Below.refl _ w18).alloc (Nat.le_refl _) _
  rw [hw19]
  have HXn := Lib.hid (HX.out.below hb hb.size)
  clear HX
  have HX := HXn
  clear HXn
  have HYn := Lib.hid (HY.out.below hb hb.size)
  clear HY
  have HY := HYn
  clear HYn
  have HV10n := Lib.hid (HV10.out.below hb hb.size)
  clear HV10
  have HV10 := HV10n
  clear HV10n
  have HV11n := Lib.hid (HV11.out.below hb hb.size)
  clear HV11
  have HV11 := HV11n
  clear HV11n
  have HV12n := Lib.hid (HV12.out.below hb hb.size)
  clear HV12
  have HV12 := HV12n
  clear HV12n
  have HBn := Lib.hid (HB.out.trans (hb.mono HB.out.size))
  clear HB
  have HB := HBn
  clear HBn
  clear hb hw19

  try go_wp2_with fail
  refine hK.out _ _ ?_ (fun hHeld => ?_)
  · exact trivial
  clear hK K
  try simp only [Act.put, List.setIfInBounds_toArray, List.set_cons_zero, List.set_cons_succ]
  refine wpAnyH_ready (rs := [26]) (by kernel_rfl) (by simp) ?_
  refine AllReadyH.cons rfl (fun K hK => ?_) AllReadyH.nil
  refine li_app _ (by rfl) _ _ rfl _ [] X none rfl (Sq.seg_zero _ _) _ rfl HX.out (by simp; omega) ?_
  intro v72 w20 ob1 hs1 ht1 ho1
  have HS1 := Lib.hid hs1
  have HB1 := Lib.hid (below_turn (Below.refl _ _) ht1 (Nat.le_refl _))
  have HO1 := Lib.hid ho1
  have HY1 := Lib.hid (HY.out.below HB1.out HB1.out.size)
  clear hs1 ht1 ho1
  refine hK.out _ _ ?_ (fun hHeld => ?_)
  · exact trivial
  clear hK K
  try simp only [Act.put, List.setIfInBounds_toArray, List.set_cons_zero, List.set_cons_succ]
  refine wpAnyH_ready (rs := [28]) (by kernel_rfl) (by simp) ?_
  refine AllReadyH.cons rfl (fun K hK => ?_) AllReadyH.nil
  refine li_app _ (by rfl) _ _ rfl v72 ([] ++ X) Y ob1 rfl HS1.out _ rfl HY1.out (by simp; omega) ?_
  intro v74 w21 ob2 hs2 ht2 ho2
  have hb := ht2.below HB1.out (HB1.out.size) (fun g hg e => by
    rcases HO1.out with h | ⟨g', h, hg'⟩
    · rw [h] at e; cases e
    · rw [h] at e; injection e with e; omega)
  have HV74 := Lib.hid (LI.of_seg hs2)
  rw [List.nil_append] at HV74
  have HXn := Lib.hid (HX.out.below hb hb.size)
  clear HX
  have HX := HXn
  clear HXn
  have HYn := Lib.hid (HY.out.below hb hb.size)
  clear HY
  have HY := HYn
  clear HYn
  have HV10n := Lib.hid (HV10.out.below hb hb.size)
  clear HV10
  have HV10 := HV10n
  clear HV10n
  have HV11n := Lib.hid (HV11.out.below hb hb.size)
  clear HV11
  have HV11 := HV11n
  clear HV11n
  have HV12n := Lib.hid (HV12.out.below hb hb.size)
  clear HV12
  have HV12 := HV12n
  clear HV12n
  have HBn := Lib.hid (HB.out.trans (hb.mono HB.out.size))
  clear HB
  have HB := HBn
  clear HBn
  clear hb hs2 ht2 ho2 HS1 HB1 HO1 HY1
  refine hK.out _ _ ?_ (fun hHeld => ?_)
  · exact trivial
  clear hK K
  try simp only [Act.put, List.setIfInBounds_toArray, List.set_cons_zero, List.set_cons_succ]
  refine wpAnyH_ready (rs := [29]) (by kernel_rfl) (by simp) ?_
  refine AllReadyH.cons rfl (fun K hK => ?_) AllReadyH.nil
  go_simp
  have HSM := Lib.hid (same_l (X ++ Y) _ _ _ HV12.out HV74.out HL3.out)
  go_at_call 14
  with_reducible refine HSM.out.mono ?_
  clear HSM
  rintro e w22 ⟨rfl, mq, hq⟩
  have hb := below_drewN hq
  have HXn := Lib.hid (HX.out.below hb hb.size)
  clear HX
  have HX := HXn
  clear HXn
  have HYn := Lib.hid (HY.out.below hb hb.size)
  clear HY
  have HY := HYn
  clear HYn
  have HV10n := Lib.hid (HV10.out.below hb hb.size)
  clear HV10
  have HV10 := HV10n
  clear HV10n
  have HV11n := Lib.hid (HV11.out.below hb hb.size)
  clear HV11
  have HV11 := HV11n
  clear HV11n
  have HV12n := Lib.hid (HV12.out.below hb hb.size)
  clear HV12
  have HV12 := HV12n
  clear HV12n
  have HBn := Lib.hid (HB.out.trans (hb.mono HB.out.size))
  clear HB
  have HB := HBn
  clear HBn
  clear hb hq

  try go_wp2_with fail
  refine hK.out _ _ ?_ (fun hHeld => ?_)
  · exact trivial
  clear hK K
  try simp only [Act.put, List.setIfInBounds_toArray, List.set_cons_zero, List.set_cons_succ]
  refine take_at 30 76 _ (v := ?v730) rfl rfl (by kernel_rfl) (by kernel_rfl) (by kernel_rfl) (fun _ _ _ h => h) (Or.inl ⟨by rfl, ?hy730⟩) (by assumption) ?rest730
  case hy730 =>
    intro wX hSw
    try dsimp only at hSw
    go_simp
    first
    | done
    | (with_reducible rfl)
  try simp only [Act.put, List.setIfInBounds_toArray, List.set_cons_zero, List.set_cons_succ]
  refine take_at 31 77 _ (v := ?v731) rfl rfl (by kernel_rfl) (by kernel_rfl) (by kernel_rfl) (fun _ _ _ h => h) (Or.inl ⟨by rfl, ?hy731⟩) (by assumption) ?rest731
  case hy731 =>
    intro wX hSw
    try dsimp only at hSw
    go_simp
    first
    | done
    | (with_reducible rfl)
  try simp only [Act.put, List.setIfInBounds_toArray, List.set_cons_zero, List.set_cons_succ]
  refine take_at 32 78 _ (v := ?v732) rfl rfl (by kernel_rfl) (by kernel_rfl) (by kernel_rfl) (fun _ _ _ h => h) (Or.inl ⟨by rfl, ?hy732⟩) (by assumption) ?rest732
  case hy732 =>
    intro wX hSw
    try dsimp only at hSw
    go_simp
    first
    | done
    | (with_reducible rfl)
  try simp only [Act.put, List.setIfInBounds_toArray, List.set_cons_zero, List.set_cons_succ]
  refine take_at 35 81 _ (v := ?v735) rfl rfl (by kernel_rfl) (by kernel_rfl) (by kernel_rfl) (fun _ _ _ h => h) (Or.inl ⟨by rfl, ?hy735⟩) (by assumption) ?rest735
  case hy735 =>
    intro wX hSw
    try dsimp only at hSw
    go_simp
    first
    | done
    | (with_reducible rfl)
  try simp only [Act.put, List.setIfInBounds_toArray, List.set_cons_zero, List.set_cons_succ]
  refine take_at 36 82 _ (v := ?v736) rfl rfl (by kernel_rfl) (by kernel_rfl) (by kernel_rfl) (fun _ _ _ h => h) (Or.inl ⟨by rfl, ?hy736⟩) (by assumption) ?rest736
  case hy736 =>
    intro wX hSw
    try dsimp only at hSw
    go_simp
    first
    | done
    | (with_reducible rfl)
  try simp only [Act.put, List.setIfInBounds_toArray, List.set_cons_zero, List.set_cons_succ]
  refine wpAnyH_ready (rs := [33]) (by kernel_rfl) (by simp) ?_
  refine AllReadyH.cons rfl (fun K hK => ?_) AllReadyH.nil
  go_simp
  go_at_call 11
  refine (of_l X _ _ HX.out (by omega)).mono ?_
  rintro e w23 ⟨g2, B3, A3, c4, o3, rfl, hof, hb⟩
  have HXn := Lib.hid (HX.out.below hb hb.size)
  clear HX
  have HX := HXn
  clear HXn
  have HYn := Lib.hid (HY.out.below hb hb.size)
  clear HY
  have HY := HYn
  clear HYn
  have HV10n := Lib.hid (HV10.out.below hb hb.size)
  clear HV10
  have HV10 := HV10n
  clear HV10n
  have HV11n := Lib.hid (HV11.out.below hb hb.size)
  clear HV11
  have HV11 := HV11n
  clear HV11n
  have HV12n := Lib.hid (HV12.out.below hb hb.size)
  clear HV12
  have HV12 := HV12n
  clear HV12n
  have HBn := Lib.hid (HB.out.trans (hb.mono HB.out.size))
  clear HB
  have HB := HBn
  clear HBn
  have HO := Lib.hid hof
  clear hof
  clear hb

  try go_wp2_with fail
  refine hK.out _ _ ?_ (fun hHeld => ?_)
  · exact trivial
  clear hK K
  try simp only [Act.put, List.setIfInBounds_toArray, List.set_cons_zero, List.set_cons_succ]
  refine wpAnyH_ready (rs := [34]) (by kernel_rfl) (by simp) ?_
  refine AllReadyH.cons rfl (fun K hK => ?_) AllReadyH.nil
  go_simp
  go_at_call 15
  refine (count_o g2 X _ HO.out (by omega)).mono ?_
  rintro e w24 ⟨rfl, hb⟩
  have HXn := Lib.hid (HX.out.below hb hb.size)
  clear HX
  have HX := HXn
  clear HXn
  have HYn := Lib.hid (HY.out.below hb hb.size)
  clear HY
  have HY := HYn
  clear HYn
  have HV10n := Lib.hid (HV10.out.below hb hb.size)
  clear HV10
  have HV10 := HV10n
  clear HV10n
  have HV11n := Lib.hid (HV11.out.below hb hb.size)
  clear HV11
  have HV11 := HV11n
  clear HV11n
  have HV12n := Lib.hid (HV12.out.below hb hb.size)
  clear HV12
  have HV12 := HV12n
  clear HV12n
  have HBn := Lib.hid (HB.out.trans (hb.mono HB.out.size))
  clear HB
  have HB := HBn
  clear HBn
  clear HO
  rw [HXL.out]
  clear hb

  try go_wp2_with fail
  refine hK.out _ _ ?_ (fun hHeld => ?_)
  · exact trivial
  clear hK K
  try simp only [Act.put, List.setIfInBounds_toArray, List.set_cons_zero, List.set_cons_succ]
  refine take_at 37 83 _ (v := ?v737) rfl rfl (by kernel_rfl) (by kernel_rfl) (by kernel_rfl) (fun _ _ _ h => h) (Or.inl ⟨by rfl, ?hy737⟩) (by assumption) ?rest737
  case hy737 =>
    intro wX hSw
    try dsimp only at hSw
    go_simp
    first
    | done
    | (with_reducible rfl)
  try simp only [Act.put, List.setIfInBounds_toArray, List.set_cons_zero, List.set_cons_succ]
  refine take_at 38 84 _ (v := ?v738) rfl rfl (by kernel_rfl) (by kernel_rfl) (by kernel_rfl) (fun _ _ _ h => h) (Or.inl ⟨by rfl, ?hy738⟩) (by assumption) ?rest738
  case hy738 =>
    intro wX hSw
    try dsimp only at hSw
    go_simp
    first
    | done
    | (with_reducible rfl)
  try simp only [Act.put, List.setIfInBounds_toArray, List.set_cons_zero, List.set_cons_succ]
  refine take_at 39 85 _ (v := ?v739) rfl rfl (by kernel_rfl) (by kernel_rfl) (by kernel_rfl) (fun _ _ _ h => h) (Or.inl ⟨by rfl, ?hy739⟩) (by assumption) ?rest739
  case hy739 =>
    intro wX hSw
    try dsimp only at hSw
    go_simp
    first
    | done
    | (with_reducible rfl)
  try simp only [Act.put, List.setIfInBounds_toArray, List.set_cons_zero, List.set_cons_succ]
  refine take_at 40 86 _ (v := ?v740) rfl rfl (by kernel_rfl) (by kernel_rfl) (by kernel_rfl) (fun _ _ _ h => h) (Or.inl ⟨by rfl, ?hy740⟩) (by assumption) ?rest740
  case hy740 =>
    intro wX hSw
    try dsimp only at hSw
    go_simp
    first
    | done
    | (with_reducible rfl)
  try simp only [Act.put, List.setIfInBounds_toArray, List.set_cons_zero, List.set_cons_succ]
  refine take_at 42 88 _ (v := ?v742) rfl rfl (by kernel_rfl) (by kernel_rfl) (by kernel_rfl) (fun _ _ _ h => h) (Or.inl ⟨by rfl, ?hy742⟩) (by assumption) ?rest742
  case hy742 =>
    intro wX hSw
    try dsimp only at hSw
    go_simp
    first
    | done
    | (with_reducible rfl)
  try simp only [Act.put, List.setIfInBounds_toArray, List.set_cons_zero, List.set_cons_succ]
  refine take_at 44 90 _ (v := ?v744) rfl rfl (by kernel_rfl) (by kernel_rfl) (by kernel_rfl) (fun _ _ _ h => h) (Or.inl ⟨by rfl, ?hy744⟩) (by assumption) ?rest744
  case hy744 =>
    intro wX hSw
    try dsimp only at hSw
    go_simp
    first
    | done
    | (with_reducible rfl)
  try simp only [Act.put, List.setIfInBounds_toArray, List.set_cons_zero, List.set_cons_succ]
  refine take_at 45 91 _ (v := ?v745) rfl rfl (by kernel_rfl) (by kernel_rfl) (by kernel_rfl) (fun _ _ _ h => h) (Or.inl ⟨by rfl, ?hy745⟩) (by assumption) ?rest745
  case hy745 =>
    intro wX hSw
    try dsimp only at hSw
    go_simp
    first
    | done
    | (with_reducible rfl)
  try simp only [Act.put, List.setIfInBounds_toArray, List.set_cons_zero, List.set_cons_succ]
  refine take_at 46 92 _ (v := ?v746) rfl rfl (by kernel_rfl) (by kernel_rfl) (by kernel_rfl) (fun _ _ _ h => h) (Or.inl ⟨by rfl, ?hy746⟩) (by assumption) ?rest746
  case hy746 =>
    intro wX hSw
    try dsimp only at hSw
    go_simp
    first
    | done
    | (with_reducible rfl)
  try simp only [Act.put, List.setIfInBounds_toArray, List.set_cons_zero, List.set_cons_succ]
  refine wpAnyH_ready (rs := [41]) (by kernel_rfl) (by simp) ?_
  refine AllReadyH.cons rfl (fun K hK => ?_) AllReadyH.nil
  go_simp
  go_at_call 11
  refine (of_l X _ _ HX.out (by omega)).mono ?_
  rintro e w25 ⟨g3, B4, A4, c5, o4, rfl, hof, hb⟩
  have HXn := Lib.hid (HX.out.below hb hb.size)
  clear HX
  have HX := HXn
  clear HXn
  have HYn := Lib.hid (HY.out.below hb hb.size)
  clear HY
  have HY := HYn
  clear HYn
  have HV10n := Lib.hid (HV10.out.below hb hb.size)
  clear HV10
  have HV10 := HV10n
  clear HV10n
  have HV11n := Lib.hid (HV11.out.below hb hb.size)
  clear HV11
  have HV11 := HV11n
  clear HV11n
  have HV12n := Lib.hid (HV12.out.below hb hb.size)
  clear HV12
  have HV12 := HV12n
  clear HV12n
  have HBn := Lib.hid (HB.out.trans (hb.mono HB.out.size))
  clear HB
  have HB := HBn
  clear HBn
  have HF := Lib.hid (hof.it (by omega))
  clear hof
  clear hb

  try go_wp2_with fail
  refine hK.out _ _ ?_ (fun hHeld => ?_)
  · exact trivial
  clear hK K
  try simp only [Act.put, List.setIfInBounds_toArray, List.set_cons_zero, List.set_cons_succ]
  refine wpAnyH_ready (rs := [43]) (by kernel_rfl) (by simp) ?_
  refine AllReadyH.cons rfl (fun K hK => ?_) AllReadyH.nil
  go_simp
  go_at_call 16
  refine (some_it g3 X 1 k _ (by omega) HF.out).mono ?_
  rintro e w26 ⟨v89, o89, rfl, hsg, hb⟩
  have HXn := Lib.hid (HX.out.below hb hb.size)
  clear HX
  have HX := HXn
  clear HXn
  have HYn := Lib.hid (HY.out.below hb hb.size)
  clear HY
  have HY := HYn
  clear HYn
  have HV10n := Lib.hid (HV10.out.below hb hb.size)
  clear HV10
  have HV10 := HV10n
  clear HV10n
  have HV11n := Lib.hid (HV11.out.below hb hb.size)
  clear HV11
  have HV11 := HV11n
  clear HV11n
  have HV12n := Lib.hid (HV12.out.below hb hb.size)
  clear HV12
  have HV12 := HV12n
  clear HV12n
  have HBn := Lib.hid (HB.out.trans (hb.mono HB.out.size))
  clear HB
  have HB := HBn
  clear HBn
  rw [HT.out] at hsg
  have HV89 := Lib.hid (LI.of_seg hsg)
  clear hsg HF
  clear hb

  try go_wp2_with fail
  refine hK.out _ _ ?_ (fun hHeld => ?_)
  · exact trivial
  clear hK K
  try simp only [Act.put, List.setIfInBounds_toArray, List.set_cons_zero, List.set_cons_succ]
  refine wpAnyH_ready (rs := [47]) (by kernel_rfl) (by simp) ?_
  refine AllReadyH.cons rfl (fun K hK => ?_) AllReadyH.nil
  go_simp
  have HSM := Lib.hid (same_l (X.take kk) _ _ _ HV89.out (HX.out.take kk HK.out) HL1.out)
  go_at_call 14
  with_reducible refine HSM.out.mono ?_
  clear HSM
  rintro e w27 ⟨rfl, mq, hq⟩
  have hb := below_drewN hq
  have HXn := Lib.hid (HX.out.below hb hb.size)
  clear HX
  have HX := HXn
  clear HXn
  have HYn := Lib.hid (HY.out.below hb hb.size)
  clear HY
  have HY := HYn
  clear HYn
  have HV10n := Lib.hid (HV10.out.below hb hb.size)
  clear HV10
  have HV10 := HV10n
  clear HV10n
  have HV11n := Lib.hid (HV11.out.below hb hb.size)
  clear HV11
  have HV11 := HV11n
  clear HV11n
  have HV12n := Lib.hid (HV12.out.below hb hb.size)
  clear HV12
  have HV12 := HV12n
  clear HV12n
  have HBn := Lib.hid (HB.out.trans (hb.mono HB.out.size))
  clear HB
  have HB := HBn
  clear HBn
  clear hb hq

  try go_wp2_with fail
  refine hK.out _ _ ?_ (fun hHeld => ?_)
  · exact trivial
  clear hK K
  try simp only [Act.put, List.setIfInBounds_toArray, List.set_cons_zero, List.set_cons_succ]
  refine take_at 48 94 _ (v := ?v748) rfl rfl (by kernel_rfl) (by kernel_rfl) (by kernel_rfl) (fun _ _ _ h => h) (Or.inl ⟨by rfl, ?hy748⟩) (by assumption) ?rest748
  case hy748 =>
    intro wX hSw
    try dsimp only at hSw
    go_simp
    first
    | done
    | (with_reducible rfl)
  try simp only [Act.put, List.setIfInBounds_toArray, List.set_cons_zero, List.set_cons_succ]
  refine take_at 49 6 _ (v := ?v749) rfl rfl (by kernel_rfl) (by kernel_rfl) (by kernel_rfl) (fun _ _ _ h => h) (Or.inl ⟨by rfl, ?hy749⟩) (by assumption) ?rest749
  case hy749 =>
    intro wX hSw
    try dsimp only at hSw
    go_simp
    first
    | done
    | (with_reducible rfl)
  try simp only [Act.put, List.setIfInBounds_toArray, List.set_cons_zero, List.set_cons_succ]
  refine wpAnyH_done (by kernel_rfl) ?_ _
  refine NoPanic.normal ?_

  go_wp2
  go_ret
  exact ⟨rfl, HB.out⟩
theorem parts_any (A0 : Option Addr) (n0 c0 : Nat) (f0 : Nat → Int) (ln0 : n0 ≤ c0) (lc0 : c0 ≤ 9223372036854775807) (lb0 : ∀ k, -9223372036854775808 ≤ f0 k ∧ f0 k ≤ 9223372036854775807) {w : World} (ll0 : Lies w w.heap.size A0 n0 (fun k => .int .i64 (f0 k)))
    (A1 : Option Addr) (n1 c1 : Nat) (f1 : Nat → Int) (ln1 : n1 ≤ c1) (lc1 : c1 ≤ 9223372036854775807) (lb1 : ∀ k, -9223372036854775808 ≤ f1 k ∧ f1 k ≤ 9223372036854775807) (ll1 : Lies w w.heap.size A1 n1 (fun k => .int .i64 (f1 k))) (a2 : Int) (w2 : -9223372036854775808 ≤ a2 ∧ a2 ≤ 9223372036854775807) :
    Calls Try.prog 3 #[.slice A0 n0 c0, .slice A1 n1 c1, .int .i64 a2] w fun e w' => e = .returned (.bool true) ∧ Below w.heap.size w w' :=
  parts_hid A0 A1 n0 n1 c0 c1 _ _ ln0 lc0 ln1 lc1 a2 w2 w (Lib.hid (LI.of_lies ln0 lc0 ll0)) (Lib.hid (LI.of_lies ln1 lc1 ll1))
end Go.Proofs.Ytkklceblojcbkaa.Sr
