/- A tree tells the keys that are not below one to the body of a range (written by gen_omv). -/
import Derived.Test.YtnibmfijkbfaeaaOmS
namespace Go.Proofs.Ytnibmfijkbfaeaa.Om
open Go.RowKit Go.Proofs.Ytnibmfijkbfaeaa
set_option linter.unusedVariables false
set_option linter.unusedSimpArgs false
set_option maxRecDepth 100000
attribute [local go_sem] Oper.semAt_some
open Key (lt)
theorem frm_lt {K V : Type} [Key K] {k a : K} {b : V} {l r : Tr K V} (h : lt a k) : frm k (.node l a b r) = frm k r := by
  conv => lhs; unfold frm
  exact if_pos h
theorem frm_ge {K V : Type} [Key K] {k a : K} {b : V} {l r : Tr K V} (h : ¬ lt a k) : frm k (.node l a b r) = frm k l ++ (a, b) :: r.toL := by
  conv => lhs; unfold frm
  exact if_neg h

set_option maxHeartbeats 4000000 in
theorem from_y_i (k : Int) (l : Nat) (P : Own) (B : Nat) (J Jx : Own → List (Int × Int) → World → Prop) (hJ : Stb B J) (G : List (Int × Int) → Int × Int → Prop) (w0 : World) (hPc : Cells P w0)
    (hY : ∀ O pre x W1, J O pre W1 → G pre x → Hold P w0 W1 → B ≤ W1.heap.size → YieldAt Fence.wide 0 Try.prog l (encI x) W1 (Yd P B J Jx O pre x W1)) :
    ∀ (t : Tr Int Int) (p : Value) (pre : List (Int × Int)) (O : Own) (W : World), TmPI P w0 t p → Hold P w0 W → B ≤ W.heap.size → J O pre W → (∀ a x b, frm k t = a ++ x :: b → G (pre ++ a) x) →
      CallsIn Fence.wide 60 Try.prog 36 #[p, .int .i64 k, .func (.yield l) #[] #[]] W (Wk P w0 B J Jx O (pre ++ frm k t))
  | .leaf, p, pre, O, W, ht, hW, hB, hj, hG => by
    obtain rfl : p = .pointer none := ht
    have hj2 := Lib.hid hj
    have hW2 := Lib.hid hW
    have hB2 := Lib.hid hB
    clear hY hj hW hG hPc hJ
    refine callsIn_of_wp_marks Try.func36 rfl trivial ?_ rfl
    simp only [Try.ntmps36, List.size_toArray, List.length_cons, List.length_nil, Nat.reduceAdd, Nat.reduceSub, Array.replicate_succ, Array.replicate_zero, List.push_toArray, List.append_toArray, List.nil_append, List.cons_append]
    gi_wp2
    exact ⟨_, results_tmp rfl _ _ _, hW2.out, hB2.out, .inl ⟨rfl, by have h := hj2.out; simpa [frm] using h⟩⟩
  | .node l1 a b r1, p, pre, O, W, ht, hW, hB, hj, hG => by
    obtain ⟨g, pl, pr, rfl, hpg, rw0, tl, tr⟩ := ht
    obtain ⟨ql, rfl⟩ := tl.isPtr
    obtain ⟨qr, rfl⟩ := tr.isPtr
    have hF : ∀ k, Fence.wide.fn k := fun _ => trivial
    have hro : Fence.wide.round = none := rfl
    have HC : Hid (∀ W1, Hold P w0 W1 → (W1.cell? ⟨g, 0, none⟩ = some (.int .i64 a) ∧ W1.cell? ⟨g, 1, none⟩ = some (.int .i64 b)) ∧ W1.cell? ⟨g, 2, none⟩ = some (.pointer ql) ∧ W1.cell? ⟨g, 3, none⟩ = some (.pointer qr)) := Lib.hid (fun W1 h => by
      have r := h.row hpg rw0
      exact ⟨⟨(r.cell 0).trans rfl, (r.cell 1).trans rfl⟩, (r.cell 2).trans rfl, (r.cell 3).trans rfl⟩)
    obtain ⟨⟨d0, d1⟩, d2, d3⟩ := HC.out _ hW
    by_cases hlt : lt a k
    · have hd : decide (lt a k) = true := decide_eq_true hlt
      rw [frm_lt hlt] at hG ⊢
      have IHR : Hid (CallsIn Fence.wide 60 Try.prog 36 #[.pointer qr, .int .i64 k, .func (.yield l) #[] #[]] W (Wk P w0 B J Jx O (pre ++ frm k r1))) := Lib.hid (from_y_i k l P B J Jx hJ G w0 hPc hY r1 _ pre O W tr hW hB hj hG)
      clear hY hj hW hG hPc hJ tl tr rw0 hpg
      refine callsIn_of_wp_marks Try.func36 rfl trivial ?_ rfl
      simp only [Try.ntmps36, List.size_toArray, List.length_cons, List.length_nil, Nat.reduceAdd, Nat.reduceSub, Array.replicate_succ, Array.replicate_zero, List.push_toArray, List.append_toArray, List.nil_append, List.cons_append]
      gi_wp2_with (first
        | (gi_at_call 30; refine (callsIn_wide.2 (less_i a k W)).mono ?_; rintro e w' ⟨rfl, rfl⟩; rw [hd])
        | (gi_at_call 36; refine (callsIn_any IHR.out).mono ?_; rintro e W1 ⟨hW1, hB1, ⟨rfl, hj1⟩ | ⟨rfl, hys⟩⟩)
        | fail)
      · exact ⟨_, results_tmp rfl _ _ _, hW1, hB1, .inl ⟨rfl, hj1⟩⟩
      · exact ⟨_, results_tmp rfl _ _ _, hW1, hB1, .inr ⟨rfl, hys⟩⟩
    · have hd : decide (lt a k) = false := decide_eq_false hlt
      rw [frm_ge hlt] at hG ⊢
      have hWd : Hold P w0 W.drew := hW.trans (Hold.below (Below.refl _ W).drew)
      have IHL : Hid (CallsIn Fence.wide 60 Try.prog 36 #[.pointer ql, .int .i64 k, .func (.yield l) #[] #[]] W.drew (Wk P w0 B J Jx O (pre ++ frm k l1))) := Lib.hid (from_y_i k l P B J Jx hJ G w0 hPc hY l1 _ pre O W.drew tl hWd hB (hJ.grow hj (Below.refl _ W).drew) (fun u x v e => hG u x (v ++ (a, b) :: r1.toL) (by rw [e]; simp)))
      have HYY : Hid (∀ W1, J O (pre ++ frm k l1) W1 → Hold P w0 W1 → B ≤ W1.heap.size → YieldAt Fence.wide 0 Try.prog l (encI (a, b)) W1 (Yd P B J Jx O (pre ++ frm k l1) (a, b) W1)) := Lib.hid (fun W1 h1 h2 h3 => hY O _ _ W1 h1 (hG (frm k l1) (a, b) r1.toL rfl) h2 h3)
      have IHR : Hid (∀ W1, Hold P w0 W1 → B ≤ W1.heap.size → J O (pre ++ frm k l1 ++ [(a, b)]) W1 → CallsIn Fence.wide 60 Try.prog 34 #[.pointer qr, .func (.yield l) #[] #[]] W1 (Wk P w0 B J Jx O (pre ++ frm k l1 ++ [(a, b)] ++ r1.toL))) := Lib.hid (fun W1 h1 h2 h3 => all_y_i l P B J Jx hJ G w0 hPc hY r1 _ _ O W1 tr h1 h2 h3 (fun u x v e => by
        have h := hG (frm k l1 ++ (a, b) :: u) x v (by rw [e]; simp)
        simpa using h))
      have HE : Hid (pre ++ (frm k l1 ++ (a, b) :: r1.toL) = pre ++ frm k l1 ++ [(a, b)] ++ r1.toL) := Lib.hid (by simp)
      obtain ⟨⟨x0, x1⟩, x2, x3⟩ := HC.out _ hWd
      clear hY hj hW hG hPc hJ tl tr rw0 hWd hpg
      refine callsIn_of_wp_marks Try.func36 rfl trivial ?_ rfl
      simp only [Try.ntmps36, List.size_toArray, List.length_cons, List.length_nil, Nat.reduceAdd, Nat.reduceSub, Array.replicate_succ, Array.replicate_zero, List.push_toArray, List.append_toArray, List.nil_append, List.cons_append]
      gi_wp2_with (first
        | (gi_at_call 30; refine (callsIn_wide.2 (less_i a k W)).mono ?_; rintro e w' ⟨rfl, rfl⟩; rw [hd])
        | fail)
      refine wpIn_mono ?_ NoPanic.imp
      refine wpIn_region_any (by kernel_rfl) ?_
      try (change wpAnyIn _ _ _ _ _ _ _ _ _ (World.drew _))
      refine take_in hro 0 22 _ (v := ?vq1_0) rfl rfl (by kernel_rfl) (by kernel_rfl) (by kernel_rfl) (fun _ _ _ h => h) ⟨Or.inl ⟨by rfl, ?hyq1_0⟩, fun _ => rfl⟩ ?restq1_0
      case hyq1_0 =>
        intro wX
        go_simp
        first
        | done
        | (with_reducible rfl)
      try simp only [Act.put, List.setIfInBounds_toArray, List.set_cons_zero, List.set_cons_succ]
      refine take_in hro 1 23 _ (v := ?vq2_1) rfl rfl (by kernel_rfl) (by kernel_rfl) (by kernel_rfl) (fun _ _ _ h => h) ⟨Or.inl ⟨by rfl, ?hyq2_1⟩, fun _ => rfl⟩ ?restq2_1
      case hyq2_1 =>
        intro wX
        go_simp
        first
        | done
        | (with_reducible rfl)
      try simp only [Act.put, List.setIfInBounds_toArray, List.set_cons_zero, List.set_cons_succ]
      refine take_in hro 2 24 _ (v := ?vq3_2) rfl rfl (by kernel_rfl) (by kernel_rfl) (by kernel_rfl) (fun _ _ _ h => h) ⟨Or.inl ⟨by rfl, ?hyq3_2⟩, fun _ => rfl⟩ ?restq3_2
      case hyq3_2 =>
        intro wX
        go_simp
        first
        | done
        | (with_reducible rfl)
      try simp only [Act.put, List.setIfInBounds_toArray, List.set_cons_zero, List.set_cons_succ]
      refine take_in hro 4 26 _ (v := ?vq4_4) rfl rfl (by kernel_rfl) (by kernel_rfl) (by kernel_rfl) (fun _ _ _ h => h) ⟨Or.inl ⟨by rfl, ?hyq4_4⟩, fun _ => rfl⟩ ?restq4_4
      case hyq4_4 =>
        intro wX
        go_simp
        first
        | done
        | (with_reducible rfl)
      try simp only [Act.put, List.setIfInBounds_toArray, List.set_cons_zero, List.set_cons_succ]
      refine take_in hro 5 27 _ (v := ?vq5_5) rfl rfl (by kernel_rfl) (by kernel_rfl) (by kernel_rfl) (fun _ _ _ h => h) ⟨Or.inl ⟨by rfl, ?hyq5_5⟩, fun _ => rfl⟩ ?restq5_5
      case hyq5_5 =>
        intro wX
        go_simp
        first
        | done
        | (with_reducible rfl)
      try simp only [Act.put, List.setIfInBounds_toArray, List.set_cons_zero, List.set_cons_succ]
      refine wpAnyIn_ready (rs := [3]) (by kernel_rfl) (by simp) ?_
      refine AllReadyIn.cons rfl (fun K hK => ?_) AllReadyIn.nil
      go_simp
      refine hK _ _ ?_
      clear hK K
      try simp only [Act.put, List.setIfInBounds_toArray, List.set_cons_zero, List.set_cons_succ]
      refine wpAnyIn_ready (rs := [6]) (by kernel_rfl) (by simp) ?_
      refine AllReadyIn.cons rfl (fun K hK => ?_) AllReadyIn.nil
      go_simp
      gi_wp2_with (gi_at_call 36; refine (callsIn_any IHL.out).mono ?_; rintro e W1 ⟨hW1, hB1, ⟨rfl, hj1⟩ | ⟨rfl, hys⟩⟩)
      · obtain ⟨⟨e0, e1⟩, e2, e3⟩ := HC.out _ hW1
        obtain ⟨fn, tmps, assign, body, hy, hR⟩ := HYY.out _ hj1 hW1 hB1
        unfold encI at hy
        have HR := Lib.hid hR
        clear hR
        try (refine hK _ _ ?_)
        try clear hK K
        try simp only [Act.put, List.setIfInBounds_toArray, List.set_cons_zero, List.set_cons_succ]
        refine take_in hro 7 29 _ (v := ?vq6_7) rfl rfl (by kernel_rfl) (by kernel_rfl) (by kernel_rfl) (fun _ _ _ h => h) ⟨Or.inl ⟨by rfl, ?hyq6_7⟩, fun _ => rfl⟩ ?restq6_7
        case hyq6_7 =>
          intro wX
          go_simp
          first
          | done
          | (with_reducible rfl)
        try simp only [Act.put, List.setIfInBounds_toArray, List.set_cons_zero, List.set_cons_succ]
        refine take_in hro 8 30 _ (v := ?vq7_8) rfl rfl (by kernel_rfl) (by kernel_rfl) (by kernel_rfl) (fun _ _ _ h => h) ⟨Or.inl ⟨by rfl, ?hyq7_8⟩, fun _ => rfl⟩ ?restq7_8
        case hyq7_8 =>
          intro wX
          go_simp
          first
          | done
          | (with_reducible rfl)
        try simp only [Act.put, List.setIfInBounds_toArray, List.set_cons_zero, List.set_cons_succ]
        refine take_in hro 9 31 _ (v := ?vq8_9) rfl rfl (by kernel_rfl) (by kernel_rfl) (by kernel_rfl) (fun _ _ _ h => h) ⟨Or.inl ⟨by rfl, ?hyq8_9⟩, fun _ => rfl⟩ ?restq8_9
        case hyq8_9 =>
          intro wX
          go_simp
          first
          | done
          | (with_reducible rfl)
        try simp only [Act.put, List.setIfInBounds_toArray, List.set_cons_zero, List.set_cons_succ]
        refine take_in hro 10 32 _ (v := ?vq9_10) rfl rfl (by kernel_rfl) (by kernel_rfl) (by kernel_rfl) (fun _ _ _ h => h) ⟨Or.inl ⟨by rfl, ?hyq9_10⟩, fun _ => rfl⟩ ?restq9_10
        case hyq9_10 =>
          intro wX
          go_simp
          first
          | done
          | (with_reducible rfl)
        try simp only [Act.put, List.setIfInBounds_toArray, List.set_cons_zero, List.set_cons_succ]
        refine take_in hro 11 33 _ (v := ?vq10_11) rfl rfl (by kernel_rfl) (by kernel_rfl) (by kernel_rfl) (fun _ _ _ h => h) ⟨Or.inl ⟨by rfl, ?hyq10_11⟩, fun _ => rfl⟩ ?restq10_11
        case hyq10_11 =>
          intro wX
          go_simp
          first
          | done
          | (with_reducible rfl)
        try simp only [Act.put, List.setIfInBounds_toArray, List.set_cons_zero, List.set_cons_succ]
        refine take_in hro 13 35 _ (v := ?vq11_13) rfl rfl (by kernel_rfl) (by kernel_rfl) (by kernel_rfl) (fun _ _ _ h => h) ⟨Or.inl ⟨by rfl, ?hyq11_13⟩, fun _ => rfl⟩ ?restq11_13
        case hyq11_13 =>
          intro wX
          go_simp
          first
          | done
          | (with_reducible rfl)
        try simp only [Act.put, List.setIfInBounds_toArray, List.set_cons_zero, List.set_cons_succ]
        refine take_in hro 14 36 _ (v := ?vq12_14) rfl rfl (by kernel_rfl) (by kernel_rfl) (by kernel_rfl) (fun _ _ _ h => h) ⟨Or.inl ⟨by rfl, ?hyq12_14⟩, fun _ => rfl⟩ ?restq12_14
        case hyq12_14 =>
          intro wX
          go_simp
          first
          | done
          | (with_reducible rfl)
        try simp only [Act.put, List.setIfInBounds_toArray, List.set_cons_zero, List.set_cons_succ]
        refine take_in hro 15 37 _ (v := ?vq13_15) rfl rfl (by kernel_rfl) (by kernel_rfl) (by kernel_rfl) (fun _ _ _ h => h) ⟨Or.inl ⟨by rfl, ?hyq13_15⟩, fun _ => rfl⟩ ?restq13_15
        case hyq13_15 =>
          intro wX
          go_simp
          first
          | done
          | (with_reducible rfl)
        try simp only [Act.put, List.setIfInBounds_toArray, List.set_cons_zero, List.set_cons_succ]
        refine wpAnyIn_ready (rs := [12, 16]) (by kernel_rfl) (by simp) ?_
        refine AllReadyIn.cons rfl (fun K hK => ?_) (AllReadyIn.cons rfl (fun K hK => ?_) AllReadyIn.nil)
        · go_simp
          refine hK _ _ ?_
          clear hK K
          try simp only [Act.put, List.setIfInBounds_toArray, List.set_cons_zero, List.set_cons_succ]
          refine wpAnyIn_ready (rs := [16]) (by kernel_rfl) (by simp) ?_
          refine AllReadyIn.cons rfl (fun K hK => ?_) AllReadyIn.nil
          go_simp
          refine hK _ _ ?_
          clear hK K
          try simp only [Act.put, List.setIfInBounds_toArray, List.set_cons_zero, List.set_cons_succ]
          refine wpAnyIn_ready (rs := [17]) (by kernel_rfl) (by simp) ?_
          refine AllReadyIn.cons rfl (fun K hK => ?_) AllReadyIn.nil
          go_simp
          refine (roundIn_any HR.out).mono ?_
          rintro e W2 ⟨hk2, ⟨rfl, hj2⟩ | ⟨rfl, hj2⟩⟩
          · have hW2 := hW1.kq hk2
            have hB2 := Nat.le_trans hB1 hk2.1.size
            obtain ⟨⟨f0, f1⟩, f2, f3⟩ := HC.out _ hW2
            try (refine hK _ _ ?_)
            try clear hK K
            try simp only [Act.put, List.setIfInBounds_toArray, List.set_cons_zero, List.set_cons_succ]
            refine take_in hro 18 40 _ (v := ?vq14_18) rfl rfl (by kernel_rfl) (by kernel_rfl) (by kernel_rfl) (fun _ _ _ h => h) ⟨Or.inl ⟨by rfl, ?hyq14_18⟩, fun _ => rfl⟩ ?restq14_18
            case hyq14_18 =>
              intro wX
              go_simp
              first
              | done
              | (with_reducible rfl)
            try simp only [Act.put, List.setIfInBounds_toArray, List.set_cons_zero, List.set_cons_succ]
            refine take_in hro 19 41 _ (v := ?vq15_19) rfl rfl (by kernel_rfl) (by kernel_rfl) (by kernel_rfl) (fun _ _ _ h => h) ⟨Or.inl ⟨by rfl, ?hyq15_19⟩, fun _ => rfl⟩ ?restq15_19
            case hyq15_19 =>
              intro wX
              go_simp
              first
              | done
              | (with_reducible rfl)
            try simp only [Act.put, List.setIfInBounds_toArray, List.set_cons_zero, List.set_cons_succ]
            refine take_in hro 20 42 _ (v := ?vq16_20) rfl rfl (by kernel_rfl) (by kernel_rfl) (by kernel_rfl) (fun _ _ _ h => h) ⟨Or.inl ⟨by rfl, ?hyq16_20⟩, fun _ => rfl⟩ ?restq16_20
            case hyq16_20 =>
              intro wX
              go_simp
              first
              | done
              | (with_reducible rfl)
            try simp only [Act.put, List.setIfInBounds_toArray, List.set_cons_zero, List.set_cons_succ]
            refine take_in hro 21 43 _ (v := ?vq17_21) rfl rfl (by kernel_rfl) (by kernel_rfl) (by kernel_rfl) (fun _ _ _ h => h) ⟨Or.inl ⟨by rfl, ?hyq17_21⟩, fun _ => rfl⟩ ?restq17_21
            case hyq17_21 =>
              intro wX
              go_simp
              first
              | done
              | (with_reducible rfl)
            try simp only [Act.put, List.setIfInBounds_toArray, List.set_cons_zero, List.set_cons_succ]
            refine take_in hro 22 44 _ (v := ?vq18_22) rfl rfl (by kernel_rfl) (by kernel_rfl) (by kernel_rfl) (fun _ _ _ h => h) ⟨Or.inl ⟨by rfl, ?hyq18_22⟩, fun _ => rfl⟩ ?restq18_22
            case hyq18_22 =>
              intro wX
              go_simp
              first
              | done
              | (with_reducible rfl)
            try simp only [Act.put, List.setIfInBounds_toArray, List.set_cons_zero, List.set_cons_succ]
            refine take_in hro 24 46 _ (v := ?vq19_24) rfl rfl (by kernel_rfl) (by kernel_rfl) (by kernel_rfl) (fun _ _ _ h => h) ⟨Or.inl ⟨by rfl, ?hyq19_24⟩, fun _ => rfl⟩ ?restq19_24
            case hyq19_24 =>
              intro wX
              go_simp
              first
              | done
              | (with_reducible rfl)
            try simp only [Act.put, List.setIfInBounds_toArray, List.set_cons_zero, List.set_cons_succ]
            refine wpAnyIn_ready (rs := [23]) (by kernel_rfl) (by simp) ?_
            refine AllReadyIn.cons rfl (fun K hK => ?_) AllReadyIn.nil
            go_simp
            refine hK _ _ ?_
            clear hK K
            try simp only [Act.put, List.setIfInBounds_toArray, List.set_cons_zero, List.set_cons_succ]
            refine wpAnyIn_ready (rs := [25]) (by kernel_rfl) (by simp) ?_
            refine AllReadyIn.cons rfl (fun K hK => ?_) AllReadyIn.nil
            go_simp
            gi_wp2_with (gi_at_call 34; refine (callsIn_any (IHR.out _ hW2 hB2 hj2)).mono ?_; rintro e W3 ⟨hW3, hB3, ⟨rfl, hj3⟩ | ⟨rfl, hys3⟩⟩)
            · skip
              try (refine hK _ _ ?_)
              try clear hK K
              try simp only [Act.put, List.setIfInBounds_toArray, List.set_cons_zero, List.set_cons_succ]
              refine take_in hro 26 48 _ (v := ?vq20_26) rfl rfl (by kernel_rfl) (by kernel_rfl) (by kernel_rfl) (fun _ _ _ h => h) ⟨Or.inl ⟨by rfl, ?hyq20_26⟩, fun _ => rfl⟩ ?restq20_26
              case hyq20_26 =>
                intro wX
                go_simp
                first
                | done
                | (with_reducible rfl)
              try simp only [Act.put, List.setIfInBounds_toArray, List.set_cons_zero, List.set_cons_succ]
              refine take_in hro 27 6 _ (v := ?vq21_27) rfl rfl (by kernel_rfl) (by kernel_rfl) (by kernel_rfl) (fun _ _ _ h => h) ⟨Or.inl ⟨by rfl, ?hyq21_27⟩, fun _ => rfl⟩ ?restq21_27
              case hyq21_27 =>
                intro wX
                go_simp
                first
                | done
                | (with_reducible rfl)
              try simp only [Act.put, List.setIfInBounds_toArray, List.set_cons_zero, List.set_cons_succ]
              refine wpAnyIn_done (by kernel_rfl) ?_ _
              refine NoPanic.normal ?_
              gi_wp2
              exact ⟨_, results_tmp rfl _ _ _, hW3, hB3, .inl ⟨rfl, by rw [HE.out]; exact hj3⟩⟩
            · skip
              try (refine hK _ _ ?_)
              try clear hK K
              try simp only [Act.put, List.setIfInBounds_toArray, List.set_cons_zero, List.set_cons_succ]
              refine take_in hro 26 48 _ (v := ?vq22_26) rfl rfl (by kernel_rfl) (by kernel_rfl) (by kernel_rfl) (fun _ _ _ h => h) ⟨Or.inl ⟨by rfl, ?hyq22_26⟩, fun _ => rfl⟩ ?restq22_26
              case hyq22_26 =>
                intro wX
                go_simp
                first
                | done
                | (with_reducible rfl)
              try simp only [Act.put, List.setIfInBounds_toArray, List.set_cons_zero, List.set_cons_succ]
              refine take_in hro 27 6 _ (v := ?vq23_27) rfl rfl (by kernel_rfl) (by kernel_rfl) (by kernel_rfl) (fun _ _ _ h => h) ⟨Or.inl ⟨by rfl, ?hyq23_27⟩, fun _ => rfl⟩ ?restq23_27
              case hyq23_27 =>
                intro wX
                go_simp
                first
                | done
                | (with_reducible rfl)
              try simp only [Act.put, List.setIfInBounds_toArray, List.set_cons_zero, List.set_cons_succ]
              refine wpAnyIn_done (by kernel_rfl) ?_ _
              refine NoPanic.normal ?_
              gi_wp2
              obtain ⟨ys, hp, hx⟩ := hys3
              exact ⟨_, results_tmp rfl _ _ _, hW3, hB3, .inr ⟨rfl, ys, by rw [HE.out]; exact hp, hx⟩⟩
          · have hW2 := hW1.kq hk2
            have hB2 := Nat.le_trans hB1 hk2.1.size
            try (refine hK _ _ ?_)
            try clear hK K
            try simp only [Act.put, List.setIfInBounds_toArray, List.set_cons_zero, List.set_cons_succ]
            refine take_in hro 18 40 _ (v := ?vq24_18) rfl rfl (by kernel_rfl) (by kernel_rfl) (by kernel_rfl) (fun _ _ _ h => h) ⟨Or.inl ⟨by rfl, ?hyq24_18⟩, fun _ => rfl⟩ ?restq24_18
            case hyq24_18 =>
              intro wX
              go_simp
              first
              | done
              | (with_reducible rfl)
            try simp only [Act.put, List.setIfInBounds_toArray, List.set_cons_zero, List.set_cons_succ]
            refine take_in hro 19 41 _ (v := ?vq25_19) rfl rfl (by kernel_rfl) (by kernel_rfl) (by kernel_rfl) (fun _ _ _ h => h) ⟨Or.inl ⟨by rfl, ?hyq25_19⟩, fun _ => rfl⟩ ?restq25_19
            case hyq25_19 =>
              intro wX
              go_simp
              first
              | done
              | (with_reducible rfl)
            try simp only [Act.put, List.setIfInBounds_toArray, List.set_cons_zero, List.set_cons_succ]
            refine take_in hro 20 42 _ (v := undef) rfl rfl (by kernel_rfl) (by kernel_rfl) (by kernel_rfl) (fun _ _ _ h => h) ⟨Or.inr ⟨by rfl, rfl⟩, fun _ => rfl⟩ ?_
            try simp only [Act.put, List.setIfInBounds_toArray, List.set_cons_zero, List.set_cons_succ]
            refine take_in hro 21 43 _ (v := undef) rfl rfl (by kernel_rfl) (by kernel_rfl) (by kernel_rfl) (fun _ _ _ h => h) ⟨Or.inr ⟨by rfl, rfl⟩, fun _ => rfl⟩ ?_
            try simp only [Act.put, List.setIfInBounds_toArray, List.set_cons_zero, List.set_cons_succ]
            refine take_in hro 22 44 _ (v := undef) rfl rfl (by kernel_rfl) (by kernel_rfl) (by kernel_rfl) (fun _ _ _ h => h) ⟨Or.inr ⟨by rfl, rfl⟩, fun _ => rfl⟩ ?_
            try simp only [Act.put, List.setIfInBounds_toArray, List.set_cons_zero, List.set_cons_succ]
            refine take_in hro 23 45 _ (v := undef) rfl rfl (by kernel_rfl) (by kernel_rfl) (by kernel_rfl) (fun _ _ _ h => h) ⟨Or.inr ⟨by rfl, rfl⟩, fun _ => rfl⟩ ?_
            try simp only [Act.put, List.setIfInBounds_toArray, List.set_cons_zero, List.set_cons_succ]
            refine take_in hro 24 46 _ (v := undef) rfl rfl (by kernel_rfl) (by kernel_rfl) (by kernel_rfl) (fun _ _ _ h => h) ⟨Or.inr ⟨by rfl, rfl⟩, fun _ => rfl⟩ ?_
            try simp only [Act.put, List.setIfInBounds_toArray, List.set_cons_zero, List.set_cons_succ]
            refine unw_at hF 25 47 _ rfl rfl (by kernel_rfl) (by rfl) ?_
            try simp only [Act.put, List.setIfInBounds_toArray, List.set_cons_zero, List.set_cons_succ]
            refine take_in hro 26 48 _ (v := ?vq26_26) rfl rfl (by kernel_rfl) (by kernel_rfl) (by kernel_rfl) (fun _ _ _ h => h) ⟨Or.inl ⟨by rfl, ?hyq26_26⟩, fun _ => rfl⟩ ?restq26_26
            case hyq26_26 =>
              intro wX
              go_simp
              first
              | done
              | (with_reducible rfl)
            try simp only [Act.put, List.setIfInBounds_toArray, List.set_cons_zero, List.set_cons_succ]
            refine take_in hro 27 6 _ (v := ?vq27_27) rfl rfl (by kernel_rfl) (by kernel_rfl) (by kernel_rfl) (fun _ _ _ h => h) ⟨Or.inl ⟨by rfl, ?hyq27_27⟩, fun _ => rfl⟩ ?restq27_27
            case hyq27_27 =>
              intro wX
              go_simp
              first
              | done
              | (with_reducible rfl)
            try simp only [Act.put, List.setIfInBounds_toArray, List.set_cons_zero, List.set_cons_succ]
            refine wpAnyIn_done (by kernel_rfl) ?_ _
            refine NoPanic.normal ?_
            gi_wp2
            exact ⟨_, results_tmp rfl _ _ _, hW2, hB2, .inr ⟨rfl, _, by rw [HE.out]; exact List.prefix_append _ _, hj2⟩⟩
        · go_simp
          refine hK _ _ ?_
          clear hK K
          try simp only [Act.put, List.setIfInBounds_toArray, List.set_cons_zero, List.set_cons_succ]
          refine wpAnyIn_ready (rs := [12]) (by kernel_rfl) (by simp) ?_
          refine AllReadyIn.cons rfl (fun K hK => ?_) AllReadyIn.nil
          go_simp
          refine hK _ _ ?_
          clear hK K
          try simp only [Act.put, List.setIfInBounds_toArray, List.set_cons_zero, List.set_cons_succ]
          refine wpAnyIn_ready (rs := [17]) (by kernel_rfl) (by simp) ?_
          refine AllReadyIn.cons rfl (fun K hK => ?_) AllReadyIn.nil
          go_simp
          refine (roundIn_any HR.out).mono ?_
          rintro e W2 ⟨hk2, ⟨rfl, hj2⟩ | ⟨rfl, hj2⟩⟩
          · have hW2 := hW1.kq hk2
            have hB2 := Nat.le_trans hB1 hk2.1.size
            obtain ⟨⟨f0, f1⟩, f2, f3⟩ := HC.out _ hW2
            try (refine hK _ _ ?_)
            try clear hK K
            try simp only [Act.put, List.setIfInBounds_toArray, List.set_cons_zero, List.set_cons_succ]
            refine take_in hro 18 40 _ (v := ?vq28_18) rfl rfl (by kernel_rfl) (by kernel_rfl) (by kernel_rfl) (fun _ _ _ h => h) ⟨Or.inl ⟨by rfl, ?hyq28_18⟩, fun _ => rfl⟩ ?restq28_18
            case hyq28_18 =>
              intro wX
              go_simp
              first
              | done
              | (with_reducible rfl)
            try simp only [Act.put, List.setIfInBounds_toArray, List.set_cons_zero, List.set_cons_succ]
            refine take_in hro 19 41 _ (v := ?vq29_19) rfl rfl (by kernel_rfl) (by kernel_rfl) (by kernel_rfl) (fun _ _ _ h => h) ⟨Or.inl ⟨by rfl, ?hyq29_19⟩, fun _ => rfl⟩ ?restq29_19
            case hyq29_19 =>
              intro wX
              go_simp
              first
              | done
              | (with_reducible rfl)
            try simp only [Act.put, List.setIfInBounds_toArray, List.set_cons_zero, List.set_cons_succ]
            refine take_in hro 20 42 _ (v := ?vq30_20) rfl rfl (by kernel_rfl) (by kernel_rfl) (by kernel_rfl) (fun _ _ _ h => h) ⟨Or.inl ⟨by rfl, ?hyq30_20⟩, fun _ => rfl⟩ ?restq30_20
            case hyq30_20 =>
              intro wX
              go_simp
              first
              | done
              | (with_reducible rfl)
            try simp only [Act.put, List.setIfInBounds_toArray, List.set_cons_zero, List.set_cons_succ]
            refine take_in hro 21 43 _ (v := ?vq31_21) rfl rfl (by kernel_rfl) (by kernel_rfl) (by kernel_rfl) (fun _ _ _ h => h) ⟨Or.inl ⟨by rfl, ?hyq31_21⟩, fun _ => rfl⟩ ?restq31_21
            case hyq31_21 =>
              intro wX
              go_simp
              first
              | done
              | (with_reducible rfl)
            try simp only [Act.put, List.setIfInBounds_toArray, List.set_cons_zero, List.set_cons_succ]
            refine take_in hro 22 44 _ (v := ?vq32_22) rfl rfl (by kernel_rfl) (by kernel_rfl) (by kernel_rfl) (fun _ _ _ h => h) ⟨Or.inl ⟨by rfl, ?hyq32_22⟩, fun _ => rfl⟩ ?restq32_22
            case hyq32_22 =>
              intro wX
              go_simp
              first
              | done
              | (with_reducible rfl)
            try simp only [Act.put, List.setIfInBounds_toArray, List.set_cons_zero, List.set_cons_succ]
            refine take_in hro 24 46 _ (v := ?vq33_24) rfl rfl (by kernel_rfl) (by kernel_rfl) (by kernel_rfl) (fun _ _ _ h => h) ⟨Or.inl ⟨by rfl, ?hyq33_24⟩, fun _ => rfl⟩ ?restq33_24
            case hyq33_24 =>
              intro wX
              go_simp
              first
              | done
              | (with_reducible rfl)
            try simp only [Act.put, List.setIfInBounds_toArray, List.set_cons_zero, List.set_cons_succ]
            refine wpAnyIn_ready (rs := [23]) (by kernel_rfl) (by simp) ?_
            refine AllReadyIn.cons rfl (fun K hK => ?_) AllReadyIn.nil
            go_simp
            refine hK _ _ ?_
            clear hK K
            try simp only [Act.put, List.setIfInBounds_toArray, List.set_cons_zero, List.set_cons_succ]
            refine wpAnyIn_ready (rs := [25]) (by kernel_rfl) (by simp) ?_
            refine AllReadyIn.cons rfl (fun K hK => ?_) AllReadyIn.nil
            go_simp
            gi_wp2_with (gi_at_call 34; refine (callsIn_any (IHR.out _ hW2 hB2 hj2)).mono ?_; rintro e W3 ⟨hW3, hB3, ⟨rfl, hj3⟩ | ⟨rfl, hys3⟩⟩)
            · skip
              try (refine hK _ _ ?_)
              try clear hK K
              try simp only [Act.put, List.setIfInBounds_toArray, List.set_cons_zero, List.set_cons_succ]
              refine take_in hro 26 48 _ (v := ?vq34_26) rfl rfl (by kernel_rfl) (by kernel_rfl) (by kernel_rfl) (fun _ _ _ h => h) ⟨Or.inl ⟨by rfl, ?hyq34_26⟩, fun _ => rfl⟩ ?restq34_26
              case hyq34_26 =>
                intro wX
                go_simp
                first
                | done
                | (with_reducible rfl)
              try simp only [Act.put, List.setIfInBounds_toArray, List.set_cons_zero, List.set_cons_succ]
              refine take_in hro 27 6 _ (v := ?vq35_27) rfl rfl (by kernel_rfl) (by kernel_rfl) (by kernel_rfl) (fun _ _ _ h => h) ⟨Or.inl ⟨by rfl, ?hyq35_27⟩, fun _ => rfl⟩ ?restq35_27
              case hyq35_27 =>
                intro wX
                go_simp
                first
                | done
                | (with_reducible rfl)
              try simp only [Act.put, List.setIfInBounds_toArray, List.set_cons_zero, List.set_cons_succ]
              refine wpAnyIn_done (by kernel_rfl) ?_ _
              refine NoPanic.normal ?_
              gi_wp2
              exact ⟨_, results_tmp rfl _ _ _, hW3, hB3, .inl ⟨rfl, by rw [HE.out]; exact hj3⟩⟩
            · skip
              try (refine hK _ _ ?_)
              try clear hK K
              try simp only [Act.put, List.setIfInBounds_toArray, List.set_cons_zero, List.set_cons_succ]
              refine take_in hro 26 48 _ (v := ?vq36_26) rfl rfl (by kernel_rfl) (by kernel_rfl) (by kernel_rfl) (fun _ _ _ h => h) ⟨Or.inl ⟨by rfl, ?hyq36_26⟩, fun _ => rfl⟩ ?restq36_26
              case hyq36_26 =>
                intro wX
                go_simp
                first
                | done
                | (with_reducible rfl)
              try simp only [Act.put, List.setIfInBounds_toArray, List.set_cons_zero, List.set_cons_succ]
              refine take_in hro 27 6 _ (v := ?vq37_27) rfl rfl (by kernel_rfl) (by kernel_rfl) (by kernel_rfl) (fun _ _ _ h => h) ⟨Or.inl ⟨by rfl, ?hyq37_27⟩, fun _ => rfl⟩ ?restq37_27
              case hyq37_27 =>
                intro wX
                go_simp
                first
                | done
                | (with_reducible rfl)
              try simp only [Act.put, List.setIfInBounds_toArray, List.set_cons_zero, List.set_cons_succ]
              refine wpAnyIn_done (by kernel_rfl) ?_ _
              refine NoPanic.normal ?_
              gi_wp2
              obtain ⟨ys, hp, hx⟩ := hys3
              exact ⟨_, results_tmp rfl _ _ _, hW3, hB3, .inr ⟨rfl, ys, by rw [HE.out]; exact hp, hx⟩⟩
          · have hW2 := hW1.kq hk2
            have hB2 := Nat.le_trans hB1 hk2.1.size
            try (refine hK _ _ ?_)
            try clear hK K
            try simp only [Act.put, List.setIfInBounds_toArray, List.set_cons_zero, List.set_cons_succ]
            refine take_in hro 18 40 _ (v := ?vq38_18) rfl rfl (by kernel_rfl) (by kernel_rfl) (by kernel_rfl) (fun _ _ _ h => h) ⟨Or.inl ⟨by rfl, ?hyq38_18⟩, fun _ => rfl⟩ ?restq38_18
            case hyq38_18 =>
              intro wX
              go_simp
              first
              | done
              | (with_reducible rfl)
            try simp only [Act.put, List.setIfInBounds_toArray, List.set_cons_zero, List.set_cons_succ]
            refine take_in hro 19 41 _ (v := ?vq39_19) rfl rfl (by kernel_rfl) (by kernel_rfl) (by kernel_rfl) (fun _ _ _ h => h) ⟨Or.inl ⟨by rfl, ?hyq39_19⟩, fun _ => rfl⟩ ?restq39_19
            case hyq39_19 =>
              intro wX
              go_simp
              first
              | done
              | (with_reducible rfl)
            try simp only [Act.put, List.setIfInBounds_toArray, List.set_cons_zero, List.set_cons_succ]
            refine take_in hro 20 42 _ (v := undef) rfl rfl (by kernel_rfl) (by kernel_rfl) (by kernel_rfl) (fun _ _ _ h => h) ⟨Or.inr ⟨by rfl, rfl⟩, fun _ => rfl⟩ ?_
            try simp only [Act.put, List.setIfInBounds_toArray, List.set_cons_zero, List.set_cons_succ]
            refine take_in hro 21 43 _ (v := undef) rfl rfl (by kernel_rfl) (by kernel_rfl) (by kernel_rfl) (fun _ _ _ h => h) ⟨Or.inr ⟨by rfl, rfl⟩, fun _ => rfl⟩ ?_
            try simp only [Act.put, List.setIfInBounds_toArray, List.set_cons_zero, List.set_cons_succ]
            refine take_in hro 22 44 _ (v := undef) rfl rfl (by kernel_rfl) (by kernel_rfl) (by kernel_rfl) (fun _ _ _ h => h) ⟨Or.inr ⟨by rfl, rfl⟩, fun _ => rfl⟩ ?_
            try simp only [Act.put, List.setIfInBounds_toArray, List.set_cons_zero, List.set_cons_succ]
            refine take_in hro 23 45 _ (v := undef) rfl rfl (by kernel_rfl) (by kernel_rfl) (by kernel_rfl) (fun _ _ _ h => h) ⟨Or.inr ⟨by rfl, rfl⟩, fun _ => rfl⟩ ?_
            try simp only [Act.put, List.setIfInBounds_toArray, List.set_cons_zero, List.set_cons_succ]
            refine take_in hro 24 46 _ (v := undef) rfl rfl (by kernel_rfl) (by kernel_rfl) (by kernel_rfl) (fun _ _ _ h => h) ⟨Or.inr ⟨by rfl, rfl⟩, fun _ => rfl⟩ ?_
            try simp only [Act.put, List.setIfInBounds_toArray, List.set_cons_zero, List.set_cons_succ]
            refine unw_at hF 25 47 _ rfl rfl (by kernel_rfl) (by rfl) ?_
            try simp only [Act.put, List.setIfInBounds_toArray, List.set_cons_zero, List.set_cons_succ]
            refine take_in hro 26 48 _ (v := ?vq40_26) rfl rfl (by kernel_rfl) (by kernel_rfl) (by kernel_rfl) (fun _ _ _ h => h) ⟨Or.inl ⟨by rfl, ?hyq40_26⟩, fun _ => rfl⟩ ?restq40_26
            case hyq40_26 =>
              intro wX
              go_simp
              first
              | done
              | (with_reducible rfl)
            try simp only [Act.put, List.setIfInBounds_toArray, List.set_cons_zero, List.set_cons_succ]
            refine take_in hro 27 6 _ (v := ?vq41_27) rfl rfl (by kernel_rfl) (by kernel_rfl) (by kernel_rfl) (fun _ _ _ h => h) ⟨Or.inl ⟨by rfl, ?hyq41_27⟩, fun _ => rfl⟩ ?restq41_27
            case hyq41_27 =>
              intro wX
              go_simp
              first
              | done
              | (with_reducible rfl)
            try simp only [Act.put, List.setIfInBounds_toArray, List.set_cons_zero, List.set_cons_succ]
            refine wpAnyIn_done (by kernel_rfl) ?_ _
            refine NoPanic.normal ?_
            gi_wp2
            exact ⟨_, results_tmp rfl _ _ _, hW2, hB2, .inr ⟨rfl, _, by rw [HE.out]; exact List.prefix_append _ _, hj2⟩⟩
      · skip
        try (refine hK _ _ ?_)
        try clear hK K
        try simp only [Act.put, List.setIfInBounds_toArray, List.set_cons_zero, List.set_cons_succ]
        refine take_in hro 7 29 _ (v := ?vq42_7) rfl rfl (by kernel_rfl) (by kernel_rfl) (by kernel_rfl) (fun _ _ _ h => h) ⟨Or.inl ⟨by rfl, ?hyq42_7⟩, fun _ => rfl⟩ ?restq42_7
        case hyq42_7 =>
          intro wX
          go_simp
          first
          | done
          | (with_reducible rfl)
        try simp only [Act.put, List.setIfInBounds_toArray, List.set_cons_zero, List.set_cons_succ]
        refine take_in hro 8 30 _ (v := undef) rfl rfl (by kernel_rfl) (by kernel_rfl) (by kernel_rfl) (fun _ _ _ h => h) ⟨Or.inr ⟨by rfl, rfl⟩, fun _ => rfl⟩ ?_
        try simp only [Act.put, List.setIfInBounds_toArray, List.set_cons_zero, List.set_cons_succ]
        refine take_in hro 9 31 _ (v := undef) rfl rfl (by kernel_rfl) (by kernel_rfl) (by kernel_rfl) (fun _ _ _ h => h) ⟨Or.inr ⟨by rfl, rfl⟩, fun _ => rfl⟩ ?_
        try simp only [Act.put, List.setIfInBounds_toArray, List.set_cons_zero, List.set_cons_succ]
        refine take_in hro 10 32 _ (v := undef) rfl rfl (by kernel_rfl) (by kernel_rfl) (by kernel_rfl) (fun _ _ _ h => h) ⟨Or.inr ⟨by rfl, rfl⟩, fun _ => rfl⟩ ?_
        try simp only [Act.put, List.setIfInBounds_toArray, List.set_cons_zero, List.set_cons_succ]
        refine take_in hro 11 33 _ (v := undef) rfl rfl (by kernel_rfl) (by kernel_rfl) (by kernel_rfl) (fun _ _ _ h => h) ⟨Or.inr ⟨by rfl, rfl⟩, fun _ => rfl⟩ ?_
        try simp only [Act.put, List.setIfInBounds_toArray, List.set_cons_zero, List.set_cons_succ]
        refine take_in hro 12 34 _ (v := undef) rfl rfl (by kernel_rfl) (by kernel_rfl) (by kernel_rfl) (fun _ _ _ h => h) ⟨Or.inr ⟨by rfl, rfl⟩, fun _ => rfl⟩ ?_
        try simp only [Act.put, List.setIfInBounds_toArray, List.set_cons_zero, List.set_cons_succ]
        refine take_in hro 13 35 _ (v := undef) rfl rfl (by kernel_rfl) (by kernel_rfl) (by kernel_rfl) (fun _ _ _ h => h) ⟨Or.inr ⟨by rfl, rfl⟩, fun _ => rfl⟩ ?_
        try simp only [Act.put, List.setIfInBounds_toArray, List.set_cons_zero, List.set_cons_succ]
        refine take_in hro 14 36 _ (v := undef) rfl rfl (by kernel_rfl) (by kernel_rfl) (by kernel_rfl) (fun _ _ _ h => h) ⟨Or.inr ⟨by rfl, rfl⟩, fun _ => rfl⟩ ?_
        try simp only [Act.put, List.setIfInBounds_toArray, List.set_cons_zero, List.set_cons_succ]
        refine take_in hro 15 37 _ (v := undef) rfl rfl (by kernel_rfl) (by kernel_rfl) (by kernel_rfl) (fun _ _ _ h => h) ⟨Or.inr ⟨by rfl, rfl⟩, fun _ => rfl⟩ ?_
        try simp only [Act.put, List.setIfInBounds_toArray, List.set_cons_zero, List.set_cons_succ]
        refine take_in hro 16 38 _ (v := undef) rfl rfl (by kernel_rfl) (by kernel_rfl) (by kernel_rfl) (fun _ _ _ h => h) ⟨Or.inr ⟨by rfl, rfl⟩, fun _ => rfl⟩ ?_
        try simp only [Act.put, List.setIfInBounds_toArray, List.set_cons_zero, List.set_cons_succ]
        refine unw_at hF 17 39 _ rfl rfl (by kernel_rfl) (by rfl) ?_
        try simp only [Act.put, List.setIfInBounds_toArray, List.set_cons_zero, List.set_cons_succ]
        refine take_in hro 18 40 _ (v := ?vq43_18) rfl rfl (by kernel_rfl) (by kernel_rfl) (by kernel_rfl) (fun _ _ _ h => h) ⟨Or.inl ⟨by rfl, ?hyq43_18⟩, fun _ => rfl⟩ ?restq43_18
        case hyq43_18 =>
          intro wX
          go_simp
          first
          | done
          | (with_reducible rfl)
        try simp only [Act.put, List.setIfInBounds_toArray, List.set_cons_zero, List.set_cons_succ]
        refine take_in hro 19 41 _ (v := ?vq44_19) rfl rfl (by kernel_rfl) (by kernel_rfl) (by kernel_rfl) (fun _ _ _ h => h) ⟨Or.inl ⟨by rfl, ?hyq44_19⟩, fun _ => rfl⟩ ?restq44_19
        case hyq44_19 =>
          intro wX
          go_simp
          first
          | done
          | (with_reducible rfl)
        try simp only [Act.put, List.setIfInBounds_toArray, List.set_cons_zero, List.set_cons_succ]
        refine take_in hro 20 42 _ (v := undef) rfl rfl (by kernel_rfl) (by kernel_rfl) (by kernel_rfl) (fun _ _ _ h => h) ⟨Or.inr ⟨by rfl, rfl⟩, fun _ => rfl⟩ ?_
        try simp only [Act.put, List.setIfInBounds_toArray, List.set_cons_zero, List.set_cons_succ]
        refine take_in hro 21 43 _ (v := undef) rfl rfl (by kernel_rfl) (by kernel_rfl) (by kernel_rfl) (fun _ _ _ h => h) ⟨Or.inr ⟨by rfl, rfl⟩, fun _ => rfl⟩ ?_
        try simp only [Act.put, List.setIfInBounds_toArray, List.set_cons_zero, List.set_cons_succ]
        refine take_in hro 22 44 _ (v := undef) rfl rfl (by kernel_rfl) (by kernel_rfl) (by kernel_rfl) (fun _ _ _ h => h) ⟨Or.inr ⟨by rfl, rfl⟩, fun _ => rfl⟩ ?_
        try simp only [Act.put, List.setIfInBounds_toArray, List.set_cons_zero, List.set_cons_succ]
        refine take_in hro 23 45 _ (v := undef) rfl rfl (by kernel_rfl) (by kernel_rfl) (by kernel_rfl) (fun _ _ _ h => h) ⟨Or.inr ⟨by rfl, rfl⟩, fun _ => rfl⟩ ?_
        try simp only [Act.put, List.setIfInBounds_toArray, List.set_cons_zero, List.set_cons_succ]
        refine take_in hro 24 46 _ (v := undef) rfl rfl (by kernel_rfl) (by kernel_rfl) (by kernel_rfl) (fun _ _ _ h => h) ⟨Or.inr ⟨by rfl, rfl⟩, fun _ => rfl⟩ ?_
        try simp only [Act.put, List.setIfInBounds_toArray, List.set_cons_zero, List.set_cons_succ]
        refine unw_at hF 25 47 _ rfl rfl (by kernel_rfl) (by rfl) ?_
        try simp only [Act.put, List.setIfInBounds_toArray, List.set_cons_zero, List.set_cons_succ]
        refine take_in hro 26 48 _ (v := ?vq45_26) rfl rfl (by kernel_rfl) (by kernel_rfl) (by kernel_rfl) (fun _ _ _ h => h) ⟨Or.inl ⟨by rfl, ?hyq45_26⟩, fun _ => rfl⟩ ?restq45_26
        case hyq45_26 =>
          intro wX
          go_simp
          first
          | done
          | (with_reducible rfl)
        try simp only [Act.put, List.setIfInBounds_toArray, List.set_cons_zero, List.set_cons_succ]
        refine take_in hro 27 6 _ (v := ?vq46_27) rfl rfl (by kernel_rfl) (by kernel_rfl) (by kernel_rfl) (fun _ _ _ h => h) ⟨Or.inl ⟨by rfl, ?hyq46_27⟩, fun _ => rfl⟩ ?restq46_27
        case hyq46_27 =>
          intro wX
          go_simp
          first
          | done
          | (with_reducible rfl)
        try simp only [Act.put, List.setIfInBounds_toArray, List.set_cons_zero, List.set_cons_succ]
        refine wpAnyIn_done (by kernel_rfl) ?_ _
        refine NoPanic.normal ?_
        gi_wp2
        obtain ⟨ys, hp, hx⟩ := hys
        exact ⟨_, results_tmp rfl _ _ _, hW1, hB1, .inr ⟨rfl, ys, by rw [HE.out, List.append_assoc]; exact hp.trans (List.prefix_append _ _), hx⟩⟩
end Go.Proofs.Ytnibmfijkbfaeaa.Om
