/- A tree tells its keys to the body of a range; keys that are texts (written by gen_oms). -/
import Derived.Test.YtnibmfijkbfaeaaOmF
import Derived.Test.YtnibmfijkbfaeaaOmS
import Derived.Test.YtnibmfijkbfaeaaOmR
import Derived.Shelf.RegionOpen
namespace Go.Proofs.Ytnibmfijkbfaeaa.Om
open Go.RowKit Go.Proofs.Ytnibmfijkbfaeaa
set_option linter.unusedVariables false
set_option linter.unusedSimpArgs false
set_option maxRecDepth 100000
attribute [local go_sem] Oper.semAt_some
open Key (lt)

def encS (p : ByteArray × Int) : Array Value := #[.string p.1, .int .i64 p.2]
abbrev TmPS (P : Own) (w : World) (t : Tr ByteArray Int) (p : Value) : Prop := TmP 76 (fun k : ByteArray => .string k) P w t p
set_option maxHeartbeats 4000000 in
theorem all_y_s (l : Nat) (P : Own) (B : Nat) (J Jx : Own → List (ByteArray × Int) → World → Prop) (hJ : Stb B J) (G : List (ByteArray × Int) → ByteArray × Int → Prop) (w0 : World) (hPc : Cells P w0)
    (hY : ∀ O pre x W1, J O pre W1 → G pre x → Hold P w0 W1 → B ≤ W1.heap.size → YieldAt Fence.wide 0 Try.prog l (encS x) W1 (Yd P B J Jx O pre x W1)) :
    ∀ (t : Tr ByteArray Int) (p : Value) (pre : List (ByteArray × Int)) (O : Own) (W : World), TmPS P w0 t p → Hold P w0 W → B ≤ W.heap.size → J O pre W → (∀ a x b, t.toL = a ++ x :: b → G (pre ++ a) x) →
      CallsIn Fence.wide 60 Try.prog 49 #[p, .func (.yield l) #[] #[]] W (Wk P w0 B J Jx O (pre ++ t.toL))
  | .leaf, p, pre, O, W, ht, hW, hB, hj, hG => by
    obtain rfl : p = .pointer none := ht
    have hF : ∀ k, Fence.wide.fn k := fun _ => trivial
    have hj2 := Lib.hid (hJ.grow hj (Below.refl _ W).drew)
    have hW2 : Hid (Hold P w0 W.drew) := Lib.hid (hW.trans (Hold.below (Below.refl _ W).drew))
    have hB2 := Lib.hid hB
    clear hY hj hW hG hPc hJ
    refine callsIn_of_wp_marks Try.func49 rfl trivial ?_ rfl
    simp only [Try.ntmps49, List.size_toArray, List.length_cons, List.length_nil, Nat.reduceAdd, Nat.reduceSub, Array.replicate_succ, Array.replicate_zero, List.push_toArray, List.append_toArray, List.nil_append, List.cons_append]
    have hm : Try.prog.follows .mixedOrders = true := by kernel_rfl
    have hro : Fence.wide.round = none := rfl
    gi_wp2
    refine wpIn_mono ?_ NoPanic.imp
    refine wpIn_region_any (by kernel_rfl) ?_
    try (change wpAnyIn _ _ _ _ _ _ _ _ _ (World.drew _))
    refine take_in hro 0 5 _ (v := ?vq1_0) rfl rfl (by kernel_rfl) (by kernel_rfl) (by kernel_rfl) (fun _ _ _ h => h) ⟨Or.inl ⟨by rfl, ?hyq1_0⟩, fun _ => rfl⟩ ?restq1_0
    case hyq1_0 =>
      intro wX
      go_simp
      first
      | done
      | (with_reducible rfl)
    try simp only [Act.put, List.setIfInBounds_toArray, List.set_cons_zero, List.set_cons_succ]
    refine take_in hro 1 6 _ (v := ?vq2_1) rfl rfl (by kernel_rfl) (by kernel_rfl) (by kernel_rfl) (fun _ _ _ h => h) ⟨Or.inl ⟨by rfl, ?hyq2_1⟩, fun _ => rfl⟩ ?restq2_1
    case hyq2_1 =>
      intro wX
      go_simp
      first
      | done
      | (with_reducible rfl)
    try simp only [Act.put, List.setIfInBounds_toArray, List.set_cons_zero, List.set_cons_succ]
    refine take_in hro 2 7 _ (v := ?vq3_2) rfl rfl (by kernel_rfl) (by kernel_rfl) (by kernel_rfl) (fun _ _ _ h => h) ⟨Or.inl ⟨by rfl, ?hyq3_2⟩, fun _ => rfl⟩ ?restq3_2
    case hyq3_2 =>
      intro wX
      go_simp
      first
      | done
      | (with_reducible rfl)
    try simp only [Act.put, List.setIfInBounds_toArray, List.set_cons_zero, List.set_cons_succ]
    refine take_in hro 3 8 _ (v := undef) rfl rfl (by kernel_rfl) (by kernel_rfl) (by kernel_rfl) (fun _ _ _ h => h) ⟨Or.inr ⟨by rfl, rfl⟩, fun _ => rfl⟩ ?_
    try simp only [Act.put, List.setIfInBounds_toArray, List.set_cons_zero, List.set_cons_succ]
    refine take_in hro 4 9 _ (v := undef) rfl rfl (by kernel_rfl) (by kernel_rfl) (by kernel_rfl) (fun _ _ _ h => h) ⟨Or.inr ⟨by rfl, rfl⟩, fun _ => rfl⟩ ?_
    try simp only [Act.put, List.setIfInBounds_toArray, List.set_cons_zero, List.set_cons_succ]
    refine take_in hro 5 10 _ (v := undef) rfl rfl (by kernel_rfl) (by kernel_rfl) (by kernel_rfl) (fun _ _ _ h => h) ⟨Or.inr ⟨by rfl, rfl⟩, fun _ => rfl⟩ ?_
    try simp only [Act.put, List.setIfInBounds_toArray, List.set_cons_zero, List.set_cons_succ]
    refine take_in hro 6 11 _ (v := undef) rfl rfl (by kernel_rfl) (by kernel_rfl) (by kernel_rfl) (fun _ _ _ h => h) ⟨Or.inr ⟨by rfl, rfl⟩, fun _ => rfl⟩ ?_
    try simp only [Act.put, List.setIfInBounds_toArray, List.set_cons_zero, List.set_cons_succ]
    refine take_in hro 7 12 _ (v := undef) rfl rfl (by kernel_rfl) (by kernel_rfl) (by kernel_rfl) (fun _ _ _ h => h) ⟨Or.inr ⟨by rfl, rfl⟩, fun _ => rfl⟩ ?_
    try simp only [Act.put, List.setIfInBounds_toArray, List.set_cons_zero, List.set_cons_succ]
    refine unw_at hF 8 13 _ rfl rfl (by kernel_rfl) (by rfl) ?_
    try simp only [Act.put, List.setIfInBounds_toArray, List.set_cons_zero, List.set_cons_succ]
    refine take_in hro 9 14 _ (v := undef) rfl rfl (by kernel_rfl) (by kernel_rfl) (by kernel_rfl) (fun _ _ _ h => h) ⟨Or.inr ⟨by rfl, rfl⟩, fun _ => rfl⟩ ?_
    try simp only [Act.put, List.setIfInBounds_toArray, List.set_cons_zero, List.set_cons_succ]
    refine take_in hro 10 15 _ (v := undef) rfl rfl (by kernel_rfl) (by kernel_rfl) (by kernel_rfl) (fun _ _ _ h => h) ⟨Or.inr ⟨by rfl, rfl⟩, fun _ => rfl⟩ ?_
    try simp only [Act.put, List.setIfInBounds_toArray, List.set_cons_zero, List.set_cons_succ]
    refine take_in hro 11 16 _ (v := undef) rfl rfl (by kernel_rfl) (by kernel_rfl) (by kernel_rfl) (fun _ _ _ h => h) ⟨Or.inr ⟨by rfl, rfl⟩, fun _ => rfl⟩ ?_
    try simp only [Act.put, List.setIfInBounds_toArray, List.set_cons_zero, List.set_cons_succ]
    refine take_in hro 12 17 _ (v := undef) rfl rfl (by kernel_rfl) (by kernel_rfl) (by kernel_rfl) (fun _ _ _ h => h) ⟨Or.inr ⟨by rfl, rfl⟩, fun _ => rfl⟩ ?_
    try simp only [Act.put, List.setIfInBounds_toArray, List.set_cons_zero, List.set_cons_succ]
    refine take_in hro 13 18 _ (v := undef) rfl rfl (by kernel_rfl) (by kernel_rfl) (by kernel_rfl) (fun _ _ _ h => h) ⟨Or.inr ⟨by rfl, rfl⟩, fun _ => rfl⟩ ?_
    try simp only [Act.put, List.setIfInBounds_toArray, List.set_cons_zero, List.set_cons_succ]
    refine take_in hro 14 19 _ (v := undef) rfl rfl (by kernel_rfl) (by kernel_rfl) (by kernel_rfl) (fun _ _ _ h => h) ⟨Or.inr ⟨by rfl, rfl⟩, fun _ => rfl⟩ ?_
    try simp only [Act.put, List.setIfInBounds_toArray, List.set_cons_zero, List.set_cons_succ]
    refine take_in hro 15 20 _ (v := undef) rfl rfl (by kernel_rfl) (by kernel_rfl) (by kernel_rfl) (fun _ _ _ h => h) ⟨Or.inr ⟨by rfl, rfl⟩, fun _ => rfl⟩ ?_
    try simp only [Act.put, List.setIfInBounds_toArray, List.set_cons_zero, List.set_cons_succ]
    refine take_in hro 16 21 _ (v := undef) rfl rfl (by kernel_rfl) (by kernel_rfl) (by kernel_rfl) (fun _ _ _ h => h) ⟨Or.inr ⟨by rfl, rfl⟩, fun _ => rfl⟩ ?_
    try simp only [Act.put, List.setIfInBounds_toArray, List.set_cons_zero, List.set_cons_succ]
    refine take_in hro 17 22 _ (v := undef) rfl rfl (by kernel_rfl) (by kernel_rfl) (by kernel_rfl) (fun _ _ _ h => h) ⟨Or.inr ⟨by rfl, rfl⟩, fun _ => rfl⟩ ?_
    try simp only [Act.put, List.setIfInBounds_toArray, List.set_cons_zero, List.set_cons_succ]
    refine take_in hro 18 23 _ (v := undef) rfl rfl (by kernel_rfl) (by kernel_rfl) (by kernel_rfl) (fun _ _ _ h => h) ⟨Or.inr ⟨by rfl, rfl⟩, fun _ => rfl⟩ ?_
    try simp only [Act.put, List.setIfInBounds_toArray, List.set_cons_zero, List.set_cons_succ]
    refine unw_at hF 19 24 _ rfl rfl (by kernel_rfl) (by rfl) ?_
    try simp only [Act.put, List.setIfInBounds_toArray, List.set_cons_zero, List.set_cons_succ]
    refine take_in hro 20 25 _ (v := undef) rfl rfl (by kernel_rfl) (by kernel_rfl) (by kernel_rfl) (fun _ _ _ h => h) ⟨Or.inr ⟨by rfl, rfl⟩, fun _ => rfl⟩ ?_
    try simp only [Act.put, List.setIfInBounds_toArray, List.set_cons_zero, List.set_cons_succ]
    refine take_in hro 21 26 _ (v := undef) rfl rfl (by kernel_rfl) (by kernel_rfl) (by kernel_rfl) (fun _ _ _ h => h) ⟨Or.inr ⟨by rfl, rfl⟩, fun _ => rfl⟩ ?_
    try simp only [Act.put, List.setIfInBounds_toArray, List.set_cons_zero, List.set_cons_succ]
    refine take_in hro 22 27 _ (v := undef) rfl rfl (by kernel_rfl) (by kernel_rfl) (by kernel_rfl) (fun _ _ _ h => h) ⟨Or.inr ⟨by rfl, rfl⟩, fun _ => rfl⟩ ?_
    try simp only [Act.put, List.setIfInBounds_toArray, List.set_cons_zero, List.set_cons_succ]
    refine take_in hro 23 28 _ (v := undef) rfl rfl (by kernel_rfl) (by kernel_rfl) (by kernel_rfl) (fun _ _ _ h => h) ⟨Or.inr ⟨by rfl, rfl⟩, fun _ => rfl⟩ ?_
    try simp only [Act.put, List.setIfInBounds_toArray, List.set_cons_zero, List.set_cons_succ]
    refine take_in hro 24 29 _ (v := undef) rfl rfl (by kernel_rfl) (by kernel_rfl) (by kernel_rfl) (fun _ _ _ h => h) ⟨Or.inr ⟨by rfl, rfl⟩, fun _ => rfl⟩ ?_
    try simp only [Act.put, List.setIfInBounds_toArray, List.set_cons_zero, List.set_cons_succ]
    refine take_in hro 25 30 _ (v := undef) rfl rfl (by kernel_rfl) (by kernel_rfl) (by kernel_rfl) (fun _ _ _ h => h) ⟨Or.inr ⟨by rfl, rfl⟩, fun _ => rfl⟩ ?_
    try simp only [Act.put, List.setIfInBounds_toArray, List.set_cons_zero, List.set_cons_succ]
    refine take_in hro 26 31 _ (v := undef) rfl rfl (by kernel_rfl) (by kernel_rfl) (by kernel_rfl) (fun _ _ _ h => h) ⟨Or.inr ⟨by rfl, rfl⟩, fun _ => rfl⟩ ?_
    try simp only [Act.put, List.setIfInBounds_toArray, List.set_cons_zero, List.set_cons_succ]
    refine unw_at hF 27 32 _ rfl rfl (by kernel_rfl) (by rfl) ?_
    try simp only [Act.put, List.setIfInBounds_toArray, List.set_cons_zero, List.set_cons_succ]
    refine take_in hro 28 33 _ (v := undef) rfl rfl (by kernel_rfl) (by kernel_rfl) (by kernel_rfl) (fun _ _ _ h => h) ⟨Or.inr ⟨by rfl, rfl⟩, fun _ => rfl⟩ ?_
    try simp only [Act.put, List.setIfInBounds_toArray, List.set_cons_zero, List.set_cons_succ]
    refine take_in hro 29 34 _ (v := ?vq4_29) rfl rfl (by kernel_rfl) (by kernel_rfl) (by kernel_rfl) (fun _ _ _ h => h) ⟨Or.inl ⟨by rfl, ?hyq4_29⟩, fun _ => rfl⟩ ?restq4_29
    case hyq4_29 =>
      intro wX
      go_simp
      first
      | done
      | (with_reducible rfl)
    try simp only [Act.put, List.setIfInBounds_toArray, List.set_cons_zero, List.set_cons_succ]
    refine take_in hro 30 4 _ (v := ?vq5_30) rfl rfl (by kernel_rfl) (by kernel_rfl) (by kernel_rfl) (fun _ _ _ h => h) ⟨Or.inl ⟨by rfl, ?hyq5_30⟩, fun _ => rfl⟩ ?restq5_30
    case hyq5_30 =>
      intro wX
      go_simp
      first
      | done
      | (with_reducible rfl)
    try simp only [Act.put, List.setIfInBounds_toArray, List.set_cons_zero, List.set_cons_succ]
    refine wpAnyIn_done (by kernel_rfl) ?_ _
    refine NoPanic.normal ?_
    gi_wp2
    exact ⟨_, results_tmp rfl _ _ _, hW2.out, hB2.out, .inl ⟨rfl, by have h := hj2.out; simpa [Tr.toL] using h⟩⟩
  | .node l1 a b r1, p, pre, O, W, ht, hW, hB, hj, hG => by
    obtain ⟨g, pl, pr, rfl, hpg, rw0, tl, tr⟩ := ht
    obtain ⟨ql, rfl⟩ := tl.isPtr
    obtain ⟨qr, rfl⟩ := tr.isPtr
    have hF : ∀ k, Fence.wide.fn k := fun _ => trivial
    have hWd : Hold P w0 W.drew := hW.trans (Hold.below (Below.refl _ W).drew)
    have IHL : Hid (CallsIn Fence.wide 60 Try.prog 49 #[.pointer ql, .func (.yield l) #[] #[]] W.drew (Wk P w0 B J Jx O (pre ++ l1.toL))) := Lib.hid (all_y_s l P B J Jx hJ G w0 hPc hY l1 _ pre O W.drew tl hWd hB (hJ.grow hj (Below.refl _ W).drew) (fun u x v e => hG u x (v ++ (a, b) :: r1.toL) (by simp only [Tr.toL]; rw [e]; simp)))
    have HYY : Hid (∀ W1, J O (pre ++ l1.toL) W1 → Hold P w0 W1 → B ≤ W1.heap.size → YieldAt Fence.wide 0 Try.prog l (encS (a, b)) W1 (Yd P B J Jx O (pre ++ l1.toL) (a, b) W1)) := Lib.hid (fun W1 h1 h2 h3 => hY O _ _ W1 h1 (hG l1.toL (a, b) r1.toL rfl) h2 h3)
    have IHR : Hid (∀ W1, Hold P w0 W1 → B ≤ W1.heap.size → J O (pre ++ l1.toL ++ [(a, b)]) W1 → CallsIn Fence.wide 60 Try.prog 49 #[.pointer qr, .func (.yield l) #[] #[]] W1 (Wk P w0 B J Jx O (pre ++ l1.toL ++ [(a, b)] ++ r1.toL))) := Lib.hid (fun W1 h1 h2 h3 => all_y_s l P B J Jx hJ G w0 hPc hY r1 _ _ O W1 tr h1 h2 h3 (fun u x v e => by
      have h := hG (l1.toL ++ (a, b) :: u) x v (by simp only [Tr.toL]; rw [e]; simp)
      simpa using h))
    have HE : Hid (pre ++ (Tr.node l1 a b r1).toL = pre ++ l1.toL ++ [(a, b)] ++ r1.toL) := Lib.hid (by simp [Tr.toL])
    have HC : Hid (∀ W1, Hold P w0 W1 → (W1.cell? ⟨g, 0, none⟩ = some (.string a) ∧ W1.cell? ⟨g, 1, none⟩ = some (.int .i64 b)) ∧ W1.cell? ⟨g, 2, none⟩ = some (.pointer ql) ∧ W1.cell? ⟨g, 3, none⟩ = some (.pointer qr)) := Lib.hid (fun W1 h => by
      have r := h.row hpg rw0
      exact ⟨⟨(r.cell 0).trans rfl, (r.cell 1).trans rfl⟩, (r.cell 2).trans rfl, (r.cell 3).trans rfl⟩)
    obtain ⟨⟨d0, d1⟩, d2, d3⟩ := HC.out _ hWd
    clear hY hj hW hG hPc hJ tl tr rw0 hWd hpg
    refine callsIn_of_wp_marks Try.func49 rfl trivial ?_ rfl
    simp only [Try.ntmps49, List.size_toArray, List.length_cons, List.length_nil, Nat.reduceAdd, Nat.reduceSub, Array.replicate_succ, Array.replicate_zero, List.push_toArray, List.append_toArray, List.nil_append, List.cons_append]
    have hro : Fence.wide.round = none := rfl
    gi_wp2
    refine wpIn_mono ?_ NoPanic.imp
    refine wpIn_region_any (by kernel_rfl) ?_
    try (change wpAnyIn _ _ _ _ _ _ _ _ _ (World.drew _))
    refine take_in hro 0 5 _ (v := ?vq6_0) rfl rfl (by kernel_rfl) (by kernel_rfl) (by kernel_rfl) (fun _ _ _ h => h) ⟨Or.inl ⟨by rfl, ?hyq6_0⟩, fun _ => rfl⟩ ?restq6_0
    case hyq6_0 =>
      intro wX
      go_simp
      first
      | done
      | (with_reducible rfl)
    try simp only [Act.put, List.setIfInBounds_toArray, List.set_cons_zero, List.set_cons_succ]
    refine take_in hro 1 6 _ (v := ?vq7_1) rfl rfl (by kernel_rfl) (by kernel_rfl) (by kernel_rfl) (fun _ _ _ h => h) ⟨Or.inl ⟨by rfl, ?hyq7_1⟩, fun _ => rfl⟩ ?restq7_1
    case hyq7_1 =>
      intro wX
      go_simp
      first
      | done
      | (with_reducible rfl)
    try simp only [Act.put, List.setIfInBounds_toArray, List.set_cons_zero, List.set_cons_succ]
    refine take_in hro 2 7 _ (v := ?vq8_2) rfl rfl (by kernel_rfl) (by kernel_rfl) (by kernel_rfl) (fun _ _ _ h => h) ⟨Or.inl ⟨by rfl, ?hyq8_2⟩, fun _ => rfl⟩ ?restq8_2
    case hyq8_2 =>
      intro wX
      go_simp
      first
      | done
      | (with_reducible rfl)
    try simp only [Act.put, List.setIfInBounds_toArray, List.set_cons_zero, List.set_cons_succ]
    refine take_in hro 3 8 _ (v := ?vq9_3) rfl rfl (by kernel_rfl) (by kernel_rfl) (by kernel_rfl) (fun _ _ _ h => h) ⟨Or.inl ⟨by rfl, ?hyq9_3⟩, fun _ => rfl⟩ ?restq9_3
    case hyq9_3 =>
      intro wX
      go_simp
      first
      | done
      | (with_reducible rfl)
    try simp only [Act.put, List.setIfInBounds_toArray, List.set_cons_zero, List.set_cons_succ]
    refine take_in hro 4 9 _ (v := ?vq10_4) rfl rfl (by kernel_rfl) (by kernel_rfl) (by kernel_rfl) (fun _ _ _ h => h) ⟨Or.inl ⟨by rfl, ?hyq10_4⟩, fun _ => rfl⟩ ?restq10_4
    case hyq10_4 =>
      intro wX
      go_simp
      first
      | done
      | (with_reducible rfl)
    try simp only [Act.put, List.setIfInBounds_toArray, List.set_cons_zero, List.set_cons_succ]
    refine take_in hro 5 10 _ (v := ?vq11_5) rfl rfl (by kernel_rfl) (by kernel_rfl) (by kernel_rfl) (fun _ _ _ h => h) ⟨Or.inl ⟨by rfl, ?hyq11_5⟩, fun _ => rfl⟩ ?restq11_5
    case hyq11_5 =>
      intro wX
      go_simp
      first
      | done
      | (with_reducible rfl)
    try simp only [Act.put, List.setIfInBounds_toArray, List.set_cons_zero, List.set_cons_succ]
    refine take_in hro 7 12 _ (v := ?vq12_7) rfl rfl (by kernel_rfl) (by kernel_rfl) (by kernel_rfl) (fun _ _ _ h => h) ⟨Or.inl ⟨by rfl, ?hyq12_7⟩, fun _ => rfl⟩ ?restq12_7
    case hyq12_7 =>
      intro wX
      go_simp
      first
      | done
      | (with_reducible rfl)
    try simp only [Act.put, List.setIfInBounds_toArray, List.set_cons_zero, List.set_cons_succ]
    refine wpAnyIn_ready (rs := [6]) (by kernel_rfl) (by simp) ?_
    refine AllReadyIn.cons rfl (fun K hK => ?_) AllReadyIn.nil
    go_simp
    refine hK _ _ ?_
    clear hK K
    try simp only [Act.put, List.setIfInBounds_toArray, List.set_cons_zero, List.set_cons_succ]
    refine wpAnyIn_ready (rs := [8]) (by kernel_rfl) (by simp) ?_
    refine AllReadyIn.cons rfl (fun K hK => ?_) AllReadyIn.nil
    go_simp
    gi_wp2_with (gi_at_call 49; refine (callsIn_any IHL.out).mono ?_; rintro e W1 ⟨hW1, hB1, ⟨rfl, hj1⟩ | ⟨rfl, hys⟩⟩)
    · obtain ⟨⟨e0, e1⟩, e2, e3⟩ := HC.out _ hW1
      obtain ⟨fn, tmps, assign, body, hy, hR⟩ := HYY.out _ hj1 hW1 hB1
      unfold encS at hy
      have HR := Lib.hid hR
      clear hR
      try (refine hK _ _ ?_)
      try clear hK K
      try simp only [Act.put, List.setIfInBounds_toArray, List.set_cons_zero, List.set_cons_succ]
      refine take_in hro 9 14 _ (v := ?vq13_9) rfl rfl (by kernel_rfl) (by kernel_rfl) (by kernel_rfl) (fun _ _ _ h => h) ⟨Or.inl ⟨by rfl, ?hyq13_9⟩, fun _ => rfl⟩ ?restq13_9
      case hyq13_9 =>
        intro wX
        go_simp
        first
        | done
        | (with_reducible rfl)
      try simp only [Act.put, List.setIfInBounds_toArray, List.set_cons_zero, List.set_cons_succ]
      refine take_in hro 10 15 _ (v := ?vq14_10) rfl rfl (by kernel_rfl) (by kernel_rfl) (by kernel_rfl) (fun _ _ _ h => h) ⟨Or.inl ⟨by rfl, ?hyq14_10⟩, fun _ => rfl⟩ ?restq14_10
      case hyq14_10 =>
        intro wX
        go_simp
        first
        | done
        | (with_reducible rfl)
      try simp only [Act.put, List.setIfInBounds_toArray, List.set_cons_zero, List.set_cons_succ]
      refine take_in hro 11 16 _ (v := ?vq15_11) rfl rfl (by kernel_rfl) (by kernel_rfl) (by kernel_rfl) (fun _ _ _ h => h) ⟨Or.inl ⟨by rfl, ?hyq15_11⟩, fun _ => rfl⟩ ?restq15_11
      case hyq15_11 =>
        intro wX
        go_simp
        first
        | done
        | (with_reducible rfl)
      try simp only [Act.put, List.setIfInBounds_toArray, List.set_cons_zero, List.set_cons_succ]
      refine take_in hro 12 17 _ (v := ?vq16_12) rfl rfl (by kernel_rfl) (by kernel_rfl) (by kernel_rfl) (fun _ _ _ h => h) ⟨Or.inl ⟨by rfl, ?hyq16_12⟩, fun _ => rfl⟩ ?restq16_12
      case hyq16_12 =>
        intro wX
        go_simp
        first
        | done
        | (with_reducible rfl)
      try simp only [Act.put, List.setIfInBounds_toArray, List.set_cons_zero, List.set_cons_succ]
      refine take_in hro 13 18 _ (v := ?vq17_13) rfl rfl (by kernel_rfl) (by kernel_rfl) (by kernel_rfl) (fun _ _ _ h => h) ⟨Or.inl ⟨by rfl, ?hyq17_13⟩, fun _ => rfl⟩ ?restq17_13
      case hyq17_13 =>
        intro wX
        go_simp
        first
        | done
        | (with_reducible rfl)
      try simp only [Act.put, List.setIfInBounds_toArray, List.set_cons_zero, List.set_cons_succ]
      refine take_in hro 15 20 _ (v := ?vq18_15) rfl rfl (by kernel_rfl) (by kernel_rfl) (by kernel_rfl) (fun _ _ _ h => h) ⟨Or.inl ⟨by rfl, ?hyq18_15⟩, fun _ => rfl⟩ ?restq18_15
      case hyq18_15 =>
        intro wX
        go_simp
        first
        | done
        | (with_reducible rfl)
      try simp only [Act.put, List.setIfInBounds_toArray, List.set_cons_zero, List.set_cons_succ]
      refine take_in hro 16 21 _ (v := ?vq19_16) rfl rfl (by kernel_rfl) (by kernel_rfl) (by kernel_rfl) (fun _ _ _ h => h) ⟨Or.inl ⟨by rfl, ?hyq19_16⟩, fun _ => rfl⟩ ?restq19_16
      case hyq19_16 =>
        intro wX
        go_simp
        first
        | done
        | (with_reducible rfl)
      try simp only [Act.put, List.setIfInBounds_toArray, List.set_cons_zero, List.set_cons_succ]
      refine take_in hro 17 22 _ (v := ?vq20_17) rfl rfl (by kernel_rfl) (by kernel_rfl) (by kernel_rfl) (fun _ _ _ h => h) ⟨Or.inl ⟨by rfl, ?hyq20_17⟩, fun _ => rfl⟩ ?restq20_17
      case hyq20_17 =>
        intro wX
        go_simp
        first
        | done
        | (with_reducible rfl)
      try simp only [Act.put, List.setIfInBounds_toArray, List.set_cons_zero, List.set_cons_succ]
      refine wpAnyIn_ready (rs := [14, 18]) (by kernel_rfl) (by simp) ?_
      refine AllReadyIn.cons rfl (fun K hK => ?_) (AllReadyIn.cons rfl (fun K hK => ?_) AllReadyIn.nil)
      · go_simp
        refine hK _ _ ?_
        clear hK K
        try simp only [Act.put, List.setIfInBounds_toArray, List.set_cons_zero, List.set_cons_succ]
        refine wpAnyIn_ready (rs := [18]) (by kernel_rfl) (by simp) ?_
        refine AllReadyIn.cons rfl (fun K hK => ?_) AllReadyIn.nil
        go_simp
        refine hK _ _ ?_
        clear hK K
        try simp only [Act.put, List.setIfInBounds_toArray, List.set_cons_zero, List.set_cons_succ]
        refine wpAnyIn_ready (rs := [19]) (by kernel_rfl) (by simp) ?_
        refine AllReadyIn.cons rfl (fun K hK => ?_) AllReadyIn.nil
        go_simp
        refine (roundIn_any HR.out).mono ?_
        rintro e W2 ⟨hk2, ⟨rfl, hj2⟩ | ⟨rfl, hj2⟩⟩
        · have hW2 := hW1.kq hk2
          have hB2 := Nat.le_trans hB1 hk2.1.size
          obtain ⟨⟨f0, f1⟩, f2, f3⟩ := HC.out _ hW2
          try (refine hK _ _ ?_)
          try clear hK K
          try simp only [Act.put, List.setIfInBounds_toArray, List.set_cons_zero, List.set_cons_succ]
          refine take_in hro 20 25 _ (v := ?vq21_20) rfl rfl (by kernel_rfl) (by kernel_rfl) (by kernel_rfl) (fun _ _ _ h => h) ⟨Or.inl ⟨by rfl, ?hyq21_20⟩, fun _ => rfl⟩ ?restq21_20
          case hyq21_20 =>
            intro wX
            go_simp
            first
            | done
            | (with_reducible rfl)
          try simp only [Act.put, List.setIfInBounds_toArray, List.set_cons_zero, List.set_cons_succ]
          refine take_in hro 21 26 _ (v := ?vq22_21) rfl rfl (by kernel_rfl) (by kernel_rfl) (by kernel_rfl) (fun _ _ _ h => h) ⟨Or.inl ⟨by rfl, ?hyq22_21⟩, fun _ => rfl⟩ ?restq22_21
          case hyq22_21 =>
            intro wX
            go_simp
            first
            | done
            | (with_reducible rfl)
          try simp only [Act.put, List.setIfInBounds_toArray, List.set_cons_zero, List.set_cons_succ]
          refine take_in hro 22 27 _ (v := ?vq23_22) rfl rfl (by kernel_rfl) (by kernel_rfl) (by kernel_rfl) (fun _ _ _ h => h) ⟨Or.inl ⟨by rfl, ?hyq23_22⟩, fun _ => rfl⟩ ?restq23_22
          case hyq23_22 =>
            intro wX
            go_simp
            first
            | done
            | (with_reducible rfl)
          try simp only [Act.put, List.setIfInBounds_toArray, List.set_cons_zero, List.set_cons_succ]
          refine take_in hro 23 28 _ (v := ?vq24_23) rfl rfl (by kernel_rfl) (by kernel_rfl) (by kernel_rfl) (fun _ _ _ h => h) ⟨Or.inl ⟨by rfl, ?hyq24_23⟩, fun _ => rfl⟩ ?restq24_23
          case hyq24_23 =>
            intro wX
            go_simp
            first
            | done
            | (with_reducible rfl)
          try simp only [Act.put, List.setIfInBounds_toArray, List.set_cons_zero, List.set_cons_succ]
          refine take_in hro 24 29 _ (v := ?vq25_24) rfl rfl (by kernel_rfl) (by kernel_rfl) (by kernel_rfl) (fun _ _ _ h => h) ⟨Or.inl ⟨by rfl, ?hyq25_24⟩, fun _ => rfl⟩ ?restq25_24
          case hyq25_24 =>
            intro wX
            go_simp
            first
            | done
            | (with_reducible rfl)
          try simp only [Act.put, List.setIfInBounds_toArray, List.set_cons_zero, List.set_cons_succ]
          refine take_in hro 26 31 _ (v := ?vq26_26) rfl rfl (by kernel_rfl) (by kernel_rfl) (by kernel_rfl) (fun _ _ _ h => h) ⟨Or.inl ⟨by rfl, ?hyq26_26⟩, fun _ => rfl⟩ ?restq26_26
          case hyq26_26 =>
            intro wX
            go_simp
            first
            | done
            | (with_reducible rfl)
          try simp only [Act.put, List.setIfInBounds_toArray, List.set_cons_zero, List.set_cons_succ]
          refine wpAnyIn_ready (rs := [25]) (by kernel_rfl) (by simp) ?_
          refine AllReadyIn.cons rfl (fun K hK => ?_) AllReadyIn.nil
          go_simp
          refine hK _ _ ?_
          clear hK K
          try simp only [Act.put, List.setIfInBounds_toArray, List.set_cons_zero, List.set_cons_succ]
          refine wpAnyIn_ready (rs := [27]) (by kernel_rfl) (by simp) ?_
          refine AllReadyIn.cons rfl (fun K hK => ?_) AllReadyIn.nil
          go_simp
          gi_wp2_with (gi_at_call 49; refine (callsIn_any (IHR.out _ hW2 hB2 hj2)).mono ?_; rintro e W3 ⟨hW3, hB3, ⟨rfl, hj3⟩ | ⟨rfl, hys3⟩⟩)
          · skip
            try (refine hK _ _ ?_)
            try clear hK K
            try simp only [Act.put, List.setIfInBounds_toArray, List.set_cons_zero, List.set_cons_succ]
            refine take_in hro 28 33 _ (v := ?vq27_28) rfl rfl (by kernel_rfl) (by kernel_rfl) (by kernel_rfl) (fun _ _ _ h => h) ⟨Or.inl ⟨by rfl, ?hyq27_28⟩, fun _ => rfl⟩ ?restq27_28
            case hyq27_28 =>
              intro wX
              go_simp
              first
              | done
              | (with_reducible rfl)
            try simp only [Act.put, List.setIfInBounds_toArray, List.set_cons_zero, List.set_cons_succ]
            refine take_in hro 29 34 _ (v := ?vq28_29) rfl rfl (by kernel_rfl) (by kernel_rfl) (by kernel_rfl) (fun _ _ _ h => h) ⟨Or.inl ⟨by rfl, ?hyq28_29⟩, fun _ => rfl⟩ ?restq28_29
            case hyq28_29 =>
              intro wX
              go_simp
              first
              | done
              | (with_reducible rfl)
            try simp only [Act.put, List.setIfInBounds_toArray, List.set_cons_zero, List.set_cons_succ]
            refine take_in hro 30 4 _ (v := ?vq29_30) rfl rfl (by kernel_rfl) (by kernel_rfl) (by kernel_rfl) (fun _ _ _ h => h) ⟨Or.inl ⟨by rfl, ?hyq29_30⟩, fun _ => rfl⟩ ?restq29_30
            case hyq29_30 =>
              intro wX
              go_simp
              first
              | done
              | (with_reducible rfl)
            try simp only [Act.put, List.setIfInBounds_toArray, List.set_cons_zero, List.set_cons_succ]
            refine wpAnyIn_done (by kernel_rfl) ?_ _
            refine NoPanic.normal ?_
            gi_wp2
            exact ⟨_, results_tmp rfl _ _ _, hW3, hB3, .inl ⟨rfl, by rw [HE.out]; exact hj3⟩⟩
          · skip
            try (refine hK _ _ ?_)
            try clear hK K
            try simp only [Act.put, List.setIfInBounds_toArray, List.set_cons_zero, List.set_cons_succ]
            refine take_in hro 28 33 _ (v := ?vq30_28) rfl rfl (by kernel_rfl) (by kernel_rfl) (by kernel_rfl) (fun _ _ _ h => h) ⟨Or.inl ⟨by rfl, ?hyq30_28⟩, fun _ => rfl⟩ ?restq30_28
            case hyq30_28 =>
              intro wX
              go_simp
              first
              | done
              | (with_reducible rfl)
            try simp only [Act.put, List.setIfInBounds_toArray, List.set_cons_zero, List.set_cons_succ]
            refine take_in hro 29 34 _ (v := ?vq31_29) rfl rfl (by kernel_rfl) (by kernel_rfl) (by kernel_rfl) (fun _ _ _ h => h) ⟨Or.inl ⟨by rfl, ?hyq31_29⟩, fun _ => rfl⟩ ?restq31_29
            case hyq31_29 =>
              intro wX
              go_simp
              first
              | done
              | (with_reducible rfl)
            try simp only [Act.put, List.setIfInBounds_toArray, List.set_cons_zero, List.set_cons_succ]
            refine take_in hro 30 4 _ (v := ?vq32_30) rfl rfl (by kernel_rfl) (by kernel_rfl) (by kernel_rfl) (fun _ _ _ h => h) ⟨Or.inl ⟨by rfl, ?hyq32_30⟩, fun _ => rfl⟩ ?restq32_30
            case hyq32_30 =>
              intro wX
              go_simp
              first
              | done
              | (with_reducible rfl)
            try simp only [Act.put, List.setIfInBounds_toArray, List.set_cons_zero, List.set_cons_succ]
            refine wpAnyIn_done (by kernel_rfl) ?_ _
            refine NoPanic.normal ?_
            gi_wp2
            obtain ⟨ys, hp, hx⟩ := hys3
            exact ⟨_, results_tmp rfl _ _ _, hW3, hB3, .inr ⟨rfl, ys, by rw [HE.out]; exact hp, hx⟩⟩
        · have hW2 := hW1.kq hk2
          have hB2 := Nat.le_trans hB1 hk2.1.size
          try (refine hK _ _ ?_)
          try clear hK K
          try simp only [Act.put, List.setIfInBounds_toArray, List.set_cons_zero, List.set_cons_succ]
          refine take_in hro 20 25 _ (v := ?vq33_20) rfl rfl (by kernel_rfl) (by kernel_rfl) (by kernel_rfl) (fun _ _ _ h => h) ⟨Or.inl ⟨by rfl, ?hyq33_20⟩, fun _ => rfl⟩ ?restq33_20
          case hyq33_20 =>
            intro wX
            go_simp
            first
            | done
            | (with_reducible rfl)
          try simp only [Act.put, List.setIfInBounds_toArray, List.set_cons_zero, List.set_cons_succ]
          refine take_in hro 21 26 _ (v := ?vq34_21) rfl rfl (by kernel_rfl) (by kernel_rfl) (by kernel_rfl) (fun _ _ _ h => h) ⟨Or.inl ⟨by rfl, ?hyq34_21⟩, fun _ => rfl⟩ ?restq34_21
          case hyq34_21 =>
            intro wX
            go_simp
            first
            | done
            | (with_reducible rfl)
          try simp only [Act.put, List.setIfInBounds_toArray, List.set_cons_zero, List.set_cons_succ]
          refine take_in hro 22 27 _ (v := undef) rfl rfl (by kernel_rfl) (by kernel_rfl) (by kernel_rfl) (fun _ _ _ h => h) ⟨Or.inr ⟨by rfl, rfl⟩, fun _ => rfl⟩ ?_
          try simp only [Act.put, List.setIfInBounds_toArray, List.set_cons_zero, List.set_cons_succ]
          refine take_in hro 23 28 _ (v := undef) rfl rfl (by kernel_rfl) (by kernel_rfl) (by kernel_rfl) (fun _ _ _ h => h) ⟨Or.inr ⟨by rfl, rfl⟩, fun _ => rfl⟩ ?_
          try simp only [Act.put, List.setIfInBounds_toArray, List.set_cons_zero, List.set_cons_succ]
          refine take_in hro 24 29 _ (v := undef) rfl rfl (by kernel_rfl) (by kernel_rfl) (by kernel_rfl) (fun _ _ _ h => h) ⟨Or.inr ⟨by rfl, rfl⟩, fun _ => rfl⟩ ?_
          try simp only [Act.put, List.setIfInBounds_toArray, List.set_cons_zero, List.set_cons_succ]
          refine take_in hro 25 30 _ (v := undef) rfl rfl (by kernel_rfl) (by kernel_rfl) (by kernel_rfl) (fun _ _ _ h => h) ⟨Or.inr ⟨by rfl, rfl⟩, fun _ => rfl⟩ ?_
          try simp only [Act.put, List.setIfInBounds_toArray, List.set_cons_zero, List.set_cons_succ]
          refine take_in hro 26 31 _ (v := undef) rfl rfl (by kernel_rfl) (by kernel_rfl) (by kernel_rfl) (fun _ _ _ h => h) ⟨Or.inr ⟨by rfl, rfl⟩, fun _ => rfl⟩ ?_
          try simp only [Act.put, List.setIfInBounds_toArray, List.set_cons_zero, List.set_cons_succ]
          refine unw_at hF 27 32 _ rfl rfl (by kernel_rfl) (by rfl) ?_
          try simp only [Act.put, List.setIfInBounds_toArray, List.set_cons_zero, List.set_cons_succ]
          refine take_in hro 28 33 _ (v := ?vq35_28) rfl rfl (by kernel_rfl) (by kernel_rfl) (by kernel_rfl) (fun _ _ _ h => h) ⟨Or.inl ⟨by rfl, ?hyq35_28⟩, fun _ => rfl⟩ ?restq35_28
          case hyq35_28 =>
            intro wX
            go_simp
            first
            | done
            | (with_reducible rfl)
          try simp only [Act.put, List.setIfInBounds_toArray, List.set_cons_zero, List.set_cons_succ]
          refine take_in hro 29 34 _ (v := ?vq36_29) rfl rfl (by kernel_rfl) (by kernel_rfl) (by kernel_rfl) (fun _ _ _ h => h) ⟨Or.inl ⟨by rfl, ?hyq36_29⟩, fun _ => rfl⟩ ?restq36_29
          case hyq36_29 =>
            intro wX
            go_simp
            first
            | done
            | (with_reducible rfl)
          try simp only [Act.put, List.setIfInBounds_toArray, List.set_cons_zero, List.set_cons_succ]
          refine take_in hro 30 4 _ (v := ?vq37_30) rfl rfl (by kernel_rfl) (by kernel_rfl) (by kernel_rfl) (fun _ _ _ h => h) ⟨Or.inl ⟨by rfl, ?hyq37_30⟩, fun _ => rfl⟩ ?restq37_30
          case hyq37_30 =>
            intro wX
            go_simp
            first
            | done
            | (with_reducible rfl)
          try simp only [Act.put, List.setIfInBounds_toArray, List.set_cons_zero, List.set_cons_succ]
          refine wpAnyIn_done (by kernel_rfl) ?_ _
          refine NoPanic.normal ?_
          gi_wp2
          exact ⟨_, results_tmp rfl _ _ _, hW2, hB2, .inr ⟨rfl, _, by rw [HE.out]; exact List.prefix_append _ _, hj2⟩⟩
      · go_simp
        refine hK _ _ ?_
        clear hK K
        try simp only [Act.put, List.setIfInBounds_toArray, List.set_cons_zero, List.set_cons_succ]
        refine wpAnyIn_ready (rs := [14]) (by kernel_rfl) (by simp) ?_
        refine AllReadyIn.cons rfl (fun K hK => ?_) AllReadyIn.nil
        go_simp
        refine hK _ _ ?_
        clear hK K
        try simp only [Act.put, List.setIfInBounds_toArray, List.set_cons_zero, List.set_cons_succ]
        refine wpAnyIn_ready (rs := [19]) (by kernel_rfl) (by simp) ?_
        refine AllReadyIn.cons rfl (fun K hK => ?_) AllReadyIn.nil
        go_simp
        refine (roundIn_any HR.out).mono ?_
        rintro e W2 ⟨hk2, ⟨rfl, hj2⟩ | ⟨rfl, hj2⟩⟩
        · have hW2 := hW1.kq hk2
          have hB2 := Nat.le_trans hB1 hk2.1.size
          obtain ⟨⟨f0, f1⟩, f2, f3⟩ := HC.out _ hW2
          try (refine hK _ _ ?_)
          try clear hK K
          try simp only [Act.put, List.setIfInBounds_toArray, List.set_cons_zero, List.set_cons_succ]
          refine take_in hro 20 25 _ (v := ?vq38_20) rfl rfl (by kernel_rfl) (by kernel_rfl) (by kernel_rfl) (fun _ _ _ h => h) ⟨Or.inl ⟨by rfl, ?hyq38_20⟩, fun _ => rfl⟩ ?restq38_20
          case hyq38_20 =>
            intro wX
            go_simp
            first
            | done
            | (with_reducible rfl)
          try simp only [Act.put, List.setIfInBounds_toArray, List.set_cons_zero, List.set_cons_succ]
          refine take_in hro 21 26 _ (v := ?vq39_21) rfl rfl (by kernel_rfl) (by kernel_rfl) (by kernel_rfl) (fun _ _ _ h => h) ⟨Or.inl ⟨by rfl, ?hyq39_21⟩, fun _ => rfl⟩ ?restq39_21
          case hyq39_21 =>
            intro wX
            go_simp
            first
            | done
            | (with_reducible rfl)
          try simp only [Act.put, List.setIfInBounds_toArray, List.set_cons_zero, List.set_cons_succ]
          refine take_in hro 22 27 _ (v := ?vq40_22) rfl rfl (by kernel_rfl) (by kernel_rfl) (by kernel_rfl) (fun _ _ _ h => h) ⟨Or.inl ⟨by rfl, ?hyq40_22⟩, fun _ => rfl⟩ ?restq40_22
          case hyq40_22 =>
            intro wX
            go_simp
            first
            | done
            | (with_reducible rfl)
          try simp only [Act.put, List.setIfInBounds_toArray, List.set_cons_zero, List.set_cons_succ]
          refine take_in hro 23 28 _ (v := ?vq41_23) rfl rfl (by kernel_rfl) (by kernel_rfl) (by kernel_rfl) (fun _ _ _ h => h) ⟨Or.inl ⟨by rfl, ?hyq41_23⟩, fun _ => rfl⟩ ?restq41_23
          case hyq41_23 =>
            intro wX
            go_simp
            first
            | done
            | (with_reducible rfl)
          try simp only [Act.put, List.setIfInBounds_toArray, List.set_cons_zero, List.set_cons_succ]
          refine take_in hro 24 29 _ (v := ?vq42_24) rfl rfl (by kernel_rfl) (by kernel_rfl) (by kernel_rfl) (fun _ _ _ h => h) ⟨Or.inl ⟨by rfl, ?hyq42_24⟩, fun _ => rfl⟩ ?restq42_24
          case hyq42_24 =>
            intro wX
            go_simp
            first
            | done
            | (with_reducible rfl)
          try simp only [Act.put, List.setIfInBounds_toArray, List.set_cons_zero, List.set_cons_succ]
          refine take_in hro 26 31 _ (v := ?vq43_26) rfl rfl (by kernel_rfl) (by kernel_rfl) (by kernel_rfl) (fun _ _ _ h => h) ⟨Or.inl ⟨by rfl, ?hyq43_26⟩, fun _ => rfl⟩ ?restq43_26
          case hyq43_26 =>
            intro wX
            go_simp
            first
            | done
            | (with_reducible rfl)
          try simp only [Act.put, List.setIfInBounds_toArray, List.set_cons_zero, List.set_cons_succ]
          refine wpAnyIn_ready (rs := [25]) (by kernel_rfl) (by simp) ?_
          refine AllReadyIn.cons rfl (fun K hK => ?_) AllReadyIn.nil
          go_simp
          refine hK _ _ ?_
          clear hK K
          try simp only [Act.put, List.setIfInBounds_toArray, List.set_cons_zero, List.set_cons_succ]
          refine wpAnyIn_ready (rs := [27]) (by kernel_rfl) (by simp) ?_
          refine AllReadyIn.cons rfl (fun K hK => ?_) AllReadyIn.nil
          go_simp
          gi_wp2_with (gi_at_call 49; refine (callsIn_any (IHR.out _ hW2 hB2 hj2)).mono ?_; rintro e W3 ⟨hW3, hB3, ⟨rfl, hj3⟩ | ⟨rfl, hys3⟩⟩)
          · skip
            try (refine hK _ _ ?_)
            try clear hK K
            try simp only [Act.put, List.setIfInBounds_toArray, List.set_cons_zero, List.set_cons_succ]
            refine take_in hro 28 33 _ (v := ?vq44_28) rfl rfl (by kernel_rfl) (by kernel_rfl) (by kernel_rfl) (fun _ _ _ h => h) ⟨Or.inl ⟨by rfl, ?hyq44_28⟩, fun _ => rfl⟩ ?restq44_28
            case hyq44_28 =>
              intro wX
              go_simp
              first
              | done
              | (with_reducible rfl)
            try simp only [Act.put, List.setIfInBounds_toArray, List.set_cons_zero, List.set_cons_succ]
            refine take_in hro 29 34 _ (v := ?vq45_29) rfl rfl (by kernel_rfl) (by kernel_rfl) (by kernel_rfl) (fun _ _ _ h => h) ⟨Or.inl ⟨by rfl, ?hyq45_29⟩, fun _ => rfl⟩ ?restq45_29
            case hyq45_29 =>
              intro wX
              go_simp
              first
              | done
              | (with_reducible rfl)
            try simp only [Act.put, List.setIfInBounds_toArray, List.set_cons_zero, List.set_cons_succ]
            refine take_in hro 30 4 _ (v := ?vq46_30) rfl rfl (by kernel_rfl) (by kernel_rfl) (by kernel_rfl) (fun _ _ _ h => h) ⟨Or.inl ⟨by rfl, ?hyq46_30⟩, fun _ => rfl⟩ ?restq46_30
            case hyq46_30 =>
              intro wX
              go_simp
              first
              | done
              | (with_reducible rfl)
            try simp only [Act.put, List.setIfInBounds_toArray, List.set_cons_zero, List.set_cons_succ]
            refine wpAnyIn_done (by kernel_rfl) ?_ _
            refine NoPanic.normal ?_
            gi_wp2
            exact ⟨_, results_tmp rfl _ _ _, hW3, hB3, .inl ⟨rfl, by rw [HE.out]; exact hj3⟩⟩
          · skip
            try (refine hK _ _ ?_)
            try clear hK K
            try simp only [Act.put, List.setIfInBounds_toArray, List.set_cons_zero, List.set_cons_succ]
            refine take_in hro 28 33 _ (v := ?vq47_28) rfl rfl (by kernel_rfl) (by kernel_rfl) (by kernel_rfl) (fun _ _ _ h => h) ⟨Or.inl ⟨by rfl, ?hyq47_28⟩, fun _ => rfl⟩ ?restq47_28
            case hyq47_28 =>
              intro wX
              go_simp
              first
              | done
              | (with_reducible rfl)
            try simp only [Act.put, List.setIfInBounds_toArray, List.set_cons_zero, List.set_cons_succ]
            refine take_in hro 29 34 _ (v := ?vq48_29) rfl rfl (by kernel_rfl) (by kernel_rfl) (by kernel_rfl) (fun _ _ _ h => h) ⟨Or.inl ⟨by rfl, ?hyq48_29⟩, fun _ => rfl⟩ ?restq48_29
            case hyq48_29 =>
              intro wX
              go_simp
              first
              | done
              | (with_reducible rfl)
            try simp only [Act.put, List.setIfInBounds_toArray, List.set_cons_zero, List.set_cons_succ]
            refine take_in hro 30 4 _ (v := ?vq49_30) rfl rfl (by kernel_rfl) (by kernel_rfl) (by kernel_rfl) (fun _ _ _ h => h) ⟨Or.inl ⟨by rfl, ?hyq49_30⟩, fun _ => rfl⟩ ?restq49_30
            case hyq49_30 =>
              intro wX
              go_simp
              first
              | done
              | (with_reducible rfl)
            try simp only [Act.put, List.setIfInBounds_toArray, List.set_cons_zero, List.set_cons_succ]
            refine wpAnyIn_done (by kernel_rfl) ?_ _
            refine NoPanic.normal ?_
            gi_wp2
            obtain ⟨ys, hp, hx⟩ := hys3
            exact ⟨_, results_tmp rfl _ _ _, hW3, hB3, .inr ⟨rfl, ys, by rw [HE.out]; exact hp, hx⟩⟩
        · have hW2 := hW1.kq hk2
          have hB2 := Nat.le_trans hB1 hk2.1.size
          try (refine hK _ _ ?_)
          try clear hK K
          try simp only [Act.put, List.setIfInBounds_toArray, List.set_cons_zero, List.set_cons_succ]
          refine take_in hro 20 25 _ (v := ?vq50_20) rfl rfl (by kernel_rfl) (by kernel_rfl) (by kernel_rfl) (fun _ _ _ h => h) ⟨Or.inl ⟨by rfl, ?hyq50_20⟩, fun _ => rfl⟩ ?restq50_20
          case hyq50_20 =>
            intro wX
            go_simp
            first
            | done
            | (with_reducible rfl)
          try simp only [Act.put, List.setIfInBounds_toArray, List.set_cons_zero, List.set_cons_succ]
          refine take_in hro 21 26 _ (v := ?vq51_21) rfl rfl (by kernel_rfl) (by kernel_rfl) (by kernel_rfl) (fun _ _ _ h => h) ⟨Or.inl ⟨by rfl, ?hyq51_21⟩, fun _ => rfl⟩ ?restq51_21
          case hyq51_21 =>
            intro wX
            go_simp
            first
            | done
            | (with_reducible rfl)
          try simp only [Act.put, List.setIfInBounds_toArray, List.set_cons_zero, List.set_cons_succ]
          refine take_in hro 22 27 _ (v := undef) rfl rfl (by kernel_rfl) (by kernel_rfl) (by kernel_rfl) (fun _ _ _ h => h) ⟨Or.inr ⟨by rfl, rfl⟩, fun _ => rfl⟩ ?_
          try simp only [Act.put, List.setIfInBounds_toArray, List.set_cons_zero, List.set_cons_succ]
          refine take_in hro 23 28 _ (v := undef) rfl rfl (by kernel_rfl) (by kernel_rfl) (by kernel_rfl) (fun _ _ _ h => h) ⟨Or.inr ⟨by rfl, rfl⟩, fun _ => rfl⟩ ?_
          try simp only [Act.put, List.setIfInBounds_toArray, List.set_cons_zero, List.set_cons_succ]
          refine take_in hro 24 29 _ (v := undef) rfl rfl (by kernel_rfl) (by kernel_rfl) (by kernel_rfl) (fun _ _ _ h => h) ⟨Or.inr ⟨by rfl, rfl⟩, fun _ => rfl⟩ ?_
          try simp only [Act.put, List.setIfInBounds_toArray, List.set_cons_zero, List.set_cons_succ]
          refine take_in hro 25 30 _ (v := undef) rfl rfl (by kernel_rfl) (by kernel_rfl) (by kernel_rfl) (fun _ _ _ h => h) ⟨Or.inr ⟨by rfl, rfl⟩, fun _ => rfl⟩ ?_
          try simp only [Act.put, List.setIfInBounds_toArray, List.set_cons_zero, List.set_cons_succ]
          refine take_in hro 26 31 _ (v := undef) rfl rfl (by kernel_rfl) (by kernel_rfl) (by kernel_rfl) (fun _ _ _ h => h) ⟨Or.inr ⟨by rfl, rfl⟩, fun _ => rfl⟩ ?_
          try simp only [Act.put, List.setIfInBounds_toArray, List.set_cons_zero, List.set_cons_succ]
          refine unw_at hF 27 32 _ rfl rfl (by kernel_rfl) (by rfl) ?_
          try simp only [Act.put, List.setIfInBounds_toArray, List.set_cons_zero, List.set_cons_succ]
          refine take_in hro 28 33 _ (v := ?vq52_28) rfl rfl (by kernel_rfl) (by kernel_rfl) (by kernel_rfl) (fun _ _ _ h => h) ⟨Or.inl ⟨by rfl, ?hyq52_28⟩, fun _ => rfl⟩ ?restq52_28
          case hyq52_28 =>
            intro wX
            go_simp
            first
            | done
            | (with_reducible rfl)
          try simp only [Act.put, List.setIfInBounds_toArray, List.set_cons_zero, List.set_cons_succ]
          refine take_in hro 29 34 _ (v := ?vq53_29) rfl rfl (by kernel_rfl) (by kernel_rfl) (by kernel_rfl) (fun _ _ _ h => h) ⟨Or.inl ⟨by rfl, ?hyq53_29⟩, fun _ => rfl⟩ ?restq53_29
          case hyq53_29 =>
            intro wX
            go_simp
            first
            | done
            | (with_reducible rfl)
          try simp only [Act.put, List.setIfInBounds_toArray, List.set_cons_zero, List.set_cons_succ]
          refine take_in hro 30 4 _ (v := ?vq54_30) rfl rfl (by kernel_rfl) (by kernel_rfl) (by kernel_rfl) (fun _ _ _ h => h) ⟨Or.inl ⟨by rfl, ?hyq54_30⟩, fun _ => rfl⟩ ?restq54_30
          case hyq54_30 =>
            intro wX
            go_simp
            first
            | done
            | (with_reducible rfl)
          try simp only [Act.put, List.setIfInBounds_toArray, List.set_cons_zero, List.set_cons_succ]
          refine wpAnyIn_done (by kernel_rfl) ?_ _
          refine NoPanic.normal ?_
          gi_wp2
          exact ⟨_, results_tmp rfl _ _ _, hW2, hB2, .inr ⟨rfl, _, by rw [HE.out]; exact List.prefix_append _ _, hj2⟩⟩
    · skip
      try (refine hK _ _ ?_)
      try clear hK K
      try simp only [Act.put, List.setIfInBounds_toArray, List.set_cons_zero, List.set_cons_succ]
      refine take_in hro 9 14 _ (v := ?vq55_9) rfl rfl (by kernel_rfl) (by kernel_rfl) (by kernel_rfl) (fun _ _ _ h => h) ⟨Or.inl ⟨by rfl, ?hyq55_9⟩, fun _ => rfl⟩ ?restq55_9
      case hyq55_9 =>
        intro wX
        go_simp
        first
        | done
        | (with_reducible rfl)
      try simp only [Act.put, List.setIfInBounds_toArray, List.set_cons_zero, List.set_cons_succ]
      refine take_in hro 10 15 _ (v := undef) rfl rfl (by kernel_rfl) (by kernel_rfl) (by kernel_rfl) (fun _ _ _ h => h) ⟨Or.inr ⟨by rfl, rfl⟩, fun _ => rfl⟩ ?_
      try simp only [Act.put, List.setIfInBounds_toArray, List.set_cons_zero, List.set_cons_succ]
      refine take_in hro 11 16 _ (v := undef) rfl rfl (by kernel_rfl) (by kernel_rfl) (by kernel_rfl) (fun _ _ _ h => h) ⟨Or.inr ⟨by rfl, rfl⟩, fun _ => rfl⟩ ?_
      try simp only [Act.put, List.setIfInBounds_toArray, List.set_cons_zero, List.set_cons_succ]
      refine take_in hro 12 17 _ (v := undef) rfl rfl (by kernel_rfl) (by kernel_rfl) (by kernel_rfl) (fun _ _ _ h => h) ⟨Or.inr ⟨by rfl, rfl⟩, fun _ => rfl⟩ ?_
      try simp only [Act.put, List.setIfInBounds_toArray, List.set_cons_zero, List.set_cons_succ]
      refine take_in hro 13 18 _ (v := undef) rfl rfl (by kernel_rfl) (by kernel_rfl) (by kernel_rfl) (fun _ _ _ h => h) ⟨Or.inr ⟨by rfl, rfl⟩, fun _ => rfl⟩ ?_
      try simp only [Act.put, List.setIfInBounds_toArray, List.set_cons_zero, List.set_cons_succ]
      refine take_in hro 14 19 _ (v := undef) rfl rfl (by kernel_rfl) (by kernel_rfl) (by kernel_rfl) (fun _ _ _ h => h) ⟨Or.inr ⟨by rfl, rfl⟩, fun _ => rfl⟩ ?_
      try simp only [Act.put, List.setIfInBounds_toArray, List.set_cons_zero, List.set_cons_succ]
      refine take_in hro 15 20 _ (v := undef) rfl rfl (by kernel_rfl) (by kernel_rfl) (by kernel_rfl) (fun _ _ _ h => h) ⟨Or.inr ⟨by rfl, rfl⟩, fun _ => rfl⟩ ?_
      try simp only [Act.put, List.setIfInBounds_toArray, List.set_cons_zero, List.set_cons_succ]
      refine take_in hro 16 21 _ (v := undef) rfl rfl (by kernel_rfl) (by kernel_rfl) (by kernel_rfl) (fun _ _ _ h => h) ⟨Or.inr ⟨by rfl, rfl⟩, fun _ => rfl⟩ ?_
      try simp only [Act.put, List.setIfInBounds_toArray, List.set_cons_zero, List.set_cons_succ]
      refine take_in hro 17 22 _ (v := undef) rfl rfl (by kernel_rfl) (by kernel_rfl) (by kernel_rfl) (fun _ _ _ h => h) ⟨Or.inr ⟨by rfl, rfl⟩, fun _ => rfl⟩ ?_
      try simp only [Act.put, List.setIfInBounds_toArray, List.set_cons_zero, List.set_cons_succ]
      refine take_in hro 18 23 _ (v := undef) rfl rfl (by kernel_rfl) (by kernel_rfl) (by kernel_rfl) (fun _ _ _ h => h) ⟨Or.inr ⟨by rfl, rfl⟩, fun _ => rfl⟩ ?_
      try simp only [Act.put, List.setIfInBounds_toArray, List.set_cons_zero, List.set_cons_succ]
      refine unw_at hF 19 24 _ rfl rfl (by kernel_rfl) (by rfl) ?_
      try simp only [Act.put, List.setIfInBounds_toArray, List.set_cons_zero, List.set_cons_succ]
      refine take_in hro 20 25 _ (v := ?vq56_20) rfl rfl (by kernel_rfl) (by kernel_rfl) (by kernel_rfl) (fun _ _ _ h => h) ⟨Or.inl ⟨by rfl, ?hyq56_20⟩, fun _ => rfl⟩ ?restq56_20
      case hyq56_20 =>
        intro wX
        go_simp
        first
        | done
        | (with_reducible rfl)
      try simp only [Act.put, List.setIfInBounds_toArray, List.set_cons_zero, List.set_cons_succ]
      refine take_in hro 21 26 _ (v := ?vq57_21) rfl rfl (by kernel_rfl) (by kernel_rfl) (by kernel_rfl) (fun _ _ _ h => h) ⟨Or.inl ⟨by rfl, ?hyq57_21⟩, fun _ => rfl⟩ ?restq57_21
      case hyq57_21 =>
        intro wX
        go_simp
        first
        | done
        | (with_reducible rfl)
      try simp only [Act.put, List.setIfInBounds_toArray, List.set_cons_zero, List.set_cons_succ]
      refine take_in hro 22 27 _ (v := undef) rfl rfl (by kernel_rfl) (by kernel_rfl) (by kernel_rfl) (fun _ _ _ h => h) ⟨Or.inr ⟨by rfl, rfl⟩, fun _ => rfl⟩ ?_
      try simp only [Act.put, List.setIfInBounds_toArray, List.set_cons_zero, List.set_cons_succ]
      refine take_in hro 23 28 _ (v := undef) rfl rfl (by kernel_rfl) (by kernel_rfl) (by kernel_rfl) (fun _ _ _ h => h) ⟨Or.inr ⟨by rfl, rfl⟩, fun _ => rfl⟩ ?_
      try simp only [Act.put, List.setIfInBounds_toArray, List.set_cons_zero, List.set_cons_succ]
      refine take_in hro 24 29 _ (v := undef) rfl rfl (by kernel_rfl) (by kernel_rfl) (by kernel_rfl) (fun _ _ _ h => h) ⟨Or.inr ⟨by rfl, rfl⟩, fun _ => rfl⟩ ?_
      try simp only [Act.put, List.setIfInBounds_toArray, List.set_cons_zero, List.set_cons_succ]
      refine take_in hro 25 30 _ (v := undef) rfl rfl (by kernel_rfl) (by kernel_rfl) (by kernel_rfl) (fun _ _ _ h => h) ⟨Or.inr ⟨by rfl, rfl⟩, fun _ => rfl⟩ ?_
      try simp only [Act.put, List.setIfInBounds_toArray, List.set_cons_zero, List.set_cons_succ]
      refine take_in hro 26 31 _ (v := undef) rfl rfl (by kernel_rfl) (by kernel_rfl) (by kernel_rfl) (fun _ _ _ h => h) ⟨Or.inr ⟨by rfl, rfl⟩, fun _ => rfl⟩ ?_
      try simp only [Act.put, List.setIfInBounds_toArray, List.set_cons_zero, List.set_cons_succ]
      refine unw_at hF 27 32 _ rfl rfl (by kernel_rfl) (by rfl) ?_
      try simp only [Act.put, List.setIfInBounds_toArray, List.set_cons_zero, List.set_cons_succ]
      refine take_in hro 28 33 _ (v := ?vq58_28) rfl rfl (by kernel_rfl) (by kernel_rfl) (by kernel_rfl) (fun _ _ _ h => h) ⟨Or.inl ⟨by rfl, ?hyq58_28⟩, fun _ => rfl⟩ ?restq58_28
      case hyq58_28 =>
        intro wX
        go_simp
        first
        | done
        | (with_reducible rfl)
      try simp only [Act.put, List.setIfInBounds_toArray, List.set_cons_zero, List.set_cons_succ]
      refine take_in hro 29 34 _ (v := ?vq59_29) rfl rfl (by kernel_rfl) (by kernel_rfl) (by kernel_rfl) (fun _ _ _ h => h) ⟨Or.inl ⟨by rfl, ?hyq59_29⟩, fun _ => rfl⟩ ?restq59_29
      case hyq59_29 =>
        intro wX
        go_simp
        first
        | done
        | (with_reducible rfl)
      try simp only [Act.put, List.setIfInBounds_toArray, List.set_cons_zero, List.set_cons_succ]
      refine take_in hro 30 4 _ (v := ?vq60_30) rfl rfl (by kernel_rfl) (by kernel_rfl) (by kernel_rfl) (fun _ _ _ h => h) ⟨Or.inl ⟨by rfl, ?hyq60_30⟩, fun _ => rfl⟩ ?restq60_30
      case hyq60_30 =>
        intro wX
        go_simp
        first
        | done
        | (with_reducible rfl)
      try simp only [Act.put, List.setIfInBounds_toArray, List.set_cons_zero, List.set_cons_succ]
      refine wpAnyIn_done (by kernel_rfl) ?_ _
      refine NoPanic.normal ?_
      gi_wp2
      obtain ⟨ys, hp, hx⟩ := hys
      exact ⟨_, results_tmp rfl _ _ _, hW1, hB1, .inr ⟨rfl, ys, by rw [HE.out, List.append_assoc]; exact hp.trans (List.prefix_append _ _), hx⟩⟩
end Go.Proofs.Ytnibmfijkbfaeaa.Om
