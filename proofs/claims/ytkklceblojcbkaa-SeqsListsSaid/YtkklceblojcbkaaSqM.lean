/- Of; same; awake. -/
import Derived.Test.YtkklceblojcbkaaSqL
import Derived.Test.YtkklceblojcbkaaApp2
namespace Go.Proofs.Ytkklceblojcbkaa.Sq
open Go.RowKit Go.Proofs.Ytkklceblojcbkaa
set_option linter.unusedVariables false
set_option maxRecDepth 100000
attribute [local go_sem] Oper.semAt_some
set_option maxRecDepth 100000 in
set_option maxHeartbeats 800000 in
theorem cloneI_any (v : Value) (zs : List Int) (ob : Option Nat) (w : World) (h : Seg w 3 1 v zs.length (zs.map (Value.int .i64)) ob) (hp : 0 < zs.length) (hl : zs.length ≤ 1000000) :
    Calls Try.prog 27 #[v] w fun e w' => ∃ v' ob', e = .returned v' ∧ Seg w' 3 1 v' zs.length (zs.map (Value.int .i64)) ob' ∧ (∀ g, ob' = some g → w.heap.size ≤ g) ∧ Below w.heap.size w w' := by
  have q22 : ∀ (w : World) (a : Option Addr) (n c n' c' : Nat), (binOp .eql 22 (.slice a n c) (.slice none n' c')).run Try.prog w = .ok (.bool a.isNone) w := fun w a n c n' c' => Lib.run_eql_slice_nil w _ _ a n c n' c' Try.underlying22
  obtain ⟨i0, hi0, hz0, hz1, hz2⟩ := info_parts int_info
  obtain ⟨g, o, cap, rfl, ho, h1, h2, h3, _⟩ := h.shape hp
  have hnews : ∀ j u, (zs.map (Value.int .i64))[j]? = some u → (w.alloc (.cells #[] 3)).cell? ((⟨g, o, none⟩ : Addr).add j) = some u := fun j u hj => by
    rw [Addr.add_lit]; exact Lib.cell?_alloc_some _ (h3 j u hj)
  have HN := Lib.hid hnews
  have hone : ∀ u ∈ zs.map (Value.int .i64), u.oneCell' = true := fun u hu => by
    obtain ⟨z, _, rfl⟩ := List.mem_map.1 hu; rfl
  have HO := Lib.hid hone
  have hlen : (zs.map (Value.int .i64)).length = zs.length * 1 := by simp
  have HLN := Lib.hid hlen
  clear h h3 hnews hone hlen h2
  go_enter Try.func27, Try.ntmps27
  go_wp2_with (at_builtin; go_loud (refine wpList_append_seg _ rfl _ _ 22 rfl 3 i0 _ 1 8 Try.underlying22 hi0 hz0 hz1 hz2 rfl (by decide) _ 0 [] none rfl ⟨by simp, _, 0, rfl, Nat.le_refl _, by unfold maxLen; omega, .inl ⟨rfl, rfl, fun _ => trivial⟩⟩ ⟨g, o, none⟩ zs.length cap (zs.map (Value.int .i64)) rfl HLN.out HN.out HO.out hp (by unfold maxLen; omega) (by omega) ?_); intro v1 w1 ob1 hs1 ht1 ho1)
  go_ret
  refine ⟨v1, ob1, rfl, by simpa using hs1, fun g' hg' => ?_, ht1.below (by go_grown) (by simp) (fun _ _ e => by cases e)⟩
  rcases ho1 with h | ⟨g2, h, hg2⟩
  · rw [h] at hg'; cases hg'
  · rw [h] at hg'; injection hg' with hg'; subst hg'; simp at hg2; omega

theorem of_any (zs : List Int) (v : Value) (ob : Option Nat) (w : World) (h : Seg w 3 1 v zs.length (ints zs) ob) (hp : 0 < zs.length) (hl : zs.length ≤ 1000000) :
    Calls Try.prog 11 #[v] w fun e w' => ∃ Bn A cap o2, e = .returned (.func (.func 28) #[] #[.pointer (some ⟨Bn, 0, none⟩)]) ∧ w'.cell? ⟨Bn, 0, none⟩ = some (.slice A zs.length cap) ∧ Bn < w'.heap.size ∧ Seg w' 3 1 (.slice A zs.length cap) zs.length (ints zs) o2 ∧ Below w.heap.size w w' := by
  have HS := Lib.hid h
  clear h
  go_enter Try.func11, Try.ntmps11
  go_wp2_with (go_at_call 27; refine (cloneI_any _ zs ob _ HS.out hp hl).mono ?_; rintro e W2 ⟨v2, ob2, rfl, hs2, hob2, hb2⟩; obtain ⟨A2, cap2, rfl, _, _⟩ := hs2.form; have HS2 := Lib.hid hs2; clear hs2)
  go_ret
  exact ⟨_, A2, cap2, ob2, rfl, row_new rfl, by simp, HS2.out.alloc _, hb2.alloc hb2.size _⟩
theorem cell_drewN (w : World) (m : Nat) (a : Addr) : (w.drewN m).cell? a = w.cell? a := rfl
set_option maxHeartbeats 1000000 in
theorem same_any (zs : List Int) (v1 v2 : Value) (o1 o2 : Option Nat) (w : World) (h1 : Seg w 3 1 v1 zs.length (ints zs) o1) (h2 : Seg w 3 1 v2 zs.length (ints zs) o2) (hl : zs.length ≤ 1000000) :
    Calls Try.prog 14 #[v1, v2] w fun e w' => e = .returned (.bool true) ∧ ∃ m, w' = w.drewN m := by
  obtain ⟨A1, c1, rfl, _, _⟩ := h1.form
  obtain ⟨A2, c2, rfl, _, _⟩ := h2.form
  have H1 := Lib.hid h1
  have H2 := Lib.hid h2
  clear h1 h2
  go_enter Try.func14, Try.ntmps14
  go_wp2
  go_loopw [5] (fun s wr => ∃ i : Nat, i ≤ zs.length ∧ s = .int .i64 i ∧ Hid (∃ m, wr = w.drewN m)) (fun s _ => zs.length - (intOf s).toNat)
  case atStart => exact ⟨0, Nat.zero_le _, rfl, 0, rfl⟩
  case round =>
    obtain ⟨i, hi, rfl, hw⟩ := hrel
    have hcells : ∀ a, wr.cell? a = w.cell? a := by
      obtain ⟨m, rfl⟩ := hw.out
      exact fun _ => rfl
    by_cases hlt : i < zs.length
    · obtain ⟨g1, p1, d1, e1, _, _, _, h1c, _⟩ := H1.out.shape (by omega)
      injection e1 with e1 _ e3
      subst e1 e3
      obtain ⟨g2, p2, d2, e1, _, _, _, h2c, _⟩ := H2.out.shape (by omega)
      injection e1 with e1 _ e3
      subst e1 e3
      have k1 : wr.cell? ⟨g1, p1 + i, none⟩ = some (.int .i64 (zs[i])) := (hcells _).trans (h1c _ _ (by simp [ints, hlt]))
      have k2 : wr.cell? ⟨g2, p2 + i, none⟩ = some (.int .i64 (zs[i])) := (hcells _).trans (h2c _ _ (by simp [ints, hlt]))
      generalize zs[i] = x at k1 k2
      clear h1c h2c hcells
      go_wp2
      go_quiet (fail)
      go_wp2
      go_roundw
      case rel => exact ⟨i + 1, hlt, by go_num, by
        obtain ⟨m, rfl⟩ := hw.out
        exact ⟨m + _, World.drewN_drewN ..⟩⟩
      case measure => simp [intOf]; omega
    · have e : i = zs.length := by omega
      subst e
      clear hlt hcells
      go_wp2
      go_ret
      exact ⟨rfl, hw.out⟩
set_option maxHeartbeats 1000000 in
theorem awake_any (w : World) : Calls Try.prog 8 #[] w fun e w' => e = .returned (.bool true) ∧ Below w.heap.size w w' := by
  have hsg : ∀ W : World, Seg (W.alloc (.cells #[.int .i64 1, .int .i64 2, .int .i64 3] 3)) 3 1 (.slice (some ⟨W.heap.size, 0, none⟩) 3 3) ([1, 2, 3] : List Int).length (ints [1, 2, 3]) (some W.heap.size) := fun W =>
    ⟨by decide, _, 3, rfl, by decide, by decide, .inr ⟨W.heap.size, 0, #[.int .i64 1, .int .i64 2, .int .i64 3], rfl, rfl, Row.made W _ _, by decide, rfl⟩⟩
  go_enter Try.func8, Try.ntmps8
  go_wp2_with fail
  refine (of_any [1, 2, 3] _ (some w.heap.size) _ (hsg w) (by decide) (by decide)).mono ?_
  rintro e w1 ⟨B1, A1, c1, o1, rfl, hc1, hl1, hs1, hb1⟩
  have hb1' : Below w.heap.size w w1 := ((Below.refl _ w).alloc (Nat.le_refl _) _).trans (hb1.mono (by simp))
  have HB1 := Lib.hid hb1'
  clear hb1 hb1'
  go_wp2_with fail
  refine (callsIn_wide.1 (some_of Fence.wide 20 (fun _ => trivial) rfl (by omega) B1 2 [1, 2, 3] A1 c1 o1 w1 (by decide) (by decide) hc1 hl1 hs1)).mono ?_
  rintro e w2 ⟨v2, o2, rfl, hs2, hb2⟩
  have HB2 := Lib.hid (HB1.out.trans (hb2.mono HB1.out.size))
  have HS2 := Lib.hid hs2
  obtain ⟨A2, c2, rfl, _, _⟩ := hs2.form
  clear hc1 hl1 hs1 hs2 hb2
  go_wp2_with fail
  have hsg2 : Seg (w2.alloc (.cells #[.int .i64 1, .int .i64 2] 3)) 3 1 (.slice (some ⟨w2.heap.size, 0, none⟩) 2 2) ([1, 2] : List Int).length (ints [1, 2]) (some w2.heap.size) :=
    ⟨by decide, _, 2, rfl, by decide, by decide, .inr ⟨w2.heap.size, 0, #[.int .i64 1, .int .i64 2], rfl, rfl, Row.made w2 _ _, by decide, rfl⟩⟩
  refine (same_any [1, 2] _ _ o2 (some w2.heap.size) _ (HS2.out.alloc _) hsg2 (by decide)).mono ?_
  rintro e w3 ⟨rfl, m3, rfl⟩
  have HB3 : Hid (Below w.heap.size w ((w2.alloc (.cells #[.int .i64 1, .int .i64 2] 3)).drewN m3)) := Lib.hid (have h : Below w.heap.size w (w2.alloc (.cells #[.int .i64 1, .int .i64 2] 3)) := HB2.out.alloc HB2.out.size _; ⟨h.os, h.tape, h.output, h.size, h.block⟩)
  clear hsg2
  generalize ((w2.alloc (.cells #[.int .i64 1, .int .i64 2] 3)).drewN m3) = W3 at HB3 ⊢
  clear HB2 HS2
  go_wp2_with fail
  refine (of_any [1, 2, 3] _ (some W3.heap.size) _ (hsg W3) (by decide) (by decide)).mono ?_
  rintro e w4 ⟨B4, A4, c4, o4, rfl, hc4, hl4, hs4, hb4⟩
  have hb4' : Below w.heap.size w w4 := (HB3.out.alloc HB3.out.size _).trans (hb4.mono (by have := HB3.out.size; simp; omega))
  have HB4 := Lib.hid hb4'
  clear hb4 hb4'
  go_wp2_with fail
  refine (callsIn_wide.1 (count_of Fence.wide 20 (fun _ => trivial) rfl (by omega) B4 [1, 2, 3] A4 c4 o4 w4 (by decide) hc4 hl4 hs4)).mono ?_
  rintro e w5 ⟨rfl, hb5⟩
  have HB5 := Lib.hid (HB4.out.trans (hb5.mono HB4.out.size))
  clear hc4 hl4 hs4 hb5
  go_wp2
  go_ret
  exact ⟨rfl, HB5.out⟩
end Go.Proofs.Ytkklceblojcbkaa.Sq
