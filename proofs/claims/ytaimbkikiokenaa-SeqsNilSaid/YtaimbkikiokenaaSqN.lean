/- SeqsNil's law. -/
import Derived.Test.YtaimbkikiokenaaSqM
import Derived.Test.YtaimbkikiokenaaSqF
namespace Go.Proofs.Ytaimbkikiokenaa.Sq
open Go.RowKit Go.Proofs.Ytaimbkikiokenaa
set_option linter.unusedVariables false
set_option maxRecDepth 100000
attribute [local go_sem] Oper.semAt_some
theorem take_made (n : Nat) (k : Int) (W : World) : CallsIn Fence.wide n Try.prog 13 #[.nilFunc, .int .i64 k] W fun e W' => ∃ p1 p2, e = .returned (.func (.func 57) #[] #[p1, p2]) ∧ (∀ m, 5 ≤ m → Silent Fence.wide m 57 #[p1, p2] W') ∧ Below W.heap.size W W' := by
  have hF : ∀ k, Fence.wide.fn k := fun _ => trivial
  have hro : Fence.wide.round = none := rfl
  refine (take_mk Fence.wide n trivial rfl k W).mono ?_
  rintro e W' ⟨rfl, rfl⟩
  exact ⟨_, _, rfl, fun m hm => take_nil Fence.wide m hF hro (by omega) _ _ k _ (by simp) (row_new (by simp)) (by simp; try omega) ((((Below.refl (W.alloc (.cells #[.nilFunc] 24)).heap.size _).alloc (Nat.le_refl _) _).cell (p := ⟨W.heap.size, 0, none⟩) (by simp)).trans (row_new rfl)), ((Below.refl _ W).alloc (Nat.le_refl _) _).alloc (by simp) _⟩
theorem skip_made (n : Nat) (k : Int) (W : World) : CallsIn Fence.wide n Try.prog 14 #[.nilFunc, .int .i64 k] W fun e W' => ∃ p1 p2, e = .returned (.func (.func 58) #[] #[p1, p2]) ∧ (∀ m, 5 ≤ m → Silent Fence.wide m 58 #[p1, p2] W') ∧ Below W.heap.size W W' := by
  have hF : ∀ k, Fence.wide.fn k := fun _ => trivial
  have hro : Fence.wide.round = none := rfl
  refine (skip_mk Fence.wide n trivial rfl k W).mono ?_
  rintro e W' ⟨rfl, rfl⟩
  exact ⟨_, _, rfl, fun m hm => skip_nil Fence.wide m hF hro (by omega) _ _ _ (by simp; try omega) ((((Below.refl (W.alloc (.cells #[.nilFunc] 24)).heap.size _).alloc (Nat.le_refl _) _).cell (p := ⟨W.heap.size, 0, none⟩) (by simp)).trans (row_new rfl)) (by simp) k (row_new (by simp)), ((Below.refl _ W).alloc (Nat.le_refl _) _).alloc (by simp) _⟩
theorem both_made (n : Nat) (W : World) : CallsIn Fence.wide n Try.prog 15 #[.nilFunc, .nilFunc] W fun e W' => ∃ p1 p2, e = .returned (.func (.func 59) #[] #[p1, p2]) ∧ (∀ m, 5 ≤ m → Silent Fence.wide m 59 #[p1, p2] W') ∧ Below W.heap.size W W' := by
  have hF : ∀ k, Fence.wide.fn k := fun _ => trivial
  have hro : Fence.wide.round = none := rfl
  refine (both_mk Fence.wide n trivial rfl W).mono ?_
  rintro e W' ⟨rfl, rfl⟩
  exact ⟨_, _, rfl, fun m hm => both_nil Fence.wide m hF hro (by omega) _ _ _ (by simp; try omega) ((((Below.refl (W.alloc (.cells #[.nilFunc] 24)).heap.size _).alloc (Nat.le_refl _) _).cell (p := ⟨W.heap.size, 0, none⟩) (by simp)).trans (row_new rfl)) (by simp) (row_new (by simp)), ((Below.refl _ W).alloc (Nat.le_refl _) _).alloc (by simp) _⟩
theorem once_made (n : Nat) (W : World) : CallsIn Fence.wide n Try.prog 16 #[.nilFunc] W fun e W' => ∃ p1, e = .returned (.func (.func 60) #[] #[p1]) ∧ (∀ m, 5 ≤ m → Silent Fence.wide m 60 #[p1] W') ∧ Below W.heap.size W W' := by
  have hF : ∀ k, Fence.wide.fn k := fun _ => trivial
  have hro : Fence.wide.round = none := rfl
  refine (once_mk Fence.wide n trivial rfl W).mono ?_
  rintro e W' ⟨rfl, rfl⟩
  exact ⟨_, rfl, fun m hm => once_nil Fence.wide m hF hro (by omega) _ _ (by simp) (row_new rfl), (Below.refl _ W).alloc (Nat.le_refl _) _⟩
theorem chun_made (n : Nat) (k : Int) (W : World) : CallsIn Fence.wide n Try.prog 19 #[.nilFunc, .int .i64 k] W fun e W' => ∃ p1 p2, e = .returned (.func (.func 63) #[] #[p1, p2]) ∧ (∀ m, 5 ≤ m → Silent Fence.wide m 63 #[p1, p2] W') ∧ Below W.heap.size W W' := by
  have hF : ∀ k, Fence.wide.fn k := fun _ => trivial
  have hro : Fence.wide.round = none := rfl
  refine (chun_mk Fence.wide n trivial rfl k W).mono ?_
  rintro e W' ⟨rfl, rfl⟩
  exact ⟨_, _, rfl, fun m hm => chun_nil Fence.wide m hF hro (by omega) _ _ _ (by simp; try omega) ((((Below.refl (W.alloc (.cells #[.nilFunc] 24)).heap.size _).alloc (Nat.le_refl _) _).cell (p := ⟨W.heap.size, 0, none⟩) (by simp)).trans (row_new rfl)) (by simp) k (row_new (by simp)), ((Below.refl _ W).alloc (Nat.le_refl _) _).alloc (by simp) _⟩
theorem results_cell0 {fn : Func} {p : Tmp} (h : fn.results = #[.cell p 4]) (tmps : Array Value) (w : World) (g : Nat) (v : Value)
    (hp : tmps.getD p undef = .pointer (some ⟨g, 0, none⟩)) (hc : w.cell? ⟨g, 0, none⟩ = some v) : (results fn tmps).run Try.prog w = .ok v w := by
  have hp' : tmps[p]?.getD undef = .pointer (some ⟨g, 0, none⟩) := by simpa using hp
  have hl : (loadVar 4 ⟨g, 0, none⟩).run Try.prog w = .ok v w := by
    simp [loadVar, go_sem, hc, Result.andThen]
  simp [results, h, hp', asAddr, hl]
set_option maxHeartbeats 2000000 in
theorem nil_law (k : Int) (w : World) : CallsIn Fence.wide 30 Try.prog 3 #[.int .i64 k] w fun e w' => e = .returned (.bool true) ∧ Below w.heap.size w w' := by
  have hF : ∀ k, Fence.wide.fn k := fun _ => trivial
  have hro : Fence.wide.round = none := rfl
  refine callsIn_of_wp_marks Try.func3 rfl trivial ?_ rfl
  simp only [Try.ntmps3, List.size_toArray, List.length_cons, List.length_nil, Nat.reduceAdd, Nat.reduceSub, Array.replicate_succ, Array.replicate_zero, List.push_toArray, List.append_toArray, List.nil_append, List.cons_append]
  gi_wp2_with (first
    | (gi_at_call 9; refine (callsIn_wide.2 (awake_any _)).mono ?_; rintro e w1 ⟨rfl, hb1⟩; have HB1 := Lib.hid hb1; clear hb1)
    | (gi_at_call 10; refine (numb_in Fence.wide _ trivial rfl _).mono ?_; rintro e w2 ⟨rfl, rfl⟩))
  refine wpIn_range_silent hro (by omega) rfl trivial (enters_of Try.func54 (by kernel_rfl) rfl) (numb_nil Fence.wide 29 hF hro (by omega) _ _ (by simp) (row_new rfl)) ?_
  intro D W2 hD hb hK
  have HB2 := Lib.hid ((HB1.out.alloc HB1.out.size _).trans (hb.mono (by have := HB1.out.size; simp at this ⊢; omega)))
  have HD1 : Hid (w.heap.size + 1 ≤ D) := Lib.hid (by have := HB1.out.size; simp at this hD; omega)
  have HK := Lib.hid hK
  have HDl : Hid (D < W2.heap.size) := Lib.hid (Array.getElem?_eq_some_iff.1 hK).1
  clear hb hK hD HB1
  gi_wp2_with (gi_at_call 11; refine (step_mk Fence.wide _ trivial rfl _).mono ?_; rintro e w2 ⟨rfl, rfl⟩)
  refine wpIn_range_silent hro (by omega) rfl trivial (enters_of Try.func56 (by kernel_rfl) rfl) (step_nil Fence.wide 29 hF hro (by omega) _ _ (by simp) (row_new rfl)) ?_
  intro D3 W3 hD3 hb hK3
  have HB3 := Lib.hid ((HB2.out.alloc HB2.out.size _).trans (hb.mono (by have := HB2.out.size; simp at this ⊢; omega)))
  have HK3 := Lib.hid hK3
  have HKD : Hid (W3.heap[D]? = some (.deferred (some []))) := Lib.hid ((((Below.refl _ W2).alloc (Nat.le_refl _) _).trans (hb.mono (by simp))).block D HDl.out |>.trans HK.out)
  have HDD : Hid (D < D3) := Lib.hid (by have := HDl.out; simp at hD3; omega)
  have HDl3 : Hid (D3 < W3.heap.size) := Lib.hid (Array.getElem?_eq_some_iff.1 hK3).1
  clear hb hK3 hD3 HB2 HK HDl
  gi_wp2_with fail
  refine (callsIn_wide.2 (awake_any _)).mono ?_
  rintro e w4 ⟨rfl, hb4⟩
  have HB4 := Lib.hid hb4
  clear hb4
  gi_wp2_with fail
  refine (take_made _ k _).mono ?_
  rintro e w5 ⟨p1, p2, rfl, hs, hb⟩
  have HB5 := Lib.hid (HB4.out.trans (hb.mono HB4.out.size))
  have HS := Lib.hid hs
  clear hb hs HB4
  gi_wp2_with fail
  refine (callsIn_wide.2 (all_take _ _ _ HS.out)).mono ?_
  rintro e w6 ⟨rfl, hb⟩
  have HB6 := Lib.hid (HB5.out.trans (hb.mono HB5.out.size))
  clear hb HS HB5
  gi_wp2_with fail
  refine (skip_made _ k _).mono ?_
  rintro e w7 ⟨p1, p2, rfl, hs, hb⟩
  have HB7 := Lib.hid (HB6.out.trans (hb.mono HB6.out.size))
  have HS := Lib.hid hs
  clear hb hs HB6
  gi_wp2_with fail
  refine (callsIn_wide.2 (all_skip _ _ _ HS.out)).mono ?_
  rintro e w8 ⟨rfl, hb⟩
  have HB8 := Lib.hid (HB7.out.trans (hb.mono HB7.out.size))
  clear hb HS HB7
  gi_wp2_with fail
  refine (both_made _ _).mono ?_
  rintro e w9 ⟨p1, p2, rfl, hs, hb⟩
  have HB9 := Lib.hid (HB8.out.trans (hb.mono HB8.out.size))
  have HS := Lib.hid hs
  clear hb hs HB8
  gi_wp2_with fail
  refine (callsIn_wide.2 (all_both _ _ _ HS.out)).mono ?_
  rintro e w10 ⟨rfl, hb⟩
  have HB10 := Lib.hid (HB9.out.trans (hb.mono HB9.out.size))
  clear hb HS HB9
  gi_wp2_with fail
  refine (once_made _ _).mono ?_
  rintro e w11 ⟨p1, rfl, hs, hb⟩
  have HB11 := Lib.hid (HB10.out.trans (hb.mono HB10.out.size))
  have HS := Lib.hid hs
  clear hb hs HB10
  gi_wp2_with fail
  refine (callsIn_wide.2 (all_once _ _ HS.out)).mono ?_
  rintro e w12 ⟨rfl, hb⟩
  have HB12 := Lib.hid (HB11.out.trans (hb.mono HB11.out.size))
  clear hb HS HB11
  gi_wp2_with fail
  refine (count_nil Fence.wide _ hF hro (by omega) _).mono ?_
  rintro e w13 ⟨rfl, hb⟩
  have HB13 := Lib.hid (HB12.out.trans (hb.mono HB12.out.size))
  clear hb HB12
  gi_wp2_with fail
  refine (chun_made _ k _).mono ?_
  rintro e w14 ⟨p1, p2, rfl, hs, hb⟩
  have HB14 := Lib.hid (HB13.out.trans (hb.mono HB13.out.size))
  have HS := Lib.hid hs
  clear hb hs HB13
  gi_wp2_with fail
  refine (count_chun Fence.wide _ hF hro (by omega) _ _ _ HS.out).mono ?_
  rintro e w15 ⟨rfl, hb⟩
  have HB15 := Lib.hid (HB14.out.trans (hb.mono HB14.out.size))
  clear hb HS HB14
  gi_wp2_with fail
  refine (some_nil0 Fence.wide _ hF hro (by omega) k _).mono ?_
  rintro e w16 ⟨rfl, hb⟩
  have HB16 := Lib.hid (HB15.out.trans (hb.mono HB15.out.size))
  clear hb HB15
  have HBA : Below (w.alloc (.cells #[.bool false] 4)).heap.size (w.alloc (.cells #[.bool false] 4)) w16 := HB3.out.trans (HB16.out.mono HB3.out.size)
  have hbw : Below w.heap.size w w16 := ((Below.refl _ w).alloc (Nat.le_refl _) _).trans (HBA.mono (by simp))
  have rR : Row w16 w.heap.size 4 #[.bool false] := (HBA.block w.heap.size (by simp)).trans (Row.made w _ _)
  have r0 : w16.cell? ⟨w.heap.size, 0, none⟩ = some (.bool false) := (rR.cell 0).trans rfl
  have f0 : w16.frozen? ⟨w.heap.size, 0, none⟩ = false := frozen_of_row _ _ _ _ _ rR
  have hd3 := HDD.out
  have hd1 := HD1.out
  have k3 : w16.heap[D3]? = some (.deferred (some [])) := (HB16.out.block D3 HDl3.out).trans HK3.out
  have kd : w16.heap[D]? = some (.deferred (some [])) := (HB16.out.block D (Nat.lt_trans hd3 HDl3.out)).trans HKD.out
  clear HB16 HB3 HK3 HKD HDD HD1 HDl3 HBA
  gi_wp2
  have rX : Row (w16.setCell ⟨w.heap.size, 0, none⟩ (.bool true)) w.heap.size 4 #[.bool true] := Row.put rR 0 (.bool true)
  have bX : Below w.heap.size w (w16.setCell ⟨w.heap.size, 0, none⟩ (.bool true)) := hbw.setCell (Nat.le_refl _) _
  have x3 : (w16.setCell ⟨w.heap.size, 0, none⟩ (.bool true)).heap[D3]? = some (.deferred (some [])) := (heap_setCell_other _ _ _ _ (by simp; omega)).trans k3
  have xd : (w16.setCell ⟨w.heap.size, 0, none⟩ (.bool true)).heap[D]? = some (.deferred (some [])) := (heap_setCell_other _ _ _ _ (by simp; omega)).trans kd
  generalize w16.setCell ⟨w.heap.size, 0, none⟩ (.bool true) = X at rX bX x3 xd ⊢
  have xd4 : (X.putObj D3 (.deferred none)).heap[D]? = some (.deferred (some [])) := (World.putObj_heap_other (by omega)).trans xd
  have rY := row_kept' (row_kept' rX (grownBy_putObj' X D3 (.deferred none)) (fun r e => by injection e with e; subst e; exact ⟨_, x3, rfl⟩)) (grownBy_putObj' _ D (.deferred none)) (fun r e => by injection e with e; subst e; exact ⟨_, xd4, rfl⟩)
  have bY : Below w.heap.size w ((X.putObj D3 (.deferred none)).putObj D (.deferred none)) := below_put (below_put bX (Nat.le_refl _) (by omega) _) (Nat.le_refl _) (by omega) _
  refine ⟨by simp, .inl ⟨_, _, rfl, run_takeDeferred x3, ?_⟩⟩
  refine ⟨by simp, .inl ⟨_, _, rfl, run_takeDeferred xd4, ?_⟩⟩
  have y0 := (rY.cell 0).trans rfl
  exact ⟨_, results_cell0 rfl _ _ _ _ rfl y0, rfl, bY⟩
theorem nil_all (k : Int) {R : Prop} (hk : R) {w : World} : Calls Try.prog 3 #[.int .i64 k] w fun e w' => e = .returned (.bool true) ∧ Below w.heap.size w w' := callsIn_wide.1 (nil_law k w)
end Go.Proofs.Ytaimbkikiokenaa.Sq
