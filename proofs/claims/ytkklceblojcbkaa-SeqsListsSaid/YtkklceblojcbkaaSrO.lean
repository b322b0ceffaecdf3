/- comesFirst: its deferred closure, and what it does with the set. -/
import Derived.Test.YtkklceblojcbkaaSrN
import Derived.Defers
import Derived.Recover
import Derived.Maps.OwnSet
import Derived.Deep.DeepCutAuto
import Derived.Deep.CutBlock
namespace Go.Proofs.Ytkklceblojcbkaa.Sr
open Go.RowKit Go.Proofs.Ytkklceblojcbkaa Go.Proofs.Ytkklceblojcbkaa.Sq Go.Maps
set_option linter.unusedVariables false
set_option maxRecDepth 100000
theorem catch_idle (p : Addr) (w : World) :
    CallsD Try.prog 41 #[.pointer (some p)] .returning w fun e u' w' => e = .returned (.tuple #[]) ∧ u' = .returning ∧ w' = w := by
  refine callsD_of_wpS Try.func41 rfl fun c₀ cs hu => ?_
  apply wpS_seq
  apply wpS_region
  simp [wpOpsS, go_sem, recoverD, hu, Try.ntmps41, Exit.thenS]
  refine wpS_cond (t := false) (by simp [Act.eval, Array.replicate]) ?_
  simp only [Bool.false_eq_true, if_false]
  refine wpS_of_wp (wp_skip ?_)
  cases c₀
  simp_all [bodyPostS, results, Try.results41]
theorem lawK : Keyed Try.prog 3 := int_keyed Try.underlying3
theorem zeroU (w : World) : (zeroValue 63).run Try.prog w = .ok (.agg #[]) w := by kernel_rfl
abbrev Ki (x : Int) : Lit := .int .i64 x
theorem ki_wf (x : Int) (h : -9223372036854775808 ≤ x ∧ x ≤ 9223372036854775807) : (Lit.int .i64 x).wf = true := WalkArith.wf_i64 h
theorem own_turns {w w' : World} {mb c : Nat} {D : DataW Unit} {S : Nat → Prop} (h : w.ownsMap Try.prog 3 (unitElem (H := Unit)) mb c D) (g : Turns w w' S) (hs : ¬ S mb) : w'.ownsMap Try.prog 3 (unitElem (H := Unit)) mb c D := by
  have hl := h.lt
  obtain ⟨es, clock, hb, r⟩ := h
  exact ⟨es, clock, (g.block mb hl hs).trans hb, r⟩
/-- A thing is noted as seen; whether it was not yet. -/
theorem comes_any (mb c : Nat) (D : DataW Unit) (x : Int) (hx : -9223372036854775808 ≤ x ∧ x ≤ 9223372036854775807) (w : World) (h : w.ownsMap Try.prog 3 (unitElem (H := Unit)) mb c D) (hc : c < 1000000) :
    Calls Try.prog 35 #[.map (some mb), .int .i64 x] w fun e w' => e = .returned (.bool (!Maps.has D (Ki x))) ∧ w'.ownsMap Try.prog 3 (unitElem (H := Unit)) mb (c + 1) (D.put (Ki x) (.agg [])) ∧ Turns w w' (fun k => k = mb) := by
  have hmf : ∀ (fn : Fn) (first cap : Array Value) (w : World), (Instr.makeFunc fn first cap).run Try.prog w = .ok (.func fn first cap) w := fun _ _ _ _ => rfl
  have hkey := keyOf_int_mk Try.underlying3 (ki_wf x hx)
  have hml : mb < w.heap.size := h.lt
  have HO1 := Lib.hid (own_turns h ((Turns.refl w (fun _ => False)).alloc (.cells #[.bool false] 4)) id)
  obtain ⟨w1, hw1⟩ : ∃ w1, w.alloc (.cells #[.bool false] 4) = w1 := ⟨_, rfl⟩
  have ht1 : Turns w w1 (fun k => k = mb) := by rw [← hw1]; exact (Turns.refl w _).alloc _
  have hr1 : Row w1 w.heap.size 4 #[.bool false] := by rw [← hw1]; exact Row.made w _ _
  rw [hw1] at HO1
  obtain ⟨hb, hhb⟩ : ∃ b, Maps.has D (Ki x) = b := ⟨_, rfl⟩
  rw [hhb]
  have HHB := Lib.hid hhb
  have HT1 := Lib.hid ht1
  have HR1 := Lib.hid hr1
  clear h ht1 hr1 hhb
  go_enter_defers Try.func35, Try.ntmps35
  go_upto_region 1 with fail
  clear hw1
  have HO2 := Lib.hid (fun o => own_turns HO1.out ((Turns.refl w1 (fun _ => False)).alloc o) id)
  go_wp2_with (first
    | (at_lookup; refine wpList_lookup_own_unit _ rfl _ _ 57 rfl 3 63 lawK Try.underlying57 (zeroU _) mb c D rfl HO1.out _ _ rfl hkey ?_; rw [HHB.out])
    | (at_mapUpdate; refine wpList_mapUpdate_in _ rfl _ _ _ 57 rfl 3 63 lawK Try.underlying57 (unitElem (H := Unit)) mb c D rfl (HO2.out _) (by unfold maxLen; omega) _ _ _ rfl rfl hkey _ [] unitElem_mk ?_; intro w2 hown2 hturn2; have HO3 := Lib.hid hown2; have HT3 := Lib.hid (Turns.of_grown hturn2.grown); have r3 := (HR1.out.alloc (.cells #[] 63)).turns HT3.out (fun e => by injection e with e; omega); have f0 := (r3.cell 0).trans rfl; have f1 := r3.free 0; have HR3 := Lib.hid r3; clear hown2 hturn2 r3))
  have r4 : Row (w2.setCell ⟨w.heap.size, 0, none⟩ (.bool !hb)) w.heap.size 4 #[.bool !hb] := by have h := HR3.out.put 0 (.bool !hb); simpa using h
  have c4 : (w2.setCell ⟨w.heap.size, 0, none⟩ (.bool !hb)).cell? ⟨w.heap.size, 0, none⟩ = some (.bool !hb) := (r4.cell 0).trans rfl
  have hown : (w2.setCell ⟨w.heap.size, 0, none⟩ (.bool !hb)).ownsMap Try.prog 3 (unitElem (H := Unit)) mb (c + 1) (D.put (Ki x) (.agg [])) := HO3.out.setCell (by show mb ≠ w.heap.size; omega) _
  have htr : Turns w (w2.setCell ⟨w.heap.size, 0, none⟩ (.bool !hb)) (fun k => k = mb) := ((HT1.out.alloc (.cells #[] 63)).trans HT3.out (fun k hk e => by injection e with e; exact e.symm)).put _ _ _ (fun h => by omega)
  generalize w2.setCell ⟨w.heap.size, 0, none⟩ (.bool !hb) = W at c4 hown htr ⊢
  refine leaves_cons (f := 41) (args := #[.pointer (some ⟨w.heap.size, 0, none⟩)]) (by simp) (by simp [go_sem]) ?_
  refine (catch_idle ⟨w.heap.size, 0, none⟩ _).mono ?_
  rintro e u' w'' ⟨rfl, rfl, rfl⟩
  have hl : (loadVar 4 ⟨w.heap.size, 0, none⟩).run Try.prog w'' = .ok (.bool !hb) w'' := by simp [loadVar, go_sem, c4, Result.andThen]
  simp [Leaves, settle, results, Try.results35, asAddr, hl]
  exact ⟨hown, htr⟩
end Go.Proofs.Ytkklceblojcbkaa.Sr
