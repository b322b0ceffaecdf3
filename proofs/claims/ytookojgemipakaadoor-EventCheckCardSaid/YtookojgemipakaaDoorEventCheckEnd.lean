/- THE STATEMENT 'EventCheckSaid', PROVED: called with whatever it may be called with, the law returns true, and each argument reads as it did. No condition is laid on the input. -/
import Derived.Test.YtookojgemipakaaDoorE5B
import Derived.Test.YtookojgemipakaaDoorLaw
import Derived.Test.YtookojgemipakaaDoorOpen
import Derived.ProofKit
import Derived.OpenShut
import Derived.Test.YtookojgemipakaaDoorDoor
import Derived.Test.YtookojgemipakaaDoorCards
import Derived.Test.YtookojgemipakaaDoorTie
import Derived.LaidMore
import Derived.Stop.Joined
import Derived.Lay
import Derived.SevenTiedAt
import Derived.Test.YtookojgemipakaaDoorEvO
section
namespace Go.Proofs.YtookojgemipakaaDoor.E5
open Go.RowKit Go.Proofs.YtookojgemipakaaDoor Go.Proofs.YtookojgemipakaaDoor.Door Go.Proofs.YtookojgemipakaaDoor.E4 Go.Proofs.YtookojgemipakaaDoor.Ev Go.ChangeShapes Go.WideShapes
set_option linter.unusedVariables false
set_option maxRecDepth 100000
section
variable {H : Type} {enc : TypeId × Value → H} {w : World}
theorem open_event_arg {base : Nat} {v : Value} {d : DataW H} {p : List MemPlace} (hv : Value.okWide Tryd.prog w .any base 24 v) (h : DataW.Trod enc Tryd.prog w 0 (fun _ => true) true 24 v d p) :
    ∃ x : EI, v = .agg #[.string x.ty, .string x.key, .int .i64 x.t, .int .i64 x.q, .slice x.va x.vn x.vc] ∧ EIOk w w.heap.size x := by
  obtain ⟨cs, rfl, _⟩ := okWide_struct (by kernel_rfl) hv
  obtain ⟨fuel, hf⟩ := h
  obtain ⟨x, hc, hx⟩ := open_event hf
  refine ⟨x, ?_, hx⟩
  have : cs.toList = x.cells := hc
  rw [← Array.toArray_toList (xs := cs), this]
  rfl
end
theorem check_all {w : World} (x : EI) (hx : EIOk w w.heap.size x) (kind : Int) (hk : (Lit.int IntKind.i64 kind).wf = true) (n : Int) (hn : (Lit.int IntKind.i64 n).wf = true) (hm : ML w) :
    Calls Tryd.prog 3 #[.agg #[.string x.ty, .string x.key, .int .i64 x.t, .int .i64 x.q, .slice x.va x.vn x.vc], .int .i64 kind, .int .i64 n] w fun e w' => e = .returned (.bool true) ∧ Below w.heap.size w w' := check_walk x kind n w hx (bounds_i64 hk) (bounds_i64 hn) hm
end Go.Proofs.YtookojgemipakaaDoor.E5
end
namespace Go.Proofs.YtookojgemipakaaDoor.eventCheck
open Go.ChangeShapes Go.WideShapes Go.ChangeAt Go.RowKit Go.ChangeMaps
set_option linter.unusedVariables false

theorem own : ownKnob Tryd.prog.godebug = none := by kernel_rfl
theorem laidOut : laidOutB Tryd.prog = true := by kernel_rfl
theorem rowedAll : Law.rowed Tryd.prog Tryd.f3.params.toList = true := by kernel_rfl

set_option maxRecDepth 100000 in
theorem lifted (os : Os) (started : os.Started) (H : Type) (enc : TypeId × Value → H) :
    ReturnsInHanded {} Tryd.checked os 3 .any (fun w args => (Rows.eventCheckSpec.pre enc Tryd.prog Tryd.f3 [] false w args ∧ laidMetH Tryd.prog Rows.eventCheckRow.laid w) ∧ sizedMet enc Tryd.prog Tryd.f3 (OpenSpec.ofChange Rows.eventCheckSpec) false w args)
      (Rows.eventCheckSpec.post enc Tryd.prog Tryd.f3 false true false false) := by
  refine Door.handed (C := Tryd.checked) (X := fun w _ => laidMetH Tryd.prog Rows.eventCheckRow.laid w) (fun _ _ _ hh h => h.of_heap hh) own started (by kernel_rfl) Tryd.func3
    (ChangeSpec.witness_shaped (enc := enc) (C := Tryd.checked) (os := os) (X := fun w _ => laidMetH Tryd.prog Rows.eventCheckRow.laid w) false (World.laidAll Tryd.prog os Rows.eventCheckRow.laid) #[.agg #[.string ⟨#[]⟩, .string ⟨#[]⟩, .int .i64 0, .int .i64 0, .slice none 0 0], .int .i64 0, .int .i64 0] 8 (World.laidAll_os _ _ _)
      (World.shaped_of_ZipB (by kernel_rfl) (by kernel_rfl)) (by kernel_rfl) (by kernel_rfl) (by kernel_rfl)
      (by rw [MakeChecks.laidMetH_plain _ _ _ (by kernel_rfl)]; exact laidMet_laidAll _ (by kernel_rfl) (by kernel_rfl))) ?_
  intro W base args ds gs before hval0 hW hsh _
  have hval : ∀ (j : Nat) t v, Tryd.f3.params[j]? = some t → args[j]? = some v → Value.okWide Tryd.prog W .any base t v := hval0
  have hW' : DataW.Whole enc Tryd.prog Tryd.f3.params.toList Rows.eventCheckSpec.vars false W args.toList ds gs before := hW
  obtain ⟨p, q, hA0, hV, rfl, hfz, hnd⟩ := hW
  have hA : DataW.TrodAll enc Tryd.prog W 0 (fun _ => true) true Tryd.f3.params.toList args.toList ds p := hA0
  rw [Tryd.params3] at hA hval
  obtain ⟨v0, vs0, d0, ds0, p0, q0, hargs, rfl, rfl, h0, r0⟩ := trodAll_cons hA
  obtain ⟨v1, vs1, d1, ds1, p1, q1, rfl, rfl, rfl, h1, r1⟩ := trodAll_cons r0
  obtain ⟨v2, vs2, d2, ds2, p2, q2, rfl, rfl, rfl, h2, r2⟩ := trodAll_cons r1
  obtain ⟨rfl, rfl, rfl⟩ := trodAll_nil r2
  obtain rfl : args = #[v0, v1, v2] := by cases args; simp_all
  obtain ⟨rfl, rfl⟩ := trodVars_none hV
  obtain ⟨x0, rfl, hx0⟩ := E5.open_event_arg (hval 0 24 v0 rfl rfl) h0
  obtain ⟨a1, rfl, rfl, rfl, w1⟩ := open_int Tryd.underlying3 (hval 1 3 v1 rfl rfl) h1
  obtain ⟨a2, rfl, rfl, rfl, w2⟩ := open_int Tryd.underlying3 (hval 2 3 v2 rfl rfl) h2
  clear hA0 hval0
  refine (E5.check_all x0 hx0 a1 w1 a2 w2 (w := W) (Door.ml_of_shape hsh)).mono fun e W' ⟨he, hb⟩ => ?_
  subst he
  exact ⟨_, rfl, Law.ends laidOut rowedAll rfl Tryd.underlying4 rfl rfl hW' hb⟩

theorem over : Rows.eventCheckRow.holds Tryd.pinned (OpenSpec.ofChange Rows.eventCheckSpec) :=
  OpenClaim.holds_of_wide 3 Tryd.f3 rfl rfl rfl rfl rfl rfl rfl ⟨rfl, rfl, rfl, rfl, rfl⟩ rfl rfl rfl rfl rfl (by kernel_rfl) Tryd.func3 (by kernel_rfl)
    (of_decide_eq_true (by kernel_rfl)) (by unfold Func.isWrapper; first | (rw [if_pos (by decide +kernel)]; kernel_rfl) | (rw [if_neg (by decide +kernel)]; exact ⟨rfl, rfl⟩))
    (fun os started H enc _ => lifted os started H enc)

theorem proved : Rows.EventCheckCardSaid :=
  Claim7.holds_tied_plain_at .later [] [.data, .pinned] true Rows.eventCheckCard.stood.harness false over (fun _ h => by cases h) (by kernel_rfl) (fun _ h => by cases h) eventCheck_row_tie rfl ⟨rfl, rfl⟩ (by kernel_rfl) rfl
    (fun f fn hf hfn => by
      obtain rfl : f = 3 := Option.some.inj ((show Tryd.prog.funcNamed "lamplighter/lamplighterlaw04.EventCheck" = some 3 by kernel_rfl).symm.trans hf) |>.symm
      obtain rfl : fn = Tryd.f3 := (Option.some.inj (Tryd.func3.symm.trans hfn)).symm
      exact ⟨by kernel_rfl, fun j t ht => by
        have hm : t ∈ Tryd.f3.params.toList := by simpa using Array.mem_of_getElem? ht
        have hall : (Tryd.f3.params.toList.all fun u => !Tryd.prog.wantsStandIn u) = true := by kernel_rfl
        exact (show Tryd.prog.wantsStandIn t = false by simpa using List.all_eq_true.1 hall t hm)⟩)
    (by kernel_rfl)
#print axioms proved
end Go.Proofs.YtookojgemipakaaDoor.eventCheck
