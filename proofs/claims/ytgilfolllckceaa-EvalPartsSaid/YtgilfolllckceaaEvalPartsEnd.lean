/- THE STATEMENT 'EvalPartsSaid', PROVED: called with whatever it may be called with, the law returns true, and each argument reads as it did. No condition is laid on the input. -/
import Derived.Test.YtgilfolllckceaaEvlZ
import Derived.Test.YtgilfolllckceaaLaw
import Derived.Test.YtgilfolllckceaaOpen
import Derived.ProofKit
import Derived.OpenShut
namespace Go.Proofs.Ytgilfolllckceaa.evalParts
open Go.ChangeShapes Go.WideShapes Go.ChangeAt Go.RowKit Go.ChangeMaps
set_option linter.unusedVariables false

theorem own : ownKnob Try.prog.godebug = none := by kernel_rfl
theorem laidOut : laidOutB Try.prog = true := by kernel_rfl
theorem rowedAll : Law.rowed Try.prog Try.f3.params.toList = true := by kernel_rfl

set_option maxRecDepth 100000 in
theorem lifted (os : Os) (started : os.Started) (H : Type) (enc : TypeId × Value → H) :
    ReturnsInHanded {} Try.checked os 3 .any (Rows.evalPartsSpec.pre6 enc Try.prog Try.f3 Rows.evalPartsRow.domain false) (Rows.evalPartsSpec.post enc Try.prog Try.f3 false true false false) := by
  refine returnsInHanded_of_change (C := Try.checked) own started (by kernel_rfl) Try.func3
    (ChangeSpec.witness6 (enc := enc) (C := Try.checked) false ⟨#[], #[.int .i64 0, .agg #[.int .i64 0, .int .i64 0, .string ⟨#[]⟩, .bool false], .agg #[.int .i64 0, .int .i64 0, .string ⟨#[]⟩, .bool false]], []⟩ 8 (by kernel_rfl) (by kernel_rfl) (by kernel_rfl) (by kernel_rfl)) ?_
  intro W base args ds gs before hval0 hW hcnd _
  have hval : ∀ (j : Nat) t v, Try.f3.params[j]? = some t → args[j]? = some v → Value.okWide Try.prog W .any base t v := hval0
  have hW' : DataW.Whole enc Try.prog Try.f3.params.toList Rows.evalPartsSpec.vars false W args.toList ds gs before := hW
  obtain ⟨p, q, hA0, hV, rfl, hfz, hnd⟩ := hW
  have hA : DataW.TrodAll enc Try.prog W 0 (fun _ => true) true Try.f3.params.toList args.toList ds p := hA0
  rw [Try.params3] at hA hval
  obtain ⟨v0, vs0, d0, ds0, p0, q0, hargs, rfl, rfl, h0, r0⟩ := trodAll_cons hA
  obtain ⟨v1, vs1, d1, ds1, p1, q1, rfl, rfl, rfl, h1, r1⟩ := trodAll_cons r0
  obtain ⟨v2, vs2, d2, ds2, p2, q2, rfl, rfl, rfl, h2, r2⟩ := trodAll_cons r1
  obtain ⟨rfl, rfl, rfl⟩ := trodAll_nil r2
  obtain rfl : args = #[v0, v1, v2] := by cases args; simp_all
  obtain ⟨rfl, rfl⟩ := trodVars_none hV
  obtain ⟨a0, rfl, rfl, rfl, w0⟩ := open_int Try.underlying3 (hval 0 3 v0 rfl rfl) h0
  obtain ⟨k1, i1, s1, b1, rfl, hi1, hs1⟩ := Evl.open_value_arg (hval 1 23 v1 rfl rfl) h1
  obtain ⟨k2, i2, s2, b2, rfl, hi2, hs2⟩ := Evl.open_value_arg (hval 2 23 v2 rfl rfl) h2
  clear hA0 hval0
  refine (Evl.parts_law a0 w0 k1 i1 s1 b1 hi1 hs1 k2 i2 s2 b2 hi2 hs2 (w := W)).mono fun e W' ⟨he, hb⟩ => ?_
  subst he
  exact ⟨_, rfl, Law.ends laidOut rowedAll rfl Try.underlying4 rfl rfl hW' hb⟩

theorem q1 : (Rows.evalPartsRow.inPlace == Try.pinned.checked.prog.inPlace 3) = true := by kernel_rfl
theorem q2 : (Rows.evalPartsRow.unfollowed == Try.pinned.checked.prog.unfollowed 3) = true := by kernel_rfl
theorem q3 : (Rows.evalPartsRow.recurses == Try.pinned.checked.prog.recurses 3) = true := by kernel_rfl
theorem q4 : (Rows.evalPartsRow.named == Try.pinned.checked.prog.varsNamed 3) = true := by kernel_rfl
theorem closed : joinedFacts Try.pinned.checked.prog 3 Try.f3 Rows.evalPartsSpec Rows.evalPartsRow = true := by
  unfold joinedFacts
  rw [q1, q2, q3, q4]
  kernel_rfl

theorem over : Rows.evalPartsRow.holds Try.pinned (OpenSpec.ofChange Rows.evalPartsSpec) :=
  OpenClaim.holds_of_wide 3 Try.f3 rfl rfl rfl rfl rfl rfl rfl ⟨rfl, rfl, rfl, rfl, rfl⟩ rfl rfl rfl rfl rfl (by kernel_rfl) Try.func3 closed
    (of_decide_eq_true (by kernel_rfl)) (by unfold Func.isWrapper; first | (rw [if_pos (by decide +kernel)]; kernel_rfl) | (rw [if_neg (by decide +kernel)]; exact ⟨rfl, rfl⟩))
    (fun os started H enc _ => lifted os started H enc)

theorem proved : Rows.EvalPartsSaid := over
#print axioms proved
end Go.Proofs.Ytgilfolllckceaa.evalParts
