/- THE STATEMENT 'OmapTextsSaid', PROVED: called with whatever it may be called with, the law returns true, and each argument reads as it did. No condition is laid on the input. -/
import Derived.Test.YtnibmfijkbfaeaaOmW
import Derived.Test.YtnibmfijkbfaeaaLaw
import Derived.Test.YtnibmfijkbfaeaaOpen
import Derived.ProofKit
import Derived.OpenShut
namespace Go.Proofs.Ytnibmfijkbfaeaa.omapTexts
open Go.ChangeShapes Go.WideShapes Go.ChangeAt Go.RowKit Go.ChangeMaps
set_option linter.unusedVariables false

theorem own : ownKnob Try.prog.godebug = none := by kernel_rfl
theorem laidOut : laidOutB Try.prog = true := by kernel_rfl
theorem rowedAll : Law.rowed Try.prog Try.f5.params.toList = true := by kernel_rfl

set_option maxRecDepth 100000 in
theorem lifted (os : Os) (started : os.Started) (H : Type) (enc : TypeId × Value → H) :
    ReturnsInHanded {} Try.checked os 5 .any (Rows.omapTextsSpec.pre6 enc Try.prog Try.f5 Rows.omapTextsRow.domain false) (Rows.omapTextsSpec.post enc Try.prog Try.f5 false true false false) := by
  refine returnsInHanded_of_change (C := Try.checked) own started (by kernel_rfl) Try.func5
    (ChangeSpec.witness6 (enc := enc) (C := Try.checked) false ⟨#[], #[.slice none 0 0], []⟩ 8 (by kernel_rfl) (by kernel_rfl) (by kernel_rfl) (by kernel_rfl)) ?_
  intro W base args ds gs before hval0 hW hcnd _
  have hval : ∀ (j : Nat) t v, Try.f5.params[j]? = some t → args[j]? = some v → Value.okWide Try.prog W .any base t v := hval0
  have hW' : DataW.Whole enc Try.prog Try.f5.params.toList Rows.omapTextsSpec.vars false W args.toList ds gs before := hW
  obtain ⟨p, q, hA0, hV, rfl, hfz, hnd⟩ := hW
  have hA : DataW.TrodAll enc Try.prog W 0 (fun _ => true) true Try.f5.params.toList args.toList ds p := hA0
  rw [Try.params5] at hA hval
  obtain ⟨v0, vs0, d0, ds0, p0, q0, hargs, rfl, rfl, h0, r0⟩ := trodAll_cons hA
  obtain ⟨rfl, rfl, rfl⟩ := trodAll_nil r0
  obtain rfl : args = #[v0] := by cases args; simp_all
  obtain ⟨rfl, rfl⟩ := trodVars_none hV
  obtain ⟨A0, n0, c0, f0, rfl, ln0, lc0, lb0, ll0⟩ := open_strings_any Try.underlying49 Try.underlying9 (by kernel_rfl) (hval 0 49 v0 rfl rfl) h0
  clear hA0 hval0
  refine (Om.texts_any A0 n0 c0 f0 ln0 lc0 lb0 ll0 (w := W)).mono fun e W' ⟨he, hb⟩ => ?_
  subst he
  exact ⟨_, rfl, Law.ends laidOut rowedAll rfl Try.underlying4 rfl rfl hW' hb⟩

theorem over : Rows.omapTextsRow.holds Try.pinned (OpenSpec.ofChange Rows.omapTextsSpec) :=
  OpenClaim.holds_of_wide 5 Try.f5 rfl rfl rfl rfl rfl rfl rfl ⟨rfl, rfl, rfl, rfl, rfl⟩ rfl rfl rfl rfl rfl (by kernel_rfl) Try.func5 (by kernel_rfl)
    (of_decide_eq_true (by kernel_rfl)) (by unfold Func.isWrapper; first | (rw [if_pos (by decide +kernel)]; kernel_rfl) | (rw [if_neg (by decide +kernel)]; exact ⟨rfl, rfl⟩))
    (fun os started H enc _ => lifted os started H enc)

theorem proved : Rows.OmapTextsSaid := over
#print axioms proved
end Go.Proofs.Ytnibmfijkbfaeaa.omapTexts
