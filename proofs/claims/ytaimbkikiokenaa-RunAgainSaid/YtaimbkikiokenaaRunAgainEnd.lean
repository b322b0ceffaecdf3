/- THE STATEMENT 'RunAgainSaid', PROVED: called with whatever it may be called with, the law returns true, and each argument reads as it did. No condition is laid on the input. -/
import Derived.Test.YtaimbkikiokenaaRaFz
import Derived.Test.YtaimbkikiokenaaLaw
import Derived.Test.YtaimbkikiokenaaOpen
import Derived.Test.YtaimbkikiokenaaEvP
import Derived.ProofKit
import Derived.OpenShut
namespace Go.Proofs.Ytaimbkikiokenaa.Rn
open Go.RowKit Go.Proofs.Ytaimbkikiokenaa Go.Proofs.Ytaimbkikiokenaa.Ev
set_option linter.unusedVariables false
theorem again_all {w : World} (A0 : Option Addr) (n0 c0 : Nat) (F0 : Nat → Int) (ln : n0 ≤ c0) (lc : c0 ≤ 9223372036854775807) (lb : ∀ k, -9223372036854775808 ≤ F0 k ∧ F0 k ≤ 9223372036854775807) (L0 : Lies w w.heap.size A0 n0 (fun k => .int .i64 (F0 k))) (A1 : Option Addr) (n1 c1 : Nat) (F1 : Nat → Ev.EI) (ln1 : n1 ≤ c1) (lc1 : c1 ≤ 9223372036854775807) (L1 : ELies w w.heap.size A1 n1 F1)
    (A2 : Option Addr) (n2 c2 : Nat) (F2 : Nat → Int) (ln2 : n2 ≤ c2) (lc2 : c2 ≤ 9223372036854775807) (lb2 : ∀ k, -9223372036854775808 ≤ F2 k ∧ F2 k ≤ 9223372036854775807) (L2 : Lies w w.heap.size A2 n2 (fun k => .int .i64 (F2 k))) :
    Calls Try.prog 5 #[.slice A0 n0 c0, .slice A1 n1 c1, .slice A2 n2 c2] w fun e w' => e = .returned (.bool true) ∧ Below w.heap.size w w' :=
  again_hid A0 n0 c0 F0 ln lc lb A1 n1 c1 F1 ln1 lc1 A2 n2 c2 F2 ln2 lc2 (Lib.hid lb2) w (Lib.hid L0) (Lib.hid L1) (Lib.hid L2)
end Go.Proofs.Ytaimbkikiokenaa.Rn
namespace Go.Proofs.Ytaimbkikiokenaa.runAgain
open Go.ChangeShapes Go.WideShapes Go.ChangeAt Go.RowKit Go.ChangeMaps
set_option linter.unusedVariables false

theorem own : ownKnob Try.prog.godebug = none := by kernel_rfl
theorem laidOut : laidOutB Try.prog = true := by kernel_rfl
theorem rowedAll : Law.rowed Try.prog Try.f5.params.toList = true := by kernel_rfl

set_option maxRecDepth 100000 in
theorem lifted (os : Os) (started : os.Started) (H : Type) (enc : TypeId × Value → H) :
    ReturnsInHanded {} Try.checked os 5 .any (Rows.runAgainSpec.pre6 enc Try.prog Try.f5 Rows.runAgainRow.domain false) (Rows.runAgainSpec.post enc Try.prog Try.f5 false true false false) := by
  refine returnsInHanded_of_change (C := Try.checked) own started (by kernel_rfl) Try.func5
    (ChangeSpec.witness6 (enc := enc) (C := Try.checked) false ⟨#[], #[.slice none 0 0, .slice none 0 0, .slice none 0 0], []⟩ 8 (by kernel_rfl) (by kernel_rfl) (by kernel_rfl) (by kernel_rfl)) ?_
  intro W base args ds gs before hval0 hW hcnd _
  have hval : ∀ (j : Nat) t v, Try.f5.params[j]? = some t → args[j]? = some v → Value.okWide Try.prog W .any base t v := hval0
  have hW' : DataW.Whole enc Try.prog Try.f5.params.toList Rows.runAgainSpec.vars false W args.toList ds gs before := hW
  obtain ⟨p, q, hA0, hV, rfl, hfz, hnd⟩ := hW
  have hA : DataW.TrodAll enc Try.prog W 0 (fun _ => true) true Try.f5.params.toList args.toList ds p := hA0
  rw [Try.params5] at hA hval
  obtain ⟨v0, vs0, d0, ds0, p0, q0, hargs, rfl, rfl, h0, r0⟩ := trodAll_cons hA
  obtain ⟨v1, vs1, d1, ds1, p1, q1, rfl, rfl, rfl, h1, r1⟩ := trodAll_cons r0
  obtain ⟨v2, vs2, d2, ds2, p2, q2, rfl, rfl, rfl, h2, r2⟩ := trodAll_cons r1
  obtain ⟨rfl, rfl, rfl⟩ := trodAll_nil r2
  obtain rfl : args = #[v0, v1, v2] := by cases args; simp_all
  obtain ⟨rfl, rfl⟩ := trodVars_none hV
  obtain ⟨A0, n0, c0, f0, rfl, ln0, lc0, lb0, ll0⟩ := open_ints_any Try.underlying28 Try.underlying3 (by kernel_rfl) (hval 0 28 v0 rfl rfl) h0
  obtain ⟨A1, n1, c1, F1, rfl, hn1, hc1, hl1⟩ := Ev.open_events_arg (hval 1 40 v1 rfl rfl) h1
  obtain ⟨A2, n2, c2, f2, rfl, ln2, lc2, lb2, ll2⟩ := open_ints_any Try.underlying28 Try.underlying3 (by kernel_rfl) (hval 2 28 v2 rfl rfl) h2
  clear hA0 hval0
  refine (Rn.again_all A0 n0 c0 f0 ln0 lc0 lb0 ll0 A1 n1 c1 F1 hn1 hc1 hl1 A2 n2 c2 f2 ln2 lc2 lb2 ll2 (w := W)).mono fun e W' ⟨he, hb⟩ => ?_
  subst he
  exact ⟨_, rfl, Law.ends laidOut rowedAll rfl Try.underlying4 rfl rfl hW' hb⟩

theorem over : Rows.runAgainRow.holds Try.pinned (OpenSpec.ofChange Rows.runAgainSpec) :=
  OpenClaim.holds_of_wide 5 Try.f5 rfl rfl rfl rfl rfl rfl rfl ⟨rfl, rfl, rfl, rfl, rfl⟩ rfl rfl rfl rfl rfl (by kernel_rfl) Try.func5 (by kernel_rfl)
    (of_decide_eq_true (by kernel_rfl)) (by unfold Func.isWrapper; first | (rw [if_pos (by decide +kernel)]; kernel_rfl) | (rw [if_neg (by decide +kernel)]; exact ⟨rfl, rfl⟩))
    (fun os started H enc _ => lifted os started H enc)

theorem proved : Rows.RunAgainSaid := over
#print axioms proved
end Go.Proofs.Ytaimbkikiokenaa.runAgain
