/- A walk too great for one declaration: its leaves in declarations of their own. -/
import Derived.Test.YtfgnbdhnoclleaaKit
namespace Go.Proofs.Ytfgnbdhnoclleaa.Hp
open Lean Meta Elab Tactic
/-- Everything behind the hypothesis x goes back into the goal. -/
elab "revert_behind " x:ident : tactic => do
  let g ← getMainGoal
  g.withContext do
    let fx ← getFVarId x
    let lctx ← getLCtx
    let some dx := lctx.find? fx | throwError "revert_behind: no such"
    let mut fs : Array FVarId := #[]
    for d in lctx do
      if !d.isImplementationDetail && d.index > dx.index then fs := fs.push d.fvarId
    let (_, g') ← g.revert fs true
    replaceMainGoal [g']
partial def countIntro (t : Lean.Expr) : Nat := match t with
  | .forallE _ _ b _ => countIntro b + 1
  | .letE _ _ _ b _ => countIntro b + 1
  | .mdata _ e => countIntro e
  | _ => 0
/-- A leaf is entered: its hypotheses come back under their own names. -/
elab "cut_enter" : tactic => do
  let g ← getMainGoal
  let t ← g.withContext do
    let t0 ← instantiateMVars (← g.getType)
    match (← unfoldDefinition? t0) with
    | some t1 => whnfCore t1
    | none => throwError "cut_enter: no projection"
  let g ← g.replaceTargetDefEq t
  let (_, g') ← g.introNP (countIntro t)
  replaceMainGoal [g']
structure Cut7 (C : Prop) where
  G1 : Prop
  G2 : Prop
  G3 : Prop
  G4 : Prop
  G5 : Prop
  G6 : Prop
  G7 : Prop
  ok : Go.RowKit.Hid G1 → Go.RowKit.Hid G2 → Go.RowKit.Hid G3 → Go.RowKit.Hid G4 → Go.RowKit.Hid G5 → Go.RowKit.Hid G6 → Go.RowKit.Hid G7 → C
end Go.Proofs.Ytfgnbdhnoclleaa.Hp
