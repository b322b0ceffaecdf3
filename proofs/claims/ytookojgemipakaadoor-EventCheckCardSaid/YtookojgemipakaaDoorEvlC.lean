/- What a part of numbers, of truths, of values that are compared comes to. -/
import Derived.Test.YtookojgemipakaaDoorEvlB
namespace Go.Proofs.YtookojgemipakaaDoor.Evl
open Go.RowKit Go.Proofs.YtookojgemipakaaDoor Go.Proofs.YtookojgemipakaaDoor.Ev Go.Proofs.YtookojgemipakaaDoor.Sch Go.Proofs.YtookojgemipakaaDoor.Ty
set_option linter.unusedVariables false
set_option maxRecDepth 100000
def In64 (x : Int) : Prop := -9223372036854775808 ≤ x ∧ x ≤ 9223372036854775807
def numV (x : Int) : VV := ⟨1, x, ⟨#[]⟩, false⟩
def trV (b : Bool) : VV := ⟨3, 0, ⟨#[]⟩, b⟩
def zeroV : VV := ⟨0, 0, ⟨#[]⟩, false⟩
def VV.agg (v : VV) : Value := .agg #[.int .i64 v.k, .int .i64 v.i, .string v.s, .bool v.b]
def RPost (w : World) (r : Option VV) (e : Ending) (w' : World) : Prop := e = .returned (.tuple #[VV.agg (r.getD zeroV), .bool r.isSome]) ∧ Below w.heap.size w w'
theorem rpost_yes {w w' : World} {r : Option VV} {k i : Int} {s : ByteArray} {b : Bool} (h : r = some ⟨k, i, s, b⟩) (hb : Below w.heap.size w w') : RPost w r (.returned (.tuple #[.agg #[.int .i64 k, .int .i64 i, .string s, .bool b], .bool true])) w' := by subst h; exact ⟨rfl, hb⟩
theorem rpost_no {w w' : World} {r : Option VV} (h : r = none) (hb : Below w.heap.size w w') : RPost w r (.returned (.tuple #[.agg #[.int .i64 0, .int .i64 0, .string ⟨#[]⟩, .bool false], .bool false])) w' := by subst h; exact ⟨rfl, hb⟩
def ari (o x y : Int) : Int := if o = 4 then x + y else if o = 5 then x - y else x * y
/-- The only thing, the two things of a list. -/
theorem VL.one {w : World} {B : Nat} {v : Value} {a : VV} (h : VL w B v [a]) : ∃ g o c, v = .slice (some ⟨g, o, none⟩) 1 c ∧ 1 ≤ c ∧ c ≤ 9223372036854775807 ∧ g < B ∧ w.cell? ⟨g, o, none⟩ = some (.int .i64 a.k) ∧ w.cell? ⟨g, o + 1, none⟩ = some (.int .i64 a.i) ∧ w.cell? ⟨g, o + 2, none⟩ = some (.string a.s) ∧ w.cell? ⟨g, o + 3, none⟩ = some (.bool a.b) := by
  obtain ⟨A, c, rfl, h1, h2, h3⟩ := h
  obtain ⟨g, o, rfl, hg, hc⟩ := h3 0 (by simp)
  exact ⟨g, o, c, rfl, by simpa using h1, h2, hg, by simpa using hc 0 _ rfl, by simpa using hc 1 _ rfl, by simpa using hc 2 _ rfl, by simpa using hc 3 _ rfl⟩
theorem VL.two {w : World} {B : Nat} {v : Value} {a b : VV} (h : VL w B v [a, b]) : ∃ g o c, v = .slice (some ⟨g, o, none⟩) 2 c ∧ 2 ≤ c ∧ c ≤ 9223372036854775807 ∧ g < B ∧ w.cell? ⟨g, o, none⟩ = some (.int .i64 a.k) ∧ w.cell? ⟨g, o + 1, none⟩ = some (.int .i64 a.i) ∧ w.cell? ⟨g, o + 2, none⟩ = some (.string a.s) ∧ w.cell? ⟨g, o + 3, none⟩ = some (.bool a.b)
    ∧ w.cell? ⟨g, o + 4, none⟩ = some (.int .i64 b.k) ∧ w.cell? ⟨g, o + 4 + 1, none⟩ = some (.int .i64 b.i) ∧ w.cell? ⟨g, o + 4 + 2, none⟩ = some (.string b.s) ∧ w.cell? ⟨g, o + 4 + 3, none⟩ = some (.bool b.b) := by
  obtain ⟨A, c, rfl, h1, h2, h3⟩ := h
  obtain ⟨g, o, rfl, hg, hc⟩ := h3 0 (by simp)
  obtain ⟨g', o', e, _, hd⟩ := h3 1 (by simp)
  injection e with e
  injection e with e1 e2
  subst e1 e2
  exact ⟨g, o, c, rfl, by simpa using h1, h2, hg, by simpa using hc 0 _ rfl, by simpa using hc 1 _ rfl, by simpa using hc 2 _ rfl, by simpa using hc 3 _ rfl, by simpa using hd 0 _ rfl, by simpa using hd 1 _ rfl, by simpa using hd 2 _ rfl, by simpa using hd 3 _ rfl⟩
/-- The result's block. -/
def Rz (X : World) (b : Nat) : Prop := Row X b 33 #[.int .i64 0, .int .i64 0, .string ⟨#[]⟩, .bool false]
theorem Rz.facts {X : World} {b : Nat} (r : Rz X b) : b < X.heap.size ∧ X.cell? ⟨b, 0, none⟩ = some (.int .i64 0) ∧ X.cell? ⟨b, 1, none⟩ = some (.int .i64 0) ∧ X.cell? ⟨b, 2, none⟩ = some (.string ⟨#[]⟩) ∧ X.cell? ⟨b, 3, none⟩ = some (.bool false)
    ∧ X.frozen? ⟨b, 0, none⟩ = false ∧ X.frozen? ⟨b, 1, none⟩ = false ∧ X.frozen? ⟨b, 2, none⟩ = false ∧ X.frozen? ⟨b, 3, none⟩ = false :=
  ⟨r.lt, (r.cell 0).trans rfl, (r.cell 1).trans rfl, (r.cell 2).trans rfl, (r.cell 3).trans rfl, r.free 0, r.free 1, r.free 2, r.free 3⟩
theorem put4 {X : World} {b : Nat} (r : Rz X b) (u0 u1 u2 u3 : Value) :
    Row ((((X.setCell ⟨b, 0, none⟩ u0).setCell ⟨b, 1, none⟩ u1).setCell ⟨b, 2, none⟩ u2).setCell ⟨b, 3, none⟩ u3) b 33 #[u0, u1, u2, u3] := by
  simpa using (((Row.put r 0 u0).put 1 u1).put 2 u2).put 3 u3
theorem four {Y : World} {b : Nat} {u0 u1 u2 u3 : Value} (r : Row Y b 33 #[u0, u1, u2, u3]) : Y.cell? ⟨b, 0, none⟩ = some u0 ∧ Y.cell? ⟨b, 1, none⟩ = some u1 ∧ Y.cell? ⟨b, 2, none⟩ = some u2 ∧ Y.cell? ⟨b, 3, none⟩ = some u3 :=
  ⟨(r.cell 0).trans rfl, (r.cell 1).trans rfl, (r.cell 2).trans rfl, (r.cell 3).trans rfl⟩
theorem below4 {w X : World} (h : Below w.heap.size w X) (b : Nat) (hb : w.heap.size ≤ b) (u0 u1 u2 u3 : Value) : Below w.heap.size w ((((X.setCell ⟨b, 0, none⟩ u0).setCell ⟨b, 1, none⟩ u1).setCell ⟨b, 2, none⟩ u2).setCell ⟨b, 3, none⟩ u3) :=
  (((h.setCell (p := ⟨b, 0, none⟩) hb _).setCell (p := ⟨b, 1, none⟩) hb _).setCell (p := ⟨b, 2, none⟩) hb _).setCell (p := ⟨b, 3, none⟩) hb _
-- WALKS
end Go.Proofs.YtookojgemipakaaDoor.Evl
