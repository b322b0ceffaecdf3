/- The reference's both: what two values of one kind come to. -/
import Derived.Test.YtopbildpeojgoaaEvlC
import Derived.Deep.RegionHeld3
import Derived.Test.YtopbildpeojgoaaRefProduct
import Derived.Deep.RegionLaw
import Derived.Deep.Cut
import Derived.Deep.DeepCutAuto
namespace Go.Proofs.Ytopbildpeojgoaa.Evl
open Go.RowKit Go.Proofs.Ytopbildpeojgoaa Go.Proofs.Ytopbildpeojgoaa.Ev Go.Proofs.Ytopbildpeojgoaa.Sch Go.Proofs.Ytopbildpeojgoaa.Ty Go.Proofs.Ytopbildpeojgoaa.Num
set_option linter.unusedVariables false
set_option maxRecDepth 100000
/-- What the reference tells: a value that counts only where it is one. -/
def BPost (w : World) (r : Option VV) (e : Ending) (w' : World) : Prop := ∃ k i s b, e = .returned (.tuple #[.agg #[.int .i64 k, .int .i64 i, .string s, .bool b], .bool r.isSome]) ∧ (∀ y, r = some y → y = ⟨k, i, s, b⟩) ∧ Below w.heap.size w w'
theorem bpost_no {w w' : World} {r : Option VV} {k i : Int} {s : ByteArray} {b : Bool} (h : r = none) (hb : Below w.heap.size w w') : BPost w r (.returned (.tuple #[.agg #[.int .i64 k, .int .i64 i, .string s, .bool b], .bool false])) w' := by subst h; exact ⟨k, i, s, b, rfl, (fun y h => by cases h), hb⟩
theorem bpost_yes {w w' : World} {r : Option VV} {k i : Int} {s : ByteArray} {b : Bool} (h : r = some ⟨k, i, s, b⟩) (hb : Below w.heap.size w w') : BPost w r (.returned (.tuple #[.agg #[.int .i64 k, .int .i64 i, .string s, .bool b], .bool true])) w' := by subst h; exact ⟨k, i, s, b, rfl, (fun y h => by injection h with h; exact h.symm), hb⟩
theorem res3 {w X : World} {u v : Array Value} (h : Below (w.heap.size + 1 + 1 + 1) (((w.alloc (.cells u 57)).alloc (.cells v 57)).alloc (.cells #[.int .i64 0, .int .i64 0, .string ⟨#[]⟩, .bool false] 57)) X) : Rz X (w.heap.size + 1 + 1) :=
  Row.below (by simpa using Row.made ((w.alloc (.cells u 57)).alloc (.cells v 57)) 57 #[.int .i64 0, .int .i64 0, .string ⟨#[]⟩, .bool false]) h (by omega)
theorem rows3 {w : World} {u v : Array Value} {x : Obj} : Row (((w.alloc (.cells u 57)).alloc (.cells v 57)).alloc x) w.heap.size 57 u ∧ Row (((w.alloc (.cells u 57)).alloc (.cells v 57)).alloc x) (w.heap.size + 1) 57 v :=
  ⟨((Row.made w _ _).alloc _).alloc _, by simpa using (Row.made (w.alloc (.cells u 57)) 57 v).alloc x⟩
theorem ne_addr {b b' i j : Nat} (hne : b ≠ b') : (⟨b', j, none⟩ : Addr) ≠ ⟨b, i, none⟩ := fun e => hne (by injection e with e1 e2 e3; exact e1.symm)
theorem four_other {X : World} {b b' i : Nat} {v u0 u1 u2 u3 : Value} (hne : b ≠ b') (h : X.cell? ⟨b, i, none⟩ = some v) : ((((X.setCell ⟨b', 0, none⟩ u0).setCell ⟨b', 1, none⟩ u1).setCell ⟨b', 2, none⟩ u2).setCell ⟨b', 3, none⟩ u3).cell? ⟨b, i, none⟩ = some v := by
  rw [World.cell?_setCell_other _ _ _ _ (ne_addr hne), World.cell?_setCell_other _ _ _ _ (ne_addr hne), World.cell?_setCell_other _ _ _ _ (ne_addr hne), World.cell?_setCell_other _ _ _ _ (ne_addr hne)]
  exact h
theorem below3 {w : World} {u v x : Obj} : Below w.heap.size w (((w.alloc u).alloc v).alloc x) := (((Below.refl _ w).alloc (Nat.le_refl _) _).alloc (by simp) _).alloc (by simp; omega) _
theorem fitsA (a b : Int) (h : In64 a) (g : In64 b) (r : Bool) (hr : inI (a + b) = r) (w : World) : Calls Try.prog 156 #[.int .i64 a, .int .i64 b, .bool false] w fun e w' => e = .returned (.bool r) ∧ w = w' := by rw [← hr]; exact fits_add a b w h.1 h.2 g.1 g.2
theorem fitsS (a b : Int) (h : In64 a) (g : In64 b) (r : Bool) (hr : inI (a - b) = r) (w : World) : Calls Try.prog 156 #[.int .i64 a, .int .i64 b, .bool true] w fun e w' => e = .returned (.bool r) ∧ w = w' := by rw [← hr]; exact fits_sub a b w h.1 h.2 g.1 g.2
theorem prodP (a b : Int) (h : In64 a) (g : In64 b) (r : Bool) (hr : inI (a * b) = r) (w : World) : Calls Try.prog 157 #[.int .i64 a, .int .i64 b] w fun e w' => e = .returned (.bool r) ∧ w = w' := by rw [← hr]; exact product_any a b w h.1 h.2 g.1 g.2
end Go.Proofs.Ytopbildpeojgoaa.Evl
