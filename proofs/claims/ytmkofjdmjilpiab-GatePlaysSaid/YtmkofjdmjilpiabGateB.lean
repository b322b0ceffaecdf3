/- Who is inside of few: told one by one, and counted. -/
import Derived.Test.YtmkofjdmjilpiabGateA
namespace Go.Proofs.Ytmkofjdmjilpiab.Gate
open Go.RowKit Go.Proofs.Ytmkofjdmjilpiab Go.Maps
set_option linter.unusedVariables false

structure LI (w0 w : World) (b mb : Nat) (D : DU) (c : Nat) (cl : Bool) : Prop where
  gt : Gt w b mb D c cl
  be : Below w0.heap.size w0 w
  bb : w0.heap.size ≤ b
  bm : w0.heap.size ≤ mb
section
variable {w0 w w' : World} {b mb c c' : Nat} {D D' : DU} {cl cl' : Bool}
theorem LI.call (h : LI w0 w b mb D c cl) (g : Below w.heap.size w w') : LI w0 w' b mb D c cl := ⟨h.gt.call g, h.be.trans (g.mono h.be.size), h.bb, h.bm⟩
theorem LI.turn (h : LI w0 w b mb D c cl) (g : Gt w' b mb D' c' cl') (t : Turns w w' (fun k => k = mb)) : LI w0 w' b mb D' c' cl' :=
  ⟨g, t.below h.be h.be.size (fun k hk e => by have := h.bm; omega), h.bb, h.bm⟩
theorem LI.turnB (h : LI w0 w b mb D c cl) (g : Gt w' b mb D' c' cl') (t : Turns w w' (fun k => k = b)) : LI w0 w' b mb D' c' cl' :=
  ⟨g, t.below h.be h.be.size (fun k hk e => by have := h.bb; omega), h.bb, h.bm⟩
end
theorem li_new {w w1 : World} (h : Gt w1 (w.heap.size + 1) w.heap.size (.map []) 0 false) (hb : Below w.heap.size w w1) : LI w w1 (w.heap.size + 1) w.heap.size (.map []) 0 false := ⟨h, hb, by omega, by omega⟩
def b2 (b : Bool) : Nat := if b then 1 else 0
def cnt8 (S : Nat → Bool) : Nat := b2 (S 0) + b2 (S 1) + b2 (S 2) + b2 (S 3) + b2 (S 4) + b2 (S 5) + b2 (S 6) + b2 (S 7)
def upd (S : Nat → Bool) (x : Nat) (v : Bool) : Nat → Bool := fun y => if y = x then v else S y
theorem eight {x : Nat} (h : x < 8) : x = 0 ∨ x = 1 ∨ x = 2 ∨ x = 3 ∨ x = 4 ∨ x = 5 ∨ x = 6 ∨ x = 7 := by omega
theorem cnt8_set {S : Nat → Bool} {x : Nat} (h : x < 8) (hS : S x = false) : cnt8 (upd S x true) = cnt8 S + 1 := by
  rcases eight h with rfl | rfl | rfl | rfl | rfl | rfl | rfl | rfl <;> simp [cnt8, upd, b2, hS] <;> omega
theorem cnt8_unset {S : Nat → Bool} {x : Nat} (h : x < 8) (hS : S x = true) : cnt8 (upd S x false) + 1 = cnt8 S := by
  rcases eight h with rfl | rfl | rfl | rfl | rfl | rfl | rfl | rfl <;> simp [cnt8, upd, b2, hS] <;> omega
theorem cnt8_zero {S : Nat → Bool} (h : ∀ x, x < 8 → S x = false) : cnt8 S = 0 := by
  unfold cnt8
  rw [h 0 (by omega), h 1 (by omega), h 2 (by omega), h 3 (by omega), h 4 (by omega), h 5 (by omega), h 6 (by omega), h 7 (by omega)]
  rfl
theorem cnt8_first {k : Nat} (h : k < 8) : cnt8 (fun x => decide (x < k)) = k := by
  rcases eight h with rfl | rfl | rfl | rfl | rfl | rfl | rfl | rfl <;> rfl
theorem cnt8_le (S : Nat → Bool) : cnt8 S ≤ 8 := by
  have h : ∀ b, b2 b ≤ 1 := by intro b; cases b <;> decide
  unfold cnt8
  have := h (S 0); have := h (S 1); have := h (S 2); have := h (S 3); have := h (S 4); have := h (S 5); have := h (S 6); have := h (S 7)
  omega
/-- Of 0 to 7 those are inside whom S tells; nobody else is. -/
structure Ins (D : DU) (S : Nat → Bool) : Prop where
  has : ∀ x : Nat, x < 8 → Maps.has D (Ki x) = S x
  size : Maps.size D = cnt8 S
  tidy : Tidy D
theorem Ins.start : Ins (.map []) (fun _ => false) := ⟨fun _ _ => rfl, rfl, tidy_empty⟩
theorem Ins.congr {D : DU} {S S' : Nat → Bool} (h : Ins D S) (e : ∀ x, x < 8 → S x = S' x) : Ins D S' :=
  ⟨fun x hx => (h.has x hx).trans (e x hx), by rw [h.size]; unfold cnt8; rw [e 0 (by omega), e 1 (by omega), e 2 (by omega), e 3 (by omega), e 4 (by omega), e 5 (by omega), e 6 (by omega), e 7 (by omega)], h.tidy⟩
theorem ki_ne {x y : Nat} (h : y ≠ x) : Ki (y : Int) ≠ Ki (x : Int) := by
  intro e
  injection e with _ e
  omega
theorem Ins.put {D : DU} {S : Nat → Bool} (h : Ins D S) {x : Nat} (hx : x < 8) (hS : S x = false) : Ins (D.put (Ki x) (.agg [])) (upd S x true) := by
  refine ⟨fun y hy => ?_, ?_, h.tidy.put (ki_key _) _⟩
  · unfold upd
    by_cases e : y = x
    · subst e
      rw [if_pos rfl, has_put_same h.tidy.isMap (ki_key _)]
    · rw [if_neg e, has_put_other (ki_ne e), h.has y hy]
  · rw [size_put h.tidy, h.has x hx, hS, h.size, cnt8_set hx hS]
    rfl
theorem Ins.del {D : DU} {S : Nat → Bool} (h : Ins D S) {x : Nat} (hx : x < 8) (hS : S x = true) : Ins (D.del (Ki x)) (upd S x false) := by
  refine ⟨fun y hy => ?_, ?_, h.tidy.del _⟩
  · unfold upd
    by_cases e : y = x
    · subst e
      rw [if_pos rfl, has_del_same]
    · rw [if_neg e, has_del_other (ki_ne e), h.has y hy]
  · have h1 := size_del (k := Ki (x : Int)) h.tidy
    rw [h.has x hx, hS, h.size] at h1
    have h2 := cnt8_unset hx hS
    simp only [if_true] at h1
    omega
set_option maxRecDepth 100000 in
set_option maxHeartbeats 1000000 in
theorem awake_any (w : World) : Calls Try.prog 21 #[] w fun e w' => e = .returned (.bool true) ∧ Below w.heap.size w w' := by
  go_enter Try.func21, Try.ntmps21
  go_wp2_with fail
  refine (new_any _).mono ?_
  rintro e w1 ⟨rfl, hg, hb⟩
  have L := Lib.hid (li_new hg hb)
  clear hg hb
  go_wp2_with fail
  refine (enter_new _ _ 0 _ _ _ L.out.gt 1 (by decide) rfl rfl (by decide)).mono ?_
  rintro e w2 ⟨rfl, hg, ht⟩
  have L1 := Lib.hid (L.out.turn hg ht)
  clear hg ht
  go_wp2_with fail
  refine (close_any _ _ _ _ _ _ L1.out.gt).mono ?_
  rintro e w3 ⟨rfl, hg, ht⟩
  have L2 := Lib.hid (L1.out.turnB hg ht)
  clear hg ht
  go_wp2_with fail
  refine (enter_closed _ _ _ _ _ _ L2.out.gt 2 (by decide) rfl).mono ?_
  rintro e w' ⟨rfl, rfl⟩
  go_wp2_with fail
  refine (leave_yes _ _ _ _ _ _ L2.out.gt 1 (by decide) rfl).mono ?_
  rintro e w4 ⟨rfl, hg, ht⟩
  have L3 := Lib.hid (L2.out.turn hg ht)
  clear hg ht
  go_wp2_with fail
  refine (done_any _ _ _ _ _ _ L3.out.gt true rfl).mono ?_
  rintro e w' ⟨rfl, rfl⟩
  go_wp2
  go_ret
  exact ⟨rfl, L3.out.be⟩
end Go.Proofs.Ytmkofjdmjilpiab.Gate
