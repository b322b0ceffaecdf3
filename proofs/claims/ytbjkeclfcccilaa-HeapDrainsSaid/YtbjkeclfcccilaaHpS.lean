/- awake of layer 5; what is nil; All of nil. -/
import Derived.Test.YtbjkeclfcccilaaHpO
import Derived.Test.YtbjkeclfcccilaaHpP
namespace Go.Proofs.Ytbjkeclfcccilaa.Hp
open Go.RowKit Go.Proofs.Ytbjkeclfcccilaa Go.Proofs.Ytbjkeclfcccilaa.Mut
set_option linter.unusedVariables false
set_option maxRecDepth 100000
theorem push_nil (x : St) (w : World) : Calls Try.prog 5 #[.pointer none, .agg #[.int .i64 x.t, .int .i64 x.q, .int .i64 x.a]] w fun e w' => e = .returned (.bool false) ∧ Below w.heap.size w w' := by
  go_enter Try.func5, Try.ntmps5
  go_wp2
  go_ret
  exact ⟨rfl, by go_grown⟩
theorem all_nil (w : World) : Calls Try.prog 10 #[.pointer none] w fun e w' => e = .returned (.slice none 0 0) ∧ w = w' := by
  go_enter Try.func10, Try.ntmps10
  go_wp2
  go_ret
  exact ⟨rfl, rfl⟩
def s3 : St := ⟨3, 0, 0⟩
def s1 : St := ⟨1, 0, 0⟩
theorem aw1 : rise ([] ++ [s3]) ([] : List St).length = [s3] := by unfold rise; rfl
theorem aw2 : rise ([s3] ++ [s1]) [s3].length = [s1, s3] := by
  unfold rise
  rw [dif_pos (by decide), if_pos (by decide)]
  unfold rise
  rfl
theorem aw3 : (drop1 [s1, s3]).length = 1 := drop1_len _
theorem zero_hm (w : World) : Hm (w.alloc (.cells #[.slice none 0 0] 26)) w.heap.size (.slice none 0 0) none [] := ⟨Row.made w _ _, Seg.nil _ _ _⟩
/-- The blocks of a heap that a call has made lie behind what there was. -/
structure Fresh (w wx : World) (b : Nat) (v : Value) (ob : Option Nat) (xs : List St) : Prop where
  hm : Hm wx b v ob xs
  b1 : w.heap.size ≤ b
  o1 : ∀ g, ob = some g → w.heap.size ≤ g
  be : Below w.heap.size w wx
theorem Fresh.turn {w wx wy : World} {b : Nat} {v v' : Value} {ob ob' : Option Nat} {xs ys : List St} (h : Fresh w wx b v ob xs) (p : Pz wx wy b ob v' ob' ys) : Fresh w wy b v' ob' ys :=
  ⟨p.hm, h.b1, fun g e => by
    rcases p.nb with h1 | ⟨g', h1, h2⟩
    · exact h.o1 g (by rw [← h1]; exact e)
    · rw [h1] at e; injection e with e; subst e; have := h.be.size; omega, p.tr.below h.be h.be.size (fun k hk e => by rcases e with e | e; have := h.b1; omega; have := h.o1 k e; omega)⟩
theorem Fresh.drop {w wx wy : World} {b : Nat} {v v' : Value} {ob : Option Nat} {xs ys : List St} (h : Fresh w wx b v ob xs) (p : Dz wx wy b ob v' ys) : Fresh w wy b v' ob ys :=
  ⟨p.hm, h.b1, h.o1, p.tr.below h.be h.be.size (fun k hk e => by rcases e with e | e; have := h.b1; omega; have := h.o1 k e; omega)⟩
theorem Fresh.call {w wx wy : World} {b : Nat} {v : Value} {ob : Option Nat} {xs : List St} (h : Fresh w wx b v ob xs) (hb : Below wx.heap.size wx wy) : Fresh w wy b v ob xs := ⟨h.hm.call hb, h.b1, h.o1, h.be.trans (hb.mono h.be.size)⟩
set_option maxHeartbeats 2000000 in
theorem awake_any (w : World) : Calls Try.prog 4 #[] w fun e w' => e = .returned (.bool true) ∧ Below w.heap.size w w' := by
  have H0 : Hid (Fresh w (w.alloc (.cells #[.slice none 0 0] 26)) w.heap.size (.slice none 0 0) none []) := Lib.hid ⟨zero_hm w, Nat.le_refl _, (fun _ e => by cases e), (Below.refl _ w).alloc (Nat.le_refl _) _⟩
  go_enter Try.func4, Try.ntmps4
  go_wp2_with fail
  refine (push_any w.heap.size _ _ [] s3 _ H0.out.hm (by decide)).mono ?_
  rintro e w1 ⟨rfl, v1, o1, hp1⟩
  rw [aw1] at hp1
  have H1 := Lib.hid (H0.out.turn hp1)
  clear hp1
  go_wp2_with fail
  refine (push_any w.heap.size _ _ [s3] s1 _ H1.out.hm (by decide)).mono ?_
  rintro e w2 ⟨rfl, v2, o2, hp2⟩
  rw [aw2] at hp2
  have H2 := Lib.hid (H1.out.turn hp2)
  clear hp2
  go_wp2_with fail
  refine (pop_yes w.heap.size _ _ [s1, s3] _ H2.out.hm (by decide) (by decide)).mono ?_
  rintro e w3 ⟨rfl, v3, hd3⟩
  have H3 := Lib.hid (H2.out.drop hd3)
  clear hd3
  have e1 : (gt [s1, s3] 0).t = 1 := rfl
  have e2 : (gt [s1, s3] 0).q = 0 := rfl
  have e3 : (gt [s1, s3] 0).a = 0 := rfl
  rw [e1, e2, e3]
  clear e1 e2 e3
  have H4 := Lib.hid (H3.out.call ((Below.refl _ w3).alloc (Nat.le_refl _) (.cells #[.int .i64 1, .int .i64 0, .int .i64 0] 28)))
  go_wp2_with fail
  have hl := len_any w.heap.size v3 o2 (drop1 [s1, s3]) _ H4.out.hm
  rw [aw3] at hl
  refine hl.mono ?_
  rintro e w' ⟨rfl, rfl⟩
  clear hl
  go_wp2
  go_ret
  exact ⟨rfl, H4.out.be⟩
end Go.Proofs.Ytbjkeclfcccilaa.Hp
