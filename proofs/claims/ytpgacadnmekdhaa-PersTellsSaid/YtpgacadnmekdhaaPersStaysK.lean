/- The walk of the law PersStays. -/
import Derived.Test.YtpgacadnmekdhaaPersD
import Derived.Test.YtpgacadnmekdhaaApp
import Derived.Test.YtpgacadnmekdhaaOpen
import Derived.Deep.RegionLaw
import Derived.Deep.DeepCutAuto
import Derived.Deep.CutBlock
namespace Go.Proofs.Ytpgacadnmekdhaa.Pers
open Go.RowKit Go.Proofs.Ytpgacadnmekdhaa
set_option linter.unusedVariables false

theorem Lies.less {w : World} {B : Nat} {A : Option Addr} {n m : Nat} {v : Nat → Value} (h : Lies w B A n v) (hm : m ≤ n) : Lies w B A m v := fun k hk => h k (by omega)
theorem Lies.wide {w : World} {B B' : Nat} {A : Option Addr} {n : Nat} {v : Nat → Value} (h : Lies w B A n v) (hB : B ≤ B') : Lies w B' A n v := fun k hk => by
  obtain ⟨g, o, e, hg, hc⟩ := h k hk
  exact ⟨g, o, e, by omega, hc⟩
/-- A chain onto which some things more were put. -/
def More (w0 : World) (f1 : Nat → Int) (m1 : Nat) (xs : List Int) (v : Value) (w : World) : Prop := ∃ p, v = .pointer p ∧ Ch w w.heap.size p (revN f1 m1 ++ xs) ∧ Below w0.heap.size w0 w
/-- What two appends leave. -/
def Want (w0 : World) (f f1 : Nat → Int) (m m1 : Nat) (v : Value) (w : World) : Prop :=
  ∃ ob, Seg w 3 1 v (m + m1) ((List.range m).map (fun k => .int .i64 (f k)) ++ (List.range m1).map (fun k => .int .i64 (f1 k))) ob ∧ Below w0.heap.size w0 w
theorem seg_none (w : World) (e : TypeId) (A : Option Addr) : Seg w e 1 (.slice A 0 0) 0 [] none := ⟨by simp, _, 0, rfl, Nat.le_refl _, by unfold maxLen; omega, .inl ⟨rfl, rfl, fun _ => trivial⟩⟩
theorem below_turn {B : Nat} {w0 w w' : World} (h : Below B w0 w) (t : Turns w w' (fun k => (none : Option Nat) = some k)) (hB : B ≤ w.heap.size := by simp) : Below B w0 w' := t.below h hB (fun _ _ e => by cases e)
theorem below_two {w0 W w1 w2 : World} {ob1 : Option Nat} (h0 : Below w0.heap.size w0 W) (hB : w0.heap.size ≤ W.heap.size) (ht1 : Turns W w1 (fun k => (none : Option Nat) = some k)) (ho1 : ob1 = none ∨ ∃ g, ob1 = some g ∧ W.heap.size ≤ g)
    (ht2 : Turns w1 w2 (fun k => ob1 = some k)) : Below w0.heap.size w0 w2 :=
  ht2.below (ht1.below h0 hB (fun _ _ e => by cases e)) (Nat.le_trans hB ht1.size) (fun k hk e => by
    rcases ho1 with h | ⟨g, h, hg⟩
    · rw [h] at e; cases e
    · rw [h] at e; cases e; omega)
/-- What the list holds that two appends made. -/
def two (f f1 : Nat → Int) (m : Nat) (k : Nat) : Int := if k < m then f k else f1 (k - m)
theorem two_list (f f1 : Nat → Int) (m m1 : Nat) : (List.range m).map (fun k => Value.int .i64 (f k)) ++ (List.range m1).map (fun k => Value.int .i64 (f1 k)) = ((List.range (m + m1)).map (two f f1 m)).map (Value.int .i64) := by
  apply List.ext_getElem
  · simp
  · intro i h1 h2
    simp only [List.getElem_map, List.getElem_range, two]
    by_cases h : i < m
    · rw [List.getElem_append_left (by simp; omega), if_pos h]; simp
    · rw [List.getElem_append_right (by simp; omega), if_neg h]; simp
theorem lies_segN {w : World} {v : Value} {f f1 : Nat → Int} {m m1 : Nat} {ob : Option Nat} (h : Seg w 3 1 v (m + m1) ((List.range m).map (fun k => .int .i64 (f k)) ++ (List.range m1).map (fun k => .int .i64 (f1 k))) ob) :
    ∃ A c, v = .slice A (m + m1) c ∧ Lies w w.heap.size A (m + m1) (fun k => .int .i64 (two f f1 m k)) := by
  rw [two_list] at h
  obtain ⟨A, c, hv, hl⟩ := lies_seg h
  refine ⟨A, c, hv, fun k hk => ?_⟩
  obtain ⟨g, o, e1, e2, e3⟩ := hl k hk
  refine ⟨g, o, e1, e2, ?_⟩
  rw [e3]
  simp [hk]
theorem below_drewN {B : Nat} {w0 w : World} (h : Below B w0 w) (n : Nat) : Below B w0 (w.drewN n) := ⟨h.os, h.tape, h.output, h.size, h.block⟩
theorem ch_drewN {w : World} {B : Nat} {p : Option Addr} {xs : List Int} (h : Ch w B p xs) (d : Nat) : Ch (w.drewN d) B p xs := h.below (below_drewN (Below.refl B w) d) (Nat.le_refl _)
theorem revN_rev (f : Nat → Int) : ∀ m, (revN f m).reverse = (List.range m).map f
  | 0 => rfl
  | m + 1 => by rw [revN, List.reverse_cons, revN_rev f m, List.range_succ, List.map_append]; rfl
theorem revN_two (f f1 : Nat → Int) (m m1 : Nat) : (revN f1 m1 ++ revN f m).reverse = (List.range (m + m1)).map (two f f1 m) := by
  rw [List.reverse_append, revN_rev, revN_rev]
  apply List.ext_getElem
  · simp
  · intro i h1 h2
    simp only [List.getElem_map, List.getElem_range, two]
    by_cases h : i < m
    · rw [List.getElem_append_left (by simp; omega), if_pos h]; simp
    · rw [List.getElem_append_right (by simp; omega), if_neg h]; simp
theorem list_is (p0 : Option Addr) (xs : List Int) (m : Nat) (g : Nat → Int) (w : World) (hL : Ch w w.heap.size p0 xs) (hx : xs.reverse = (List.range m).map g) (hm : m ≤ 1000000) :
    Calls Try.prog 21 #[.pointer p0] w fun e w' => ∃ A c, e = .returned (.slice A m c) ∧ Lies w' w'.heap.size A m (fun k => .int .i64 (g k)) ∧ Below w.heap.size w w' := by
  have hlen : xs.length = m := by rw [← List.length_reverse, hx]; simp
  refine (list_any p0 xs w hL (by omega)).mono ?_
  rintro e w' ⟨v, ob, rfl, hs, hb, _⟩
  rw [hx, hlen] at hs
  obtain ⟨A, c, rfl, hl⟩ := lies_seg hs
  refine ⟨A, c, rfl, fun k hk => ?_, hb⟩
  obtain ⟨g', o, e1, e2, e3⟩ := hl k hk
  refine ⟨g', o, e1, e2, ?_⟩
  rw [e3]
  simp [hk]
theorem len_is (p : Option Addr) (xs : List Int) (n : Int) (B : Nat) (w : World) (h : Ch w B p xs) (hn : (xs.length : Int) = n) :
    Calls Try.prog 22 #[.pointer p] w fun e w' => e = .returned (.int .i64 n) ∧ w = w' :=
  (len_any p xs B w h).mono fun _ _ ⟨h1, h2⟩ => ⟨h1.trans (by rw [hn]), h2⟩
end Go.Proofs.Ytpgacadnmekdhaa.Pers
