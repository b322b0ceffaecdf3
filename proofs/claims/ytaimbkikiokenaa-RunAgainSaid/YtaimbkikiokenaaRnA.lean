/- Chains of pairs and of what variables stand for: Len, With, Newest. -/
import Derived.Test.YtaimbkikiokenaaEvB
namespace Go.Proofs.Ytaimbkikiokenaa.Rn
open Go.RowKit Go.Proofs.Ytaimbkikiokenaa
set_option linter.unusedVariables false
theorem wrap1 (n : Nat) (h : n ≤ 9223372036854775806) : IntKind.i64.wrap ((n : Int) + 1) = (n : Int) + 1 := by rw [IntKind.wrap_i64]; omega
/-- A chain: its things' cells, the newest first. -/
def Ch (K : Nat) (w : World) (B : Nat) : Option Addr → List (List Value) → Prop
  | p, [] => p = none
  | p, x :: r => ∃ (b : Nat) (q : Option Addr), p = some ⟨b, 0, none⟩ ∧ b < B ∧ x.length = K ∧ (∀ j u, x[j]? = some u → w.cell? ⟨b, j, none⟩ = some u) ∧ w.cell? ⟨b, K, none⟩ = some (.pointer q) ∧ w.cell? ⟨b, K + 1, none⟩ = some (.int .i64 ((r.length : Int) + 1)) ∧ Ch K w B q r
theorem Ch.below {K : Nat} {w w' : World} {B B' : Nat} (h : Below B w w') (hB : B ≤ B') : ∀ {p : Option Addr} {xs : List (List Value)}, Ch K w B p xs → Ch K w' B' p xs
  | _, [], hl => hl
  | _, _ :: _, ⟨b, q, hp, hb, hk, h0, h1, h2, hr⟩ => ⟨b, q, hp, by omega, hk, fun j u hj => (h.cell (p := ⟨b, j, none⟩) hb).trans (h0 j u hj), (h.cell (p := ⟨b, K, none⟩) hb).trans h1, (h.cell (p := ⟨b, K + 1, none⟩) hb).trans h2, Ch.below h hB hr⟩
theorem plen_any (p : Option Addr) (xs : List (List Value)) (B : Nat) (w : World) (h : Ch 2 w B p xs) :
    Calls Try.prog 100 #[.pointer p] w fun e w' => e = .returned (.int .i64 xs.length) ∧ w = w' := by
  cases xs with
  | nil =>
    obtain rfl : p = none := h
    go_enter Try.func100, Try.ntmps100
    go_wp2
    go_ret
    exact ⟨rfl, rfl⟩
  | cons x r =>
    obtain ⟨b, q, rfl, hb, hk, h0, h1, h2, hr⟩ := h
    replace h2 : w.cell? ⟨b, 3, none⟩ = some (.int .i64 ((r.length : Int) + 1)) := h2
    clear hr h0 h1
    go_enter Try.func100, Try.ntmps100
    go_wp2
    go_ret
    exact ⟨ret_int (by simp), rfl⟩
theorem blen_any (p : Option Addr) (xs : List (List Value)) (B : Nat) (w : World) (h : Ch 6 w B p xs) :
    Calls Try.prog 105 #[.pointer p] w fun e w' => e = .returned (.int .i64 xs.length) ∧ w = w' := by
  cases xs with
  | nil =>
    obtain rfl : p = none := h
    go_enter Try.func105, Try.ntmps105
    go_wp2
    go_ret
    exact ⟨rfl, rfl⟩
  | cons x r =>
    obtain ⟨b, q, rfl, hb, hk, h0, h1, h2, hr⟩ := h
    replace h2 : w.cell? ⟨b, 7, none⟩ = some (.int .i64 ((r.length : Int) + 1)) := h2
    clear hr h0 h1
    go_enter Try.func105, Try.ntmps105
    go_wp2
    go_ret
    exact ⟨ret_int (by simp), rfl⟩
/-- What a call of With leaves: a new thing in front. -/
structure PWith (K : Nat) (w w' : World) (p : Option Addr) (x : List Value) (m : Nat) (b : Nat) : Prop where
  row : ∃ t, Row w' b t (x ++ [Value.pointer p, Value.int .i64 ((m : Int) + 1)]).toArray
  ge : w.heap.size ≤ b
  be : Below w.heap.size w w'
def PWithE (K : Nat) (w : World) (p : Option Addr) (x : List Value) (m : Nat) (e : Ending) (w' : World) : Prop := ∃ b, e = .returned (.pointer (some ⟨b, 0, none⟩)) ∧ PWith K w w' p x m b
theorem pwith_any (p : Option Addr) (xs : List (List Value)) (x y : Int) (B : Nat) (w : World) (h : Ch 2 w B p xs) (hB : B ≤ w.heap.size) (hl : xs.length ≤ 9223372036854775806) :
    Calls Try.prog 75 #[.pointer p, .agg #[.int .i64 x, .int .i64 y]] w (PWithE 2 w p [.int .i64 x, .int .i64 y] xs.length) := by
  have H := Lib.hid h
  have H1 : Hid (Ch 2 (w.alloc (.cells #[.int .i64 x, .int .i64 y] 68)).drew B p xs) := h.below ((Below.refl _ w).alloc hB _).drew (Nat.le_refl _)
  clear h
  go_enter Try.func75, Try.ntmps75
  go_wp2
  go_region_with (go_at_call 100; refine (plen_any p xs B _ H1.out).mono ?_; rintro e w' ⟨rfl, rfl⟩)
  all_goals
    go_wp2
    go_ret
    have hw : Value.int .i64 (IntKind.i64.wrap ((xs.length : Int) + 1)) = .int .i64 ((xs.length : Int) + 1) := by rw [wrap1 _ (by omega)]
    refine ⟨_, rfl, ⟨⟨164, ?_⟩, by simp, (((Below.refl _ w).alloc (Nat.le_refl _) _).alloc (by simp) _).drew⟩⟩
    rw [← hw]
    have hm := (Row.made (w.alloc (.cells #[.int .i64 x, .int .i64 y] 68)) 164 #[.int .i64 x, .int .i64 y, .pointer p, .int .i64 (IntKind.i64.wrap ((xs.length : Int) + 1))]).drew
    simpa using hm
theorem bwith_any (p : Option Addr) (xs : List (List Value)) (s s1 s2 : ByteArray) (t q : Int) (v : Value) (B : Nat) (w : World) (h : Ch 6 w B p xs) (hB : B ≤ w.heap.size) (hl : xs.length ≤ 9223372036854775806) (A : Option Addr) (n c : Nat) (hv : v = .slice A n c) :
    Calls Try.prog 73 #[.pointer p, .agg #[.string s, .string s1, .string s2, .int .i64 t, .int .i64 q, v]] w (PWithE 6 w p [.string s, .string s1, .string s2, .int .i64 t, .int .i64 q, v] xs.length) := by
  have H := Lib.hid h
  subst hv
  have H1 : Hid (Ch 6 (w.alloc (.cells #[.string s, .string s1, .string s2, .int .i64 t, .int .i64 q, .slice A n c] 124)).drew B p xs) := h.below ((Below.refl _ w).alloc hB _).drew (Nat.le_refl _)
  clear h
  go_enter Try.func73, Try.ntmps73
  go_wp2
  go_region_with (go_at_call 105; refine (blen_any p xs B _ H1.out).mono ?_; rintro e w' ⟨rfl, rfl⟩)
  all_goals
    go_wp2
    go_ret
    have hw : Value.int .i64 (IntKind.i64.wrap ((xs.length : Int) + 1)) = .int .i64 ((xs.length : Int) + 1) := by rw [wrap1 _ (by omega)]
    refine ⟨_, rfl, ⟨⟨161, ?_⟩, by simp, (((Below.refl _ w).alloc (Nat.le_refl _) _).alloc (by simp) _).drew⟩⟩
    rw [← hw]
    have hm := (Row.made (w.alloc (.cells #[.string s, .string s1, .string s2, .int .i64 t, .int .i64 q, .slice A n c] 124)) 161 #[.string s, .string s1, .string s2, .int .i64 t, .int .i64 q, .slice A n c, .pointer p, .int .i64 (IntKind.i64.wrap ((xs.length : Int) + 1))]).drew
    simpa using hm
/-- One thing more. -/
theorem PWith.ch {K m : Nat} {w w' : World} {p : Option Addr} {xs : List (List Value)} {x : List Value} {b B : Nat} (g : PWith K w w' p x m b) (hm : xs.length = m) (h : Ch K w B p xs) (hB : B ≤ w.heap.size) (hx : x.length = K) :
    Ch K w' w'.heap.size (some ⟨b, 0, none⟩) (x :: xs) := by
  obtain ⟨t, hr⟩ := g.row
  subst hm
  refine ⟨b, p, rfl, hr.lt, hx, fun j u hj => ?_, ?_, ?_, h.below (g.be.mono hB) (by have := g.be.size; omega)⟩
  · refine hr.is j ?_
    rw [List.getElem?_toArray, List.getElem?_append_left ((List.getElem?_eq_some_iff.1 hj).1)]
    exact hj
  · refine hr.is K ?_
    simp [← hx]
  · refine hr.is (K + 1) ?_
    simp [← hx]
theorem pnewest_yes (p : Option Addr) (x y : Int) (r : List (List Value)) (B : Nat) (w : World) (h : Ch 2 w B p ([.int .i64 x, .int .i64 y] :: r)) (hB : B ≤ w.heap.size) :
    Calls Try.prog 101 #[.pointer p] w fun e w' => e = .returned (.tuple #[.agg #[.int .i64 x, .int .i64 y], .bool true]) ∧ Below w.heap.size w w' := by
  have hb1 : Below w.heap.size w (w.alloc (.cells #[.int .i64 0, .int .i64 0] 68)) := (Below.refl _ w).alloc (Nat.le_refl _) _
  have H1 : Hid (Ch 2 (w.alloc (.cells #[.int .i64 0, .int .i64 0] 68)) B p ([.int .i64 x, .int .i64 y] :: r)) := h.below (hb1.mono hB) (Nat.le_refl _)
  have HB1 := Lib.hid hb1
  obtain ⟨b, q, rfl, hb, hk, h0, h1, h2, hr⟩ := h
  have c0 : (w.alloc (.cells #[.int .i64 0, .int .i64 0] 68)).cell? ⟨b, 0, none⟩ = some (.int .i64 x) := (hb1.cell (p := ⟨b, 0, none⟩) (show b < w.heap.size by omega)).trans (h0 0 _ rfl)
  have c1 : (w.alloc (.cells #[.int .i64 0, .int .i64 0] 68)).cell? ⟨b, 1, none⟩ = some (.int .i64 y) := (hb1.cell (p := ⟨b, 1, none⟩) (show b < w.heap.size by omega)).trans (h0 1 _ rfl)
  have hz : ((([Value.int .i64 x, .int .i64 y] :: r).length : Int) == 0) = false := by rw [beq_eq_false_iff_ne]; simp; omega
  have hz' : ((r.length : Int) + 1 == 0) = false := by rw [beq_eq_false_iff_ne]; omega
  have HR : Hid (Row (w.alloc (.cells #[.int .i64 0, .int .i64 0] 68)) w.heap.size 68 #[.int .i64 0, .int .i64 0]) := Row.made _ _ _
  have f0 := HR.out.free 0
  have f1 := HR.out.free 1
  have g0 : (w.alloc (.cells #[.int .i64 0, .int .i64 0] 68)).cell? ⟨w.heap.size, 0, none⟩ = some (.int .i64 0) := HR.out.is 0 rfl
  have g1 : (w.alloc (.cells #[.int .i64 0, .int .i64 0] 68)).cell? ⟨w.heap.size, 1, none⟩ = some (.int .i64 0) := HR.out.is 1 rfl
  clear h0 h1 h2 hr hk hb1
  go_enter Try.func101, Try.ntmps101
  go_wp2_with (go_at_call 100; refine (plen_any _ _ B _ H1.out).mono ?_; rintro e w' ⟨rfl, rfl⟩)
  exact bodyPost_ret (v := .tuple #[.agg #[.int .i64 x, .int .i64 y], .bool true]) (by simp [results, Try.results101, go_sem]; try rfl) rfl ⟨rfl, (Below.refl _ w).alloc (Nat.le_refl _) _⟩
theorem pnewest_no (w : World) :
    Calls Try.prog 101 #[.pointer none] w fun e w' => e = .returned (.tuple #[.agg #[.int .i64 0, .int .i64 0], .bool false]) ∧ Below w.heap.size w w' := by
  go_enter Try.func101, Try.ntmps101
  go_wp2_with (go_at_call 100; refine (plen_any none [] 0 _ rfl).mono ?_; rintro e w' ⟨rfl, rfl⟩)
  exact bodyPost_ret (v := .tuple #[.agg #[.int .i64 0, .int .i64 0], .bool false]) (by simp [results, Try.results101, go_sem]; try rfl) rfl ⟨rfl, ((Below.refl _ w).alloc (Nat.le_refl _) _).alloc (by simp) _⟩
end Go.Proofs.Ytaimbkikiokenaa.Rn
