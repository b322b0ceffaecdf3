/- A book notes what happened. -/
import Derived.Test.YtaimbkikiokenaaHiF
namespace Go.Proofs.Ytaimbkikiokenaa.Hi
open Go.RowKit Go.Proofs.Ytaimbkikiokenaa Go.Maps
set_option linter.unusedVariables false
set_option maxRecDepth 100000
/-- What happened: a call begins, is done, tells. -/
structure Hv where
  k : Int
  c : Int
  n : Int
  err : Int
  tick : Int
def aheadB (xs : List Sp) (c n : Int) : Bool := match fnd xs c n with
  | some j => match xs[j]? with
    | some x => decide (0 ≤ x.reply)
    | none => false
  | none => false
def noteS (xs : List Sp) (at' : Int) (e : Hv) : Option (List Sp) :=
  if e.k = 1 then
    (if fnd xs e.c e.n = none ∧ 0 ≤ e.n ∧ (e.n = 0 ∨ aheadB xs e.c (e.n - 1) = true) then some (xs ++ [nsp e.c e.n at']) else none)
  else if e.k = 2 then
    match fnd xs e.c e.n with
    | some j => match xs[j]? with
      | some x => if x.turn < 0 ∧ x.reply < 0 then some (xs.set j { x with turn := at', err := e.err, tick := e.tick }) else none
      | none => none
    | none => none
  else if e.k = 3 then
    match fnd xs e.c e.n with
    | some j => match xs[j]? with
      | some x => if x.reply < 0 ∧ (x.turn < 0 ∨ (x.err = e.err ∧ x.tick = e.tick)) then some (xs.set j { x with reply := at', err := e.err, tick := e.tick }) else none
      | none => none
    | none => none
  else none
/-- How noting ends. -/
def Noted (w0 : World) (b mb : Nat) (r : Option (List Sp)) (en : Ending) (w' : World) : Prop :=
  (∃ ys, r = some ys ∧ en = .returned (.bool true) ∧ ∃ v' ob' D', Bk w0 w' b mb v' ob' D' ys) ∨ (r = none ∧ en = .returned (.bool false) ∧ Below w0.heap.size w0 w')
section
variable {w0 w : World} {b mb : Nat} {v : Value} {ob : Option Nat} {D : DataW Unit} {xs : List Sp} (h : Bk w0 w b mb v ob D xs) (at' c n err tick : Int) (hc : I64 c) (hn : I64 n)
include h hc hn
theorem note_again {j : Nat} (hf : fnd xs c n = some j) {x : Sp} (hx : xs[j]? = some x) :
    Calls Try.prog 87 #[.pointer (some ⟨b, 0, none⟩), .int .i64 at', (.agg #[.int .i64 1, .int .i64 c, .int .i64 n, .int .i64 err, .int .i64 tick, .int .i64 0, .int .i64 0, .int .i64 0, .int .i64 0, .int .i64 0, .int .i64 0])] w fun en w' => Noted w0 b mb (noteS xs at' ⟨1, c, n, err, tick⟩) en w' := by
  have HX : Hid (Row (w.alloc (.cells #[.int .i64 1, .int .i64 c, .int .i64 n, .int .i64 err, .int .i64 tick, .int .i64 0, .int .i64 0, .int .i64 0, .int .i64 0, .int .i64 0, .int .i64 0] 144)) w.heap.size 144 #[.int .i64 1, .int .i64 c, .int .i64 n, .int .i64 err, .int .i64 tick, .int .i64 0, .int .i64 0, .int .i64 0, .int .i64 0, .int .i64 0, .int .i64 0]) := Row.made _ _ _
  have HB := Lib.hid (h.alloc (.cells #[.int .i64 1, .int .i64 c, .int .i64 n, .int .i64 err, .int .i64 tick, .int .i64 0, .int .i64 0, .int .i64 0, .int .i64 0, .int .i64 0, .int .i64 0] 144))
  have hspec : noteS xs at' ⟨1, c, n, err, tick⟩ = none := by
    unfold noteS
    dsimp only
    rw [if_pos rfl, hf, if_neg (by simp)]
  obtain ⟨g, o, cap, rfl, hob, hg, h1, h2, hcl, hfz⟩ := h.at hx
  clear h hcl hfz
  go_enter Try.func87, Try.ntmps87
  go_wp2_with fail
  refine (span_yes HB.out c n hc hn hf).mono ?_
  rintro en W1 ⟨rfl, hb1⟩
  have hX1 := HX.out.below hb1 HX.out.lt
  have HB1 := Lib.hid (HB.out.call hb1)
  have x0 : W1.cell? ⟨w.heap.size, 0, none⟩ = some (.int .i64 1) := (hX1.cell 0).trans rfl
  have x1 : W1.cell? ⟨w.heap.size, 1, none⟩ = some (.int .i64 c) := (hX1.cell 1).trans rfl
  have x2 : W1.cell? ⟨w.heap.size, 2, none⟩ = some (.int .i64 n) := (hX1.cell 2).trans rfl
  have x3 : W1.cell? ⟨w.heap.size, 3, none⟩ = some (.int .i64 err) := (hX1.cell 3).trans rfl
  have x4 : W1.cell? ⟨w.heap.size, 4, none⟩ = some (.int .i64 tick) := (hX1.cell 4).trans rfl
  have x5 : W1.cell? ⟨w.heap.size, 5, none⟩ = some (.int .i64 0) := (hX1.cell 5).trans rfl
  have x6 : W1.cell? ⟨w.heap.size, 6, none⟩ = some (.int .i64 0) := (hX1.cell 6).trans rfl
  have x7 : W1.cell? ⟨w.heap.size, 7, none⟩ = some (.int .i64 0) := (hX1.cell 7).trans rfl
  have x8 : W1.cell? ⟨w.heap.size, 8, none⟩ = some (.int .i64 0) := (hX1.cell 8).trans rfl
  have x9 : W1.cell? ⟨w.heap.size, 9, none⟩ = some (.int .i64 0) := (hX1.cell 9).trans rfl
  have x10 : W1.cell? ⟨w.heap.size, 10, none⟩ = some (.int .i64 0) := (hX1.cell 10).trans rfl
  clear hb1 hX1 HB HX
  go_wp2
  go_ret
  exact .inr ⟨hspec, rfl, HB1.out.be⟩
theorem note_none2 (hf : fnd xs c n = none) :
    Calls Try.prog 87 #[.pointer (some ⟨b, 0, none⟩), .int .i64 at', (.agg #[.int .i64 2, .int .i64 c, .int .i64 n, .int .i64 err, .int .i64 tick, .int .i64 0, .int .i64 0, .int .i64 0, .int .i64 0, .int .i64 0, .int .i64 0])] w fun en w' => Noted w0 b mb (noteS xs at' ⟨2, c, n, err, tick⟩) en w' := by
  have HX : Hid (Row (w.alloc (.cells #[.int .i64 2, .int .i64 c, .int .i64 n, .int .i64 err, .int .i64 tick, .int .i64 0, .int .i64 0, .int .i64 0, .int .i64 0, .int .i64 0, .int .i64 0] 144)) w.heap.size 144 #[.int .i64 2, .int .i64 c, .int .i64 n, .int .i64 err, .int .i64 tick, .int .i64 0, .int .i64 0, .int .i64 0, .int .i64 0, .int .i64 0, .int .i64 0]) := Row.made _ _ _
  have HB := Lib.hid (h.alloc (.cells #[.int .i64 2, .int .i64 c, .int .i64 n, .int .i64 err, .int .i64 tick, .int .i64 0, .int .i64 0, .int .i64 0, .int .i64 0, .int .i64 0, .int .i64 0] 144))
  have hspec : noteS xs at' ⟨2, c, n, err, tick⟩ = none := by
    unfold noteS
    dsimp only
    rw [if_neg (by decide), if_pos rfl, hf]
  clear h
  go_enter Try.func87, Try.ntmps87
  go_wp2_with fail
  refine (span_no HB.out c n hc hn hf).mono ?_
  rintro en W1 ⟨rfl, hb1⟩
  have hX1 := HX.out.below hb1 HX.out.lt
  have HB1 := Lib.hid (HB.out.call hb1)
  have x0 : W1.cell? ⟨w.heap.size, 0, none⟩ = some (.int .i64 2) := (hX1.cell 0).trans rfl
  have x1 : W1.cell? ⟨w.heap.size, 1, none⟩ = some (.int .i64 c) := (hX1.cell 1).trans rfl
  have x2 : W1.cell? ⟨w.heap.size, 2, none⟩ = some (.int .i64 n) := (hX1.cell 2).trans rfl
  have x3 : W1.cell? ⟨w.heap.size, 3, none⟩ = some (.int .i64 err) := (hX1.cell 3).trans rfl
  have x4 : W1.cell? ⟨w.heap.size, 4, none⟩ = some (.int .i64 tick) := (hX1.cell 4).trans rfl
  have x5 : W1.cell? ⟨w.heap.size, 5, none⟩ = some (.int .i64 0) := (hX1.cell 5).trans rfl
  have x6 : W1.cell? ⟨w.heap.size, 6, none⟩ = some (.int .i64 0) := (hX1.cell 6).trans rfl
  have x7 : W1.cell? ⟨w.heap.size, 7, none⟩ = some (.int .i64 0) := (hX1.cell 7).trans rfl
  have x8 : W1.cell? ⟨w.heap.size, 8, none⟩ = some (.int .i64 0) := (hX1.cell 8).trans rfl
  have x9 : W1.cell? ⟨w.heap.size, 9, none⟩ = some (.int .i64 0) := (hX1.cell 9).trans rfl
  have x10 : W1.cell? ⟨w.heap.size, 10, none⟩ = some (.int .i64 0) := (hX1.cell 10).trans rfl
  clear hb1 hX1 HB HX
  go_wp2
  go_ret
  exact .inr ⟨hspec, rfl, HB1.out.be⟩
theorem note_none3 (hf : fnd xs c n = none) :
    Calls Try.prog 87 #[.pointer (some ⟨b, 0, none⟩), .int .i64 at', (.agg #[.int .i64 3, .int .i64 c, .int .i64 n, .int .i64 err, .int .i64 tick, .int .i64 0, .int .i64 0, .int .i64 0, .int .i64 0, .int .i64 0, .int .i64 0])] w fun en w' => Noted w0 b mb (noteS xs at' ⟨3, c, n, err, tick⟩) en w' := by
  have HX : Hid (Row (w.alloc (.cells #[.int .i64 3, .int .i64 c, .int .i64 n, .int .i64 err, .int .i64 tick, .int .i64 0, .int .i64 0, .int .i64 0, .int .i64 0, .int .i64 0, .int .i64 0] 144)) w.heap.size 144 #[.int .i64 3, .int .i64 c, .int .i64 n, .int .i64 err, .int .i64 tick, .int .i64 0, .int .i64 0, .int .i64 0, .int .i64 0, .int .i64 0, .int .i64 0]) := Row.made _ _ _
  have HB := Lib.hid (h.alloc (.cells #[.int .i64 3, .int .i64 c, .int .i64 n, .int .i64 err, .int .i64 tick, .int .i64 0, .int .i64 0, .int .i64 0, .int .i64 0, .int .i64 0, .int .i64 0] 144))
  have hspec : noteS xs at' ⟨3, c, n, err, tick⟩ = none := by
    unfold noteS
    dsimp only
    rw [if_neg (by decide), if_neg (by decide), if_pos rfl, hf]
  clear h
  go_enter Try.func87, Try.ntmps87
  go_wp2_with fail
  refine (span_no HB.out c n hc hn hf).mono ?_
  rintro en W1 ⟨rfl, hb1⟩
  have hX1 := HX.out.below hb1 HX.out.lt
  have HB1 := Lib.hid (HB.out.call hb1)
  have x0 : W1.cell? ⟨w.heap.size, 0, none⟩ = some (.int .i64 3) := (hX1.cell 0).trans rfl
  have x1 : W1.cell? ⟨w.heap.size, 1, none⟩ = some (.int .i64 c) := (hX1.cell 1).trans rfl
  have x2 : W1.cell? ⟨w.heap.size, 2, none⟩ = some (.int .i64 n) := (hX1.cell 2).trans rfl
  have x3 : W1.cell? ⟨w.heap.size, 3, none⟩ = some (.int .i64 err) := (hX1.cell 3).trans rfl
  have x4 : W1.cell? ⟨w.heap.size, 4, none⟩ = some (.int .i64 tick) := (hX1.cell 4).trans rfl
  have x5 : W1.cell? ⟨w.heap.size, 5, none⟩ = some (.int .i64 0) := (hX1.cell 5).trans rfl
  have x6 : W1.cell? ⟨w.heap.size, 6, none⟩ = some (.int .i64 0) := (hX1.cell 6).trans rfl
  have x7 : W1.cell? ⟨w.heap.size, 7, none⟩ = some (.int .i64 0) := (hX1.cell 7).trans rfl
  have x8 : W1.cell? ⟨w.heap.size, 8, none⟩ = some (.int .i64 0) := (hX1.cell 8).trans rfl
  have x9 : W1.cell? ⟨w.heap.size, 9, none⟩ = some (.int .i64 0) := (hX1.cell 9).trans rfl
  have x10 : W1.cell? ⟨w.heap.size, 10, none⟩ = some (.int .i64 0) := (hX1.cell 10).trans rfl
  clear hb1 hX1 HB HX
  go_wp2
  go_ret
  exact .inr ⟨hspec, rfl, HB1.out.be⟩
theorem note_nonek (k : Int) (hk : k ≠ 1 ∧ k ≠ 2 ∧ k ≠ 3) (hf : fnd xs c n = none) :
    Calls Try.prog 87 #[.pointer (some ⟨b, 0, none⟩), .int .i64 at', (.agg #[.int .i64 k, .int .i64 c, .int .i64 n, .int .i64 err, .int .i64 tick, .int .i64 0, .int .i64 0, .int .i64 0, .int .i64 0, .int .i64 0, .int .i64 0])] w fun en w' => Noted w0 b mb (noteS xs at' ⟨k, c, n, err, tick⟩) en w' := by
  have HX : Hid (Row (w.alloc (.cells #[.int .i64 k, .int .i64 c, .int .i64 n, .int .i64 err, .int .i64 tick, .int .i64 0, .int .i64 0, .int .i64 0, .int .i64 0, .int .i64 0, .int .i64 0] 144)) w.heap.size 144 #[.int .i64 k, .int .i64 c, .int .i64 n, .int .i64 err, .int .i64 tick, .int .i64 0, .int .i64 0, .int .i64 0, .int .i64 0, .int .i64 0, .int .i64 0]) := Row.made _ _ _
  have HB := Lib.hid (h.alloc (.cells #[.int .i64 k, .int .i64 c, .int .i64 n, .int .i64 err, .int .i64 tick, .int .i64 0, .int .i64 0, .int .i64 0, .int .i64 0, .int .i64 0, .int .i64 0] 144))
  have hspec : noteS xs at' ⟨k, c, n, err, tick⟩ = none := by
    unfold noteS
    dsimp only
    rw [if_neg hk.1, if_neg hk.2.1, if_neg hk.2.2]
  have hk1 : (k == 1) = false := by simp [hk.1]
  have hk2 : (k == 2) = false := by simp [hk.2.1]
  have hk3 : (k == 3) = false := by simp [hk.2.2]
  clear h
  go_enter Try.func87, Try.ntmps87
  go_wp2_with fail
  refine (span_no HB.out c n hc hn hf).mono ?_
  rintro en W1 ⟨rfl, hb1⟩
  have hX1 := HX.out.below hb1 HX.out.lt
  have HB1 := Lib.hid (HB.out.call hb1)
  have x0 : W1.cell? ⟨w.heap.size, 0, none⟩ = some (.int .i64 k) := (hX1.cell 0).trans rfl
  have x1 : W1.cell? ⟨w.heap.size, 1, none⟩ = some (.int .i64 c) := (hX1.cell 1).trans rfl
  have x2 : W1.cell? ⟨w.heap.size, 2, none⟩ = some (.int .i64 n) := (hX1.cell 2).trans rfl
  have x3 : W1.cell? ⟨w.heap.size, 3, none⟩ = some (.int .i64 err) := (hX1.cell 3).trans rfl
  have x4 : W1.cell? ⟨w.heap.size, 4, none⟩ = some (.int .i64 tick) := (hX1.cell 4).trans rfl
  have x5 : W1.cell? ⟨w.heap.size, 5, none⟩ = some (.int .i64 0) := (hX1.cell 5).trans rfl
  have x6 : W1.cell? ⟨w.heap.size, 6, none⟩ = some (.int .i64 0) := (hX1.cell 6).trans rfl
  have x7 : W1.cell? ⟨w.heap.size, 7, none⟩ = some (.int .i64 0) := (hX1.cell 7).trans rfl
  have x8 : W1.cell? ⟨w.heap.size, 8, none⟩ = some (.int .i64 0) := (hX1.cell 8).trans rfl
  have x9 : W1.cell? ⟨w.heap.size, 9, none⟩ = some (.int .i64 0) := (hX1.cell 9).trans rfl
  have x10 : W1.cell? ⟨w.heap.size, 10, none⟩ = some (.int .i64 0) := (hX1.cell 10).trans rfl
  clear hb1 hX1 HB HX
  go_wp2
  go_ret
  exact .inr ⟨hspec, rfl, HB1.out.be⟩
theorem note_kind (k : Int) (hk : k ≠ 1 ∧ k ≠ 2 ∧ k ≠ 3) {j : Nat} (hf : fnd xs c n = some j) {x : Sp} (hx : xs[j]? = some x) :
    Calls Try.prog 87 #[.pointer (some ⟨b, 0, none⟩), .int .i64 at', (.agg #[.int .i64 k, .int .i64 c, .int .i64 n, .int .i64 err, .int .i64 tick, .int .i64 0, .int .i64 0, .int .i64 0, .int .i64 0, .int .i64 0, .int .i64 0])] w fun en w' => Noted w0 b mb (noteS xs at' ⟨k, c, n, err, tick⟩) en w' := by
  have HX : Hid (Row (w.alloc (.cells #[.int .i64 k, .int .i64 c, .int .i64 n, .int .i64 err, .int .i64 tick, .int .i64 0, .int .i64 0, .int .i64 0, .int .i64 0, .int .i64 0, .int .i64 0] 144)) w.heap.size 144 #[.int .i64 k, .int .i64 c, .int .i64 n, .int .i64 err, .int .i64 tick, .int .i64 0, .int .i64 0, .int .i64 0, .int .i64 0, .int .i64 0, .int .i64 0]) := Row.made _ _ _
  have HB := Lib.hid (h.alloc (.cells #[.int .i64 k, .int .i64 c, .int .i64 n, .int .i64 err, .int .i64 tick, .int .i64 0, .int .i64 0, .int .i64 0, .int .i64 0, .int .i64 0, .int .i64 0] 144))
  have hspec : noteS xs at' ⟨k, c, n, err, tick⟩ = none := by
    unfold noteS
    dsimp only
    rw [if_neg hk.1, if_neg hk.2.1, if_neg hk.2.2]
  obtain ⟨g, o, cap, rfl, hob, hg, h1, h2, hcl, hfz⟩ := h.at hx
  have hk1 : (k == 1) = false := by simp [hk.1]
  have hk2 : (k == 2) = false := by simp [hk.2.1]
  have hk3 : (k == 3) = false := by simp [hk.2.2]
  clear h hcl hfz
  go_enter Try.func87, Try.ntmps87
  go_wp2_with fail
  refine (span_yes HB.out c n hc hn hf).mono ?_
  rintro en W1 ⟨rfl, hb1⟩
  have hX1 := HX.out.below hb1 HX.out.lt
  have HB1 := Lib.hid (HB.out.call hb1)
  have x0 : W1.cell? ⟨w.heap.size, 0, none⟩ = some (.int .i64 k) := (hX1.cell 0).trans rfl
  have x1 : W1.cell? ⟨w.heap.size, 1, none⟩ = some (.int .i64 c) := (hX1.cell 1).trans rfl
  have x2 : W1.cell? ⟨w.heap.size, 2, none⟩ = some (.int .i64 n) := (hX1.cell 2).trans rfl
  have x3 : W1.cell? ⟨w.heap.size, 3, none⟩ = some (.int .i64 err) := (hX1.cell 3).trans rfl
  have x4 : W1.cell? ⟨w.heap.size, 4, none⟩ = some (.int .i64 tick) := (hX1.cell 4).trans rfl
  have x5 : W1.cell? ⟨w.heap.size, 5, none⟩ = some (.int .i64 0) := (hX1.cell 5).trans rfl
  have x6 : W1.cell? ⟨w.heap.size, 6, none⟩ = some (.int .i64 0) := (hX1.cell 6).trans rfl
  have x7 : W1.cell? ⟨w.heap.size, 7, none⟩ = some (.int .i64 0) := (hX1.cell 7).trans rfl
  have x8 : W1.cell? ⟨w.heap.size, 8, none⟩ = some (.int .i64 0) := (hX1.cell 8).trans rfl
  have x9 : W1.cell? ⟨w.heap.size, 9, none⟩ = some (.int .i64 0) := (hX1.cell 9).trans rfl
  have x10 : W1.cell? ⟨w.heap.size, 10, none⟩ = some (.int .i64 0) := (hX1.cell 10).trans rfl
  clear hb1 hX1 HB HX
  go_wp2
  go_ret
  exact .inr ⟨hspec, rfl, HB1.out.be⟩
theorem note_begin (hf : fnd xs c n = none) (hl : xs.length ≤ 1000) :
    Calls Try.prog 87 #[.pointer (some ⟨b, 0, none⟩), .int .i64 at', (.agg #[.int .i64 1, .int .i64 c, .int .i64 n, .int .i64 err, .int .i64 tick, .int .i64 0, .int .i64 0, .int .i64 0, .int .i64 0, .int .i64 0, .int .i64 0])] w fun en w' => Noted w0 b mb (noteS xs at' ⟨1, c, n, err, tick⟩) en w' := by
  have HX : Hid (Row (w.alloc (.cells #[.int .i64 1, .int .i64 c, .int .i64 n, .int .i64 err, .int .i64 tick, .int .i64 0, .int .i64 0, .int .i64 0, .int .i64 0, .int .i64 0, .int .i64 0] 144)) w.heap.size 144 #[.int .i64 1, .int .i64 c, .int .i64 n, .int .i64 err, .int .i64 tick, .int .i64 0, .int .i64 0, .int .i64 0, .int .i64 0, .int .i64 0, .int .i64 0]) := Row.made _ _ _
  have HB := Lib.hid (h.alloc (.cells #[.int .i64 1, .int .i64 c, .int .i64 n, .int .i64 err, .int .i64 tick, .int .i64 0, .int .i64 0, .int .i64 0, .int .i64 0, .int .i64 0, .int .i64 0] 144))
  clear h
  go_enter Try.func87, Try.ntmps87
  go_wp2_with fail
  refine (span_no HB.out c n hc hn hf).mono ?_
  rintro en W1 ⟨rfl, hb1⟩
  have hX1 := HX.out.below hb1 HX.out.lt
  have HB1 := Lib.hid (HB.out.call hb1)
  have x0 : W1.cell? ⟨w.heap.size, 0, none⟩ = some (.int .i64 1) := (hX1.cell 0).trans rfl
  have x1 : W1.cell? ⟨w.heap.size, 1, none⟩ = some (.int .i64 c) := (hX1.cell 1).trans rfl
  have x2 : W1.cell? ⟨w.heap.size, 2, none⟩ = some (.int .i64 n) := (hX1.cell 2).trans rfl
  have x3 : W1.cell? ⟨w.heap.size, 3, none⟩ = some (.int .i64 err) := (hX1.cell 3).trans rfl
  have x4 : W1.cell? ⟨w.heap.size, 4, none⟩ = some (.int .i64 tick) := (hX1.cell 4).trans rfl
  have x5 : W1.cell? ⟨w.heap.size, 5, none⟩ = some (.int .i64 0) := (hX1.cell 5).trans rfl
  have x6 : W1.cell? ⟨w.heap.size, 6, none⟩ = some (.int .i64 0) := (hX1.cell 6).trans rfl
  have x7 : W1.cell? ⟨w.heap.size, 7, none⟩ = some (.int .i64 0) := (hX1.cell 7).trans rfl
  have x8 : W1.cell? ⟨w.heap.size, 8, none⟩ = some (.int .i64 0) := (hX1.cell 8).trans rfl
  have x9 : W1.cell? ⟨w.heap.size, 9, none⟩ = some (.int .i64 0) := (hX1.cell 9).trans rfl
  have x10 : W1.cell? ⟨w.heap.size, 10, none⟩ = some (.int .i64 0) := (hX1.cell 10).trans rfl
  clear hb1 hX1 HB HX
  go_wp2_with fail
  by_cases hn0 : n < 0
  · have hspec : noteS xs at' ⟨1, c, n, err, tick⟩ = none := by
      unfold noteS
      dsimp only
      rw [if_pos rfl, if_neg (by omega)]
    refine (begin_neg HB1.out 1 c n err tick at' hn0).mono ?_
    rintro en w2 ⟨rfl, hb2⟩
    have HBE := Lib.hid (HB1.out.call hb2).be
    clear hb2 HB1
    go_wp2
    go_ret
    exact .inr ⟨hspec, rfl, HBE.out⟩
  · by_cases hok : n = 0 ∨ aheadB xs c (n - 1) = true
    · have hspec : noteS xs at' ⟨1, c, n, err, tick⟩ = some (xs ++ [nsp c n at']) := by
        unfold noteS
        dsimp only
        rw [if_pos rfl, if_pos ⟨hf, by omega, hok⟩]
      have hyes : n = 0 ∨ (0 < n ∧ ∃ j x, fnd xs c (n - 1) = some j ∧ xs[j]? = some x ∧ 0 ≤ x.reply) := by
        by_cases hz : n = 0
        · exact .inl hz
        · refine .inr ⟨by omega, ?_⟩
          have ha := hok.resolve_left hz
          unfold aheadB at ha
          split at ha
          · rename_i j hj
            split at ha
            · rename_i x hx
              exact ⟨j, x, hj, hx, of_decide_eq_true ha⟩
            · cases ha
          · cases ha
      refine (begin_yes HB1.out 1 c n err tick at' hc hn (by omega) hl hf hyes).mono ?_
      rintro en w2 ⟨rfl, hw2⟩
      have HW2 := Lib.hid hw2
      clear hw2 HB1
      go_wp2
      go_ret
      exact .inl ⟨_, hspec, rfl, HW2.out⟩
    · have hspec : noteS xs at' ⟨1, c, n, err, tick⟩ = none := by
        unfold noteS
        dsimp only
        rw [if_pos rfl, if_neg (fun h => hok h.2.2)]
      have hno : fnd xs c (n - 1) = none ∨ ∃ j x, fnd xs c (n - 1) = some j ∧ xs[j]? = some x ∧ x.reply < 0 := by
        have ha : ¬ aheadB xs c (n - 1) = true := fun h => hok (.inr h)
        unfold aheadB at ha
        cases hj : fnd xs c (n - 1) with
        | none => exact .inl rfl
        | some j =>
          obtain ⟨x, hx, _⟩ := fnd_get hj
          rw [hj] at ha
          simp only [hx] at ha
          exact .inr ⟨j, x, rfl, hx, by simp at ha; exact ha⟩
      refine (begin_early HB1.out 1 c n err tick at' hc hn (by omega) hno).mono ?_
      rintro en w2 ⟨rfl, hb2⟩
      have HBE := Lib.hid (HB1.out.call hb2).be
      clear hb2 HB1
      go_wp2
      go_ret
      exact .inr ⟨hspec, rfl, HBE.out⟩
theorem note_turn {j : Nat} (hf : fnd xs c n = some j) {x : Sp} (hx : xs[j]? = some x) :
    Calls Try.prog 87 #[.pointer (some ⟨b, 0, none⟩), .int .i64 at', (.agg #[.int .i64 2, .int .i64 c, .int .i64 n, .int .i64 err, .int .i64 tick, .int .i64 0, .int .i64 0, .int .i64 0, .int .i64 0, .int .i64 0, .int .i64 0])] w fun en w' => Noted w0 b mb (noteS xs at' ⟨2, c, n, err, tick⟩) en w' := by
  have HX : Hid (Row (w.alloc (.cells #[.int .i64 2, .int .i64 c, .int .i64 n, .int .i64 err, .int .i64 tick, .int .i64 0, .int .i64 0, .int .i64 0, .int .i64 0, .int .i64 0, .int .i64 0] 144)) w.heap.size 144 #[.int .i64 2, .int .i64 c, .int .i64 n, .int .i64 err, .int .i64 tick, .int .i64 0, .int .i64 0, .int .i64 0, .int .i64 0, .int .i64 0, .int .i64 0]) := Row.made _ _ _
  have HB := Lib.hid (h.alloc (.cells #[.int .i64 2, .int .i64 c, .int .i64 n, .int .i64 err, .int .i64 tick, .int .i64 0, .int .i64 0, .int .i64 0, .int .i64 0, .int .i64 0, .int .i64 0] 144))
  obtain ⟨g, o, cap, rfl, hob, hg, h1, h2, hcl, hfz⟩ := h.at hx
  clear h hcl hfz
  go_enter Try.func87, Try.ntmps87
  go_wp2_with fail
  refine (span_yes HB.out c n hc hn hf).mono ?_
  rintro en W1 ⟨rfl, hb1⟩
  have hX1 := HX.out.below hb1 HX.out.lt
  have HB1 := Lib.hid (HB.out.call hb1)
  have x0 : W1.cell? ⟨w.heap.size, 0, none⟩ = some (.int .i64 2) := (hX1.cell 0).trans rfl
  have x1 : W1.cell? ⟨w.heap.size, 1, none⟩ = some (.int .i64 c) := (hX1.cell 1).trans rfl
  have x2 : W1.cell? ⟨w.heap.size, 2, none⟩ = some (.int .i64 n) := (hX1.cell 2).trans rfl
  have x3 : W1.cell? ⟨w.heap.size, 3, none⟩ = some (.int .i64 err) := (hX1.cell 3).trans rfl
  have x4 : W1.cell? ⟨w.heap.size, 4, none⟩ = some (.int .i64 tick) := (hX1.cell 4).trans rfl
  have x5 : W1.cell? ⟨w.heap.size, 5, none⟩ = some (.int .i64 0) := (hX1.cell 5).trans rfl
  have x6 : W1.cell? ⟨w.heap.size, 6, none⟩ = some (.int .i64 0) := (hX1.cell 6).trans rfl
  have x7 : W1.cell? ⟨w.heap.size, 7, none⟩ = some (.int .i64 0) := (hX1.cell 7).trans rfl
  have x8 : W1.cell? ⟨w.heap.size, 8, none⟩ = some (.int .i64 0) := (hX1.cell 8).trans rfl
  have x9 : W1.cell? ⟨w.heap.size, 9, none⟩ = some (.int .i64 0) := (hX1.cell 9).trans rfl
  have x10 : W1.cell? ⟨w.heap.size, 10, none⟩ = some (.int .i64 0) := (hX1.cell 10).trans rfl
  clear hb1 hX1 HB HX
  go_wp2_with fail
  obtain ⟨g', o', cap', hv', hob', hg', _, _, hcl', hfz'⟩ := HB1.out.at hx
  injection hv' with e1 _ e3
  injection e1 with e1
  injection e1 with e1 e2
  subst e1 e2 e3
  by_cases hok : x.turn < 0 ∧ x.reply < 0
  · have hspec : noteS xs at' ⟨2, c, n, err, tick⟩ = some (xs.set j { x with turn := at', err := err, tick := tick }) := by
      unfold noteS
      dsimp only
      rw [if_neg (by decide), if_pos rfl, hf]
      simp only [hx]
      rw [if_pos hok]
    refine (turn_yes HB1.out hx hok.1 hok.2 _ _ _ rfl at' err tick).mono ?_
    rintro en w2 ⟨rfl, hw2⟩
    have HW2 := Lib.hid hw2
    clear hw2 HB1 hcl' hfz'
    go_wp2
    go_ret
    exact .inl ⟨_, hspec, rfl, _, _, _, HW2.out⟩
  · have hspec : noteS xs at' ⟨2, c, n, err, tick⟩ = none := by
      unfold noteS
      dsimp only
      rw [if_neg (by decide), if_pos rfl, hf]
      simp only [hx]
      rw [if_neg hok]
    refine (turn_no hg' x.turn x.reply (hcl' 3 _ rfl) (hcl' 4 _ rfl) (by omega) at' err tick).mono ?_
    rintro en w2 ⟨rfl, hb2⟩
    have HBE := Lib.hid (HB1.out.call hb2).be
    clear hb2 HB1 hcl' hfz'
    go_wp2
    go_ret
    exact .inr ⟨hspec, rfl, HBE.out⟩
theorem note_reply {j : Nat} (hf : fnd xs c n = some j) {x : Sp} (hx : xs[j]? = some x) :
    Calls Try.prog 87 #[.pointer (some ⟨b, 0, none⟩), .int .i64 at', (.agg #[.int .i64 3, .int .i64 c, .int .i64 n, .int .i64 err, .int .i64 tick, .int .i64 0, .int .i64 0, .int .i64 0, .int .i64 0, .int .i64 0, .int .i64 0])] w fun en w' => Noted w0 b mb (noteS xs at' ⟨3, c, n, err, tick⟩) en w' := by
  have HX : Hid (Row (w.alloc (.cells #[.int .i64 3, .int .i64 c, .int .i64 n, .int .i64 err, .int .i64 tick, .int .i64 0, .int .i64 0, .int .i64 0, .int .i64 0, .int .i64 0, .int .i64 0] 144)) w.heap.size 144 #[.int .i64 3, .int .i64 c, .int .i64 n, .int .i64 err, .int .i64 tick, .int .i64 0, .int .i64 0, .int .i64 0, .int .i64 0, .int .i64 0, .int .i64 0]) := Row.made _ _ _
  have HB := Lib.hid (h.alloc (.cells #[.int .i64 3, .int .i64 c, .int .i64 n, .int .i64 err, .int .i64 tick, .int .i64 0, .int .i64 0, .int .i64 0, .int .i64 0, .int .i64 0, .int .i64 0] 144))
  obtain ⟨g, o, cap, rfl, hob, hg, h1, h2, hcl, hfz⟩ := h.at hx
  clear h hcl hfz
  go_enter Try.func87, Try.ntmps87
  go_wp2_with fail
  refine (span_yes HB.out c n hc hn hf).mono ?_
  rintro en W1 ⟨rfl, hb1⟩
  have hX1 := HX.out.below hb1 HX.out.lt
  have HB1 := Lib.hid (HB.out.call hb1)
  have x0 : W1.cell? ⟨w.heap.size, 0, none⟩ = some (.int .i64 3) := (hX1.cell 0).trans rfl
  have x1 : W1.cell? ⟨w.heap.size, 1, none⟩ = some (.int .i64 c) := (hX1.cell 1).trans rfl
  have x2 : W1.cell? ⟨w.heap.size, 2, none⟩ = some (.int .i64 n) := (hX1.cell 2).trans rfl
  have x3 : W1.cell? ⟨w.heap.size, 3, none⟩ = some (.int .i64 err) := (hX1.cell 3).trans rfl
  have x4 : W1.cell? ⟨w.heap.size, 4, none⟩ = some (.int .i64 tick) := (hX1.cell 4).trans rfl
  have x5 : W1.cell? ⟨w.heap.size, 5, none⟩ = some (.int .i64 0) := (hX1.cell 5).trans rfl
  have x6 : W1.cell? ⟨w.heap.size, 6, none⟩ = some (.int .i64 0) := (hX1.cell 6).trans rfl
  have x7 : W1.cell? ⟨w.heap.size, 7, none⟩ = some (.int .i64 0) := (hX1.cell 7).trans rfl
  have x8 : W1.cell? ⟨w.heap.size, 8, none⟩ = some (.int .i64 0) := (hX1.cell 8).trans rfl
  have x9 : W1.cell? ⟨w.heap.size, 9, none⟩ = some (.int .i64 0) := (hX1.cell 9).trans rfl
  have x10 : W1.cell? ⟨w.heap.size, 10, none⟩ = some (.int .i64 0) := (hX1.cell 10).trans rfl
  clear hb1 hX1 HB HX
  go_wp2_with fail
  by_cases hok : x.reply < 0 ∧ (x.turn < 0 ∨ (x.err = err ∧ x.tick = tick))
  · have hspec : noteS xs at' ⟨3, c, n, err, tick⟩ = some (xs.set j { x with reply := at', err := err, tick := tick }) := by
      unfold noteS
      dsimp only
      rw [if_neg (by decide), if_neg (by decide), if_pos rfl, hf]
      simp only [hx]
      rw [if_pos hok]
    refine (reply_yes HB1.out hx _ _ _ rfl at' err tick hok.1 hok.2).mono ?_
    rintro en w2 ⟨rfl, hw2⟩
    have HW2 := Lib.hid hw2
    clear hw2 HB1
    go_wp2
    go_ret
    exact .inl ⟨_, hspec, rfl, _, _, _, HW2.out⟩
  · have hspec : noteS xs at' ⟨3, c, n, err, tick⟩ = none := by
      unfold noteS
      dsimp only
      rw [if_neg (by decide), if_neg (by decide), if_pos rfl, hf]
      simp only [hx]
      rw [if_neg hok]
    by_cases hr : 0 ≤ x.reply
    · refine (reply_late HB1.out hx _ _ _ rfl at' err tick hr).mono ?_
      rintro en w2 ⟨rfl, hb2⟩
      have HBE := Lib.hid (HB1.out.call hb2).be
      clear hb2 HB1
      go_wp2
      go_ret
      exact .inr ⟨hspec, rfl, HBE.out⟩
    · refine (reply_other HB1.out hx _ _ _ rfl at' err tick (by omega) (by omega) (fun he => hok ⟨by omega, .inr he⟩)).mono ?_
      rintro en w2 ⟨rfl, hb2⟩
      have HBE := Lib.hid (HB1.out.call hb2).be
      clear hb2 HB1
      go_wp2
      go_ret
      exact .inr ⟨hspec, rfl, HBE.out⟩
theorem note_any (k : Int) (hl : xs.length ≤ 1000) :
    Calls Try.prog 87 #[.pointer (some ⟨b, 0, none⟩), .int .i64 at', (.agg #[.int .i64 k, .int .i64 c, .int .i64 n, .int .i64 err, .int .i64 tick, .int .i64 0, .int .i64 0, .int .i64 0, .int .i64 0, .int .i64 0, .int .i64 0])] w fun en w' => Noted w0 b mb (noteS xs at' ⟨k, c, n, err, tick⟩) en w' := by
  cases hf : fnd xs c n with
  | none =>
    by_cases hk1 : k = 1
    · subst hk1; exact note_begin h at' c n err tick hc hn hf hl
    · by_cases hk2 : k = 2
      · subst hk2; exact note_none2 h at' c n err tick hc hn hf
      · by_cases hk3 : k = 3
        · subst hk3; exact note_none3 h at' c n err tick hc hn hf
        · exact note_nonek h at' c n err tick hc hn k ⟨hk1, hk2, hk3⟩ hf
  | some j =>
    obtain ⟨x, hx, _⟩ := fnd_get hf
    by_cases hk1 : k = 1
    · subst hk1; exact note_again h at' c n err tick hc hn hf hx
    · by_cases hk2 : k = 2
      · subst hk2; exact note_turn h at' c n err tick hc hn hf hx
      · by_cases hk3 : k = 3
        · subst hk3; exact note_reply h at' c n err tick hc hn hf hx
        · exact note_kind h at' c n err tick hc hn k ⟨hk1, hk2, hk3⟩ hf hx
end
end Go.Proofs.Ytaimbkikiokenaa.Hi
