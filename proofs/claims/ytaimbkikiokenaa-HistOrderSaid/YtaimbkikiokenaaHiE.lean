/- A book's calls: a call tells. -/
import Derived.Test.YtaimbkikiokenaaHiD
namespace Go.Proofs.Ytaimbkikiokenaa.Hi
open Go.RowKit Go.Proofs.Ytaimbkikiokenaa Go.Maps
set_option linter.unusedVariables false
set_option maxRecDepth 100000
theorem Bk.drew {w0 w : World} {b mb : Nat} {v : Value} {ob : Option Nat} {D : DataW Unit} {xs : List Sp} (h : Bk w0 w b mb v ob D xs) : Bk w0 w.drew b mb v ob D xs := h.call (below_drewN (Below.refl _ w) 1)
theorem Bk.alloc {w0 w : World} {b mb : Nat} {v : Value} {ob : Option Nat} {D : DataW Unit} {xs : List Sp} (h : Bk w0 w b mb v ob D xs) (x : Obj) : Bk w0 (w.alloc x) b mb v ob D xs := h.call ((Below.refl _ w).alloc (Nat.le_refl _) x)
theorem eq6 (W : World) : (Op.equalIn 9999 100 (.agg #[.int .i64 0, .int .i64 0, .int .i64 0, .int .i64 0, .int .i64 0, .int .i64 0]) (.agg #[.int .i64 0, .int .i64 0, .int .i64 0, .int .i64 0, .int .i64 0, .int .i64 0])).run Try.prog W = .ok true W := by
  kernel_rfl
section
variable {w0 w : World} {b mb : Nat} {v : Value} {ob : Option Nat} {D : DataW Unit} {xs : List Sp} (h : Bk w0 w b mb v ob D xs) {j : Nat} {x : Sp} (hx : xs[j]? = some x) (g o cap : Nat) (hv : v = .slice (some ⟨g, o, none⟩) xs.length cap) (at' err tick : Int)
include h hx hv
theorem reply_late (hr : 0 ≤ x.reply) :
    Calls Try.prog 117 #[.pointer (some ⟨g, o + j * 13, none⟩), .int .i64 at', (.agg #[.int .i64 err, .int .i64 tick, .int .i64 0, .int .i64 0, .int .i64 0, .int .i64 0, .int .i64 0, .int .i64 0])] w fun e w' => e = .returned (.bool false) ∧ Below w.heap.size w w' := by
  obtain ⟨g', o', cap', e, hob, hg, h1, h2, hcl, hfz⟩ := h.at hx
  rw [hv] at e
  injection e with e1 _ e3
  injection e1 with e1
  injection e1 with e1 e2
  subst e1 e2 e3 hv
  have c4 := hcl 4 (.int .i64 x.reply) rfl
  clear h hcl hfz
  go_enter Try.func117, Try.ntmps117
  go_wp2
  go_region
  all_goals
    go_wp2
    go_ret
    exact ⟨rfl, by go_grown⟩
theorem reply_other (hr : x.reply < 0) (ht : 0 ≤ x.turn) (hne : ¬ (x.err = err ∧ x.tick = tick)) :
    Calls Try.prog 117 #[.pointer (some ⟨g, o + j * 13, none⟩), .int .i64 at', (.agg #[.int .i64 err, .int .i64 tick, .int .i64 0, .int .i64 0, .int .i64 0, .int .i64 0, .int .i64 0, .int .i64 0])] w fun e w' => e = .returned (.bool false) ∧ Below w.heap.size w w' := by
  obtain ⟨g', o', cap', e, hob, hg, h1, h2, hcl, hfz⟩ := h.at hx
  rw [hv] at e
  injection e with e1 _ e3
  injection e1 with e1
  injection e1 with e1 e2
  subst e1 e2 e3 hv
  have c3 := hcl 3 (.int .i64 x.turn) rfl
  have c4 := hcl 4 (.int .i64 x.reply) rfl
  have c5 := hcl 5 (.int .i64 x.err) rfl
  have c6 := hcl 6 (.int .i64 x.tick) rfl
  have c7 := hcl 7 (.int .i64 0) rfl
  have c8 := hcl 8 (.int .i64 0) rfl
  have c9 := hcl 9 (.int .i64 0) rfl
  have c10 := hcl 10 (.int .i64 0) rfl
  have c11 := hcl 11 (.int .i64 0) rfl
  have c12 := hcl 12 (.int .i64 0) rfl
  have hd4 : decide (0 ≤ x.reply) = false := decide_eq_false (by omega)
  have q6 := eq6
  have H := Lib.hid h
  clear h hcl hfz
  by_cases he : x.err = err
  · have htk : ¬ x.tick = tick := fun e => hne ⟨he, e⟩
    go_enter Try.func117, Try.ntmps117
    go_wp2
    go_region
    all_goals
      go_wp2
      go_ret
      exact ⟨rfl, by go_grown⟩
  · go_enter Try.func117, Try.ntmps117
    go_wp2
    go_region
    all_goals
      go_wp2
      go_ret
      exact ⟨rfl, by go_grown⟩
set_option maxHeartbeats 2000000 in
theorem reply_yes (hr : x.reply < 0) (ht : x.turn < 0 ∨ (x.err = err ∧ x.tick = tick)) :
    Calls Try.prog 117 #[.pointer (some ⟨g, o + j * 13, none⟩), .int .i64 at', (.agg #[.int .i64 err, .int .i64 tick, .int .i64 0, .int .i64 0, .int .i64 0, .int .i64 0, .int .i64 0, .int .i64 0])] w fun e w' => e = .returned (.bool true) ∧ Bk w0 w' b mb v ob D (xs.set j { x with reply := at', err := err, tick := tick }) := by
  obtain ⟨g', o', cap', e, hob, hg, h1, h2, hcl, hfz⟩ := h.at hx
  rw [hv] at e
  injection e with e1 _ e3
  injection e1 with e1
  injection e1 with e1 e2
  subst e1 e2 e3 hv
  have c3 := hcl 3 (.int .i64 x.turn) rfl
  have c4 := hcl 4 (.int .i64 x.reply) rfl
  have c5 := hcl 5 (.int .i64 x.err) rfl
  have c6 := hcl 6 (.int .i64 x.tick) rfl
  have c7 := hcl 7 (.int .i64 0) rfl
  have c8 := hcl 8 (.int .i64 0) rfl
  have c9 := hcl 9 (.int .i64 0) rfl
  have c10 := hcl 10 (.int .i64 0) rfl
  have c11 := hcl 11 (.int .i64 0) rfl
  have c12 := hcl 12 (.int .i64 0) rfl
  have z := fun i => hfz (o + j * 13 + i)
  have z4 := z 4
  have z5 := z 5
  have z6 := z 6
  have z7 := z 7
  have z8 := z 8
  have z9 := z 9
  have z10 := z 10
  have z11 := z 11
  have z12 := z 12
  have hne : w.heap.size ≠ g := by omega
  have hne2 : g ≠ w.heap.size := by omega
  have hd4 : decide (0 ≤ x.reply) = false := decide_eq_false (by omega)
  have q6 := eq6
  have H := Lib.hid h
  clear h hcl hfz z
  by_cases htn : x.turn < 0
  · have hd3 : decide (0 ≤ x.turn) = false := decide_eq_false (by omega)
    go_enter Try.func117, Try.ntmps117
    go_wp2
    go_region
    all_goals
      go_wp2
      go_region
      all_goals
        go_wp2
        go_ret
        subst hob
        exact ⟨rfl, Bk.drew (Bk.drew (Bk.alloc (put9 H.out hx 4 (.inr rfl) at' err tick (.inr ⟨rfl, rfl⟩)) _))⟩
  · have ht' : 0 ≤ x.turn := by omega
    have he := ht.resolve_left htn
    obtain ⟨he1, he2⟩ := he
    go_enter Try.func117, Try.ntmps117
    go_wp2
    go_region
    all_goals
      go_wp2
      go_region
      all_goals
        go_wp2
        go_ret
        subst hob
        exact ⟨rfl, Bk.drew (Bk.drew (Bk.alloc (put9 H.out hx 4 (.inr rfl) at' err tick (.inr ⟨rfl, rfl⟩)) _))⟩
end
end Go.Proofs.Ytaimbkikiokenaa.Hi
