/- Up to when each part knows all: the calls that only look. -/
import Derived.Test.YtmkofjdmjilpiaaMarkB
import Derived.Test.YtmkofjdmjilpiaaMarkL
namespace Go.Proofs.Ytmkofjdmjilpiaa.Al
open Go.RowKit Go.Proofs.Ytmkofjdmjilpiaa Go.Proofs.Ytmkofjdmjilpiaa.Mark
set_option linter.unusedVariables false
set_option maxRecDepth 100000

def partsV (n : Int) : Nat := (min (max n 1) 64).toNat
theorem partsV_pos (n : Int) : 1 ≤ partsV n ∧ partsV n ≤ 64 := by unfold partsV; omega
def marks (f : Nat → Int) : Nat → Value := fun k => .int .i64 (f k)
/-- Parts at b; their marks (by the first time that has not passed) at mb. -/
structure Al (w : World) (b mb N : Nat) (f : Nat → Int) : Prop where
  row : Row w b 86 #[.slice (some ⟨mb, 0, none⟩) N N]
  tab : Tab w mb 33 N (marks f)
  ne : mb ≠ b
  n1 : 1 ≤ N ∧ N ≤ 64
  lo : ∀ k, k < N → 0 ≤ f k ∧ f k ≤ 1099511627777
section
variable {w w' : World} {b mb N : Nat} {f : Nat → Int}
theorem Al.c0 (h : Al w b mb N f) : w.cell? ⟨b, 0, none⟩ = some (.slice (some ⟨mb, 0, none⟩) N N) := h.row.c0
theorem Al.turns {S : Nat → Prop} (h : Al w b mb N f) (g : Turns w w' S) (hb : ¬ S b) (hm : ¬ S mb) : Al w' b mb N f := ⟨h.row.turns g hb, h.tab.turns g hm, h.ne, h.n1, h.lo⟩
theorem Al.call (h : Al w b mb N f) (g : Below w.heap.size w w') : Al w' b mb N f := h.turns (Turns.of_below g) (fun h => h) (fun h => h)
theorem Al.drewN (h : Al w b mb N f) (n : Nat) : Al (w.drewN n) b mb N f := ⟨h.row, h.tab, h.ne, h.n1, h.lo⟩
theorem Al.lies (h : Al w b mb N f) : Lies w w.heap.size (some ⟨mb, 0, none⟩) N (fun k => .int .i64 (f k)) := fun k hk => ⟨mb, 0, rfl, h.tab.lt, by rw [Nat.zero_add]; exact h.tab.cell hk⟩
end
theorem new_any (n : Int) (w : World) : Calls Try.prog 45 #[.int .i64 n] w fun e w' => e = .returned (.pointer (some ⟨w.heap.size + 1, 0, none⟩)) ∧ Al w' (w.heap.size + 1) w.heap.size (partsV n) (fun _ => 0) ∧ Below w.heap.size w w' := by
  have hp := partsV_pos n
  have hA : Al ((w.alloc (.cells (madeCells #[.int .i64 0] (partsV n)) 33)).alloc (.cells #[.slice (some ⟨w.heap.size, 0, none⟩) (partsV n) (partsV n)] 86)) (w.heap.size + 1) w.heap.size (partsV n) (fun _ => 0) := by
    refine ⟨?_, (Tab.made w (.int .i64 0) _ _).alloc _, by omega, hp, fun k _ => by omega⟩
    have := Row.made (w.alloc (.cells (madeCells #[.int .i64 0] (partsV n)) 33)) 86 #[.slice (some ⟨w.heap.size, 0, none⟩) (partsV n) (partsV n)]
    rw [World.size_alloc] at this
    exact this
  have HA := Lib.hid hA
  obtain ⟨hp0, hp1⟩ := hp
  have hmk := fun wx => run_make_cell (P := Try.prog) 40 33 (.agg #[.int .i64 0]) (.int .i64 0) 8 Try.underlying40 mark_info rfl .i64 .i64 (partsV n) (by omega) (by omega) wx
  clear hA
  obtain ⟨q, hq⟩ : ∃ q, partsV n = q := ⟨_, rfl⟩
  rw [hq] at HA hmk hp0 hp1 ⊢
  rcases (show (n < 1 ∧ q = 1) ∨ (1 ≤ n ∧ n ≤ 64 ∧ n = (q : Int)) ∨ (64 < n ∧ q = 64) from by unfold partsV at hq; omega) with ⟨g, rfl⟩ | ⟨g, g1, rfl⟩ | ⟨g, rfl⟩
  · clear hq
    have hmk2 : ∀ wx : World, (Instr.makeSlice 40 (.int .i64 1) (.int .i64 1)).run Try.prog wx = .ok (.slice (some ⟨wx.heap.size, 0, none⟩) 1 1) (wx.alloc (.cells (madeCells #[.int .i64 0] 1) 33)) := hmk
    clear hmk
    go_enter Try.func45, Try.ntmps45
    go_wp2
    go_ret
    exact ⟨rfl, HA.out, by go_grown⟩
  · clear hq
    go_enter Try.func45, Try.ntmps45
    go_wp2
    go_ret
    exact ⟨rfl, HA.out, by go_grown⟩
  · clear hq
    have hmk2 : ∀ wx : World, (Instr.makeSlice 40 (.int .i64 64) (.int .i64 64)).run Try.prog wx = .ok (.slice (some ⟨wx.heap.size, 0, none⟩) 64 64) (wx.alloc (.cells (madeCells #[.int .i64 0] 64) 33)) := hmk
    clear hmk
    go_enter Try.func45, Try.ntmps45
    go_wp2
    go_ret
    exact ⟨rfl, HA.out, by go_grown⟩
section
variable (b mb N : Nat) (f : Nat → Int) (w : World) (h : Al w b mb N f)
include h
theorem all_any : Calls Try.prog 63 #[.pointer (some ⟨b, 0, none⟩)] w fun e w' => e = .returned (.slice (some ⟨mb, 0, none⟩) N N) ∧ w = w' := by
  have c0 := h.c0
  clear h
  go_enter Try.func63, Try.ntmps63
  go_wp2
  go_ret
  exact ⟨rfl, rfl⟩
theorem parts_any : Calls Try.prog 46 #[.pointer (some ⟨b, 0, none⟩)] w fun e w' => e = .returned (.int .i64 N) ∧ w = w' := by
  have H := Lib.hid h
  clear h
  go_enter Try.func46, Try.ntmps46
  go_wp2_with (go_at_call 63; refine (all_any b mb N f _ H.out).mono ?_; rintro e w' ⟨rfl, rfl⟩)
  go_ret
  exact ⟨rfl, rfl⟩
theorem has_any (p : Int) (r : Bool) (hr : decide (0 ≤ p ∧ p < (N : Int)) = r) : Calls Try.prog 64 #[.pointer (some ⟨b, 0, none⟩), .int .i64 p] w fun e w' => e = .returned (.bool r) ∧ w = w' := by
  have H := Lib.hid h
  have HR := Lib.hid hr
  clear h hr
  rcases (show p < 0 ∨ 0 ≤ p from by omega) with hp | hp
  · go_enter Try.func64, Try.ntmps64
    go_wp2
    go_ret
    exact ⟨ret_bool (by rw [← HR.out, Bool.eq_iff_iff]; simp; omega), rfl⟩
  · go_enter Try.func64, Try.ntmps64
    go_wp2_with (go_at_call 46; refine (parts_any b mb N f _ H.out).mono ?_; rintro e w' ⟨rfl, rfl⟩)
    go_ret
    exact ⟨ret_bool (by rw [← HR.out, Bool.eq_iff_iff]; simp; omega), rfl⟩
theorem at_all : Calls Try.prog 50 #[.pointer (some ⟨b, 0, none⟩)] w fun e w' => e = .returned (.int .i64 (mn f N - 1)) ∧ Below w.heap.size w w' := by
  have H := Lib.hid h
  obtain ⟨m0, m1⟩ := mn_lo f 0 1099511627777 N (by have := h.n1; omega) h.lo N (Nat.le_refl _)
  have hn := h.n1
  clear h
  go_enter Try.func50, Try.ntmps50
  go_wp2_with fail
  refine (all_any b mb N f _ H.out).mono ?_
  rintro e w' ⟨rfl, rfl⟩
  go_wp2_with fail
  refine (least_some _ N N f _ H.out.lies (by omega) (by omega) H.out.lo).mono ?_
  rintro e w1 ⟨rfl, hb⟩
  have HB := Lib.hid hb
  clear hb
  go_wp2_with fail
  refine (at_any _ _ m0 (by omega)).mono ?_
  rintro e w2 ⟨rfl, hb⟩
  have HB2 := Lib.hid (HB.out.trans (hb.mono HB.out.size))
  clear hb
  go_wp2
  go_ret
  exact ⟨rfl, HB2.out⟩
theorem of_yes (p : Nat) (hp : p < N) : Calls Try.prog 49 #[.pointer (some ⟨b, 0, none⟩), .int .i64 p] w fun e w' => e = .returned (.int .i64 (f p - 1)) ∧ Below w.heap.size w w' := by
  have H := Lib.hid h
  obtain ⟨m0, m1⟩ := h.lo p hp
  have c0 := h.c0
  have c1 := h.tab.cell hp
  unfold marks at c1
  have hn := h.n1
  have HD : Hid (decide (0 ≤ (p : Int) ∧ (p : Int) < (N : Int)) = true) := by show decide (0 ≤ (p : Int) ∧ (p : Int) < (N : Int)) = true; simp; omega
  clear h
  go_enter Try.func49, Try.ntmps49
  go_wp2_with fail
  refine (has_any b mb N f _ H.out p true HD.out).mono ?_
  rintro e w' ⟨rfl, rfl⟩
  go_wp2_with fail
  refine (at_any _ _ m0 (by omega)).mono ?_
  rintro e w2 ⟨rfl, hb⟩
  go_wp2
  go_ret
  exact ⟨rfl, hb⟩
theorem of_no (p : Int) (hp : p < 0 ∨ (N : Int) ≤ p) : Calls Try.prog 49 #[.pointer (some ⟨b, 0, none⟩), .int .i64 p] w fun e w' => e = .returned (.int .i64 (-1)) ∧ w = w' := by
  have H := Lib.hid h
  have HD : Hid (decide (0 ≤ p ∧ p < (N : Int)) = false) := by show decide (0 ≤ p ∧ p < (N : Int)) = false; simp; omega
  clear h
  go_enter Try.func49, Try.ntmps49
  go_wp2_with fail
  refine (has_any b mb N f _ H.out p false HD.out).mono ?_
  rintro e w' ⟨rfl, rfl⟩
  go_wp2
  go_ret
  exact ⟨rfl, rfl⟩
theorem to_no (p t : Int) (hp : p < 0 ∨ (N : Int) ≤ p) : Calls Try.prog 47 #[.pointer (some ⟨b, 0, none⟩), .int .i64 p, .int .i64 t] w fun e w' => e = .returned (.int .i64 1) ∧ w = w' := by
  have H := Lib.hid h
  have HD : Hid (decide (0 ≤ p ∧ p < (N : Int)) = false) := by show decide (0 ≤ p ∧ p < (N : Int)) = false; simp; omega
  clear h
  go_enter Try.func47, Try.ntmps47
  go_wp2_with fail
  refine (has_any b mb N f _ H.out p false HD.out).mono ?_
  rintro e w' ⟨rfl, rfl⟩
  go_wp2
  go_ret
  exact ⟨rfl, rfl⟩
end
end Go.Proofs.Ytmkofjdmjilpiaa.Al
