/- Are two lists alike? The law's own awake. -/
import Derived.Test.YtpgacadnmekdhaaPersC
namespace Go.Proofs.Ytpgacadnmekdhaa.Pers
open Go.RowKit Go.Proofs.Ytpgacadnmekdhaa
set_option linter.unusedVariables false

theorem list_any (p0 : Option Addr) (xs : List Int) (w : World) (hL : Ch w w.heap.size p0 xs) (hl : xs.length ≤ 1000000) :
    Calls Try.prog 21 #[.pointer p0] w (ListOf w xs) :=
  callsIn_wide.1 (list_in Fence.wide 3 (fun _ => trivial) rfl (by omega) p0 xs w hL hl)
theorem lies_seg {w : World} {v : Value} {n : Nat} {zs : List Int} {ob : Option Nat} (h : Seg w 3 1 v n (zs.map (Value.int .i64)) ob) : ∃ A c, v = .slice A n c ∧ Lies w w.heap.size A n (fun k => .int .i64 (zs.getD k 0)) := by
  obtain ⟨A, cap, rfl, _, _⟩ := h.form
  refine ⟨A, cap, rfl, fun k hk => ?_⟩
  obtain ⟨g, o, cap', hv, _, _, _, hc, _⟩ := h.shape (by omega)
  injection hv with e1 _ _
  subst e1
  have hl : k < zs.length := by have := h.1; simp at this; omega
  have hk' := hc k (.int .i64 zs[k]) (by simp [hl])
  refine ⟨g, o, rfl, World.block_lt_of_cell? w _ hk', ?_⟩
  rw [hk']
  simp [hl]
def Drawn (r : Bool) (w : World) (e : Ending) (w' : World) : Prop := e = .returned (.bool r) ∧ ∃ m, w' = w.drewN m
set_option maxHeartbeats 400000 in
theorem same_yes (A A' : Option Addr) (n c c' B B' : Nat) (f f' : Nat → Int) (w : World) (hn : n ≤ 9223372036854775807) (h : Lies w B A n (fun k => .int .i64 (f k))) (h' : Lies w B' A' n (fun k => .int .i64 (f' k))) (he : ∀ k, k < n → f' k = f k) :
    Calls Try.prog 19 #[.slice A n c, .slice A' n c'] w (Drawn true w) := by
  have H := Lib.hid h
  have H' := Lib.hid h'
  have HE := Lib.hid he
  clear h h' he
  go_enter Try.func19, Try.ntmps19
  go_wp2
  go_loopw [5] (fun i wr => ∃ k : Nat, k ≤ n ∧ i = .int .i64 k ∧ Hid (∃ m, wr = w.drewN m)) (fun i _ => n - (intOf i).toNat)
  case atStart => exact ⟨0, by omega, rfl, 0, rfl⟩
  case round =>
    obtain ⟨k, hk, rfl, hw⟩ := hrel
    have hcells : ∀ a, wr.cell? a = w.cell? a := by
      obtain ⟨m, rfl⟩ := hw.out
      exact fun _ => rfl
    by_cases hlt : k < n
    · obtain ⟨g, o, rfl, hg, hc⟩ := H.out k hlt
      obtain ⟨g', o', rfl, hg', hc'⟩ := H'.out k hlt
      simp only [HE.out k hlt] at hc'
      have d : wr.cell? ⟨g, o + k, none⟩ = some (.int .i64 (f k)) := (hcells _).trans hc
      have d' : wr.cell? ⟨g', o' + k, none⟩ = some (.int .i64 (f k)) := (hcells _).trans hc'
      clear hc hc' hcells
      go_wp2
      go_quiet (fail)
      go_wp2
      go_roundw
      case rel => exact ⟨k + 1, by omega, by go_num, by
        obtain ⟨m, rfl⟩ := hw.out
        exact ⟨m + _, World.drewN_drewN ..⟩⟩
      case measure => simp [intOf]; omega
    · clear hcells
      go_wp2
      go_ret
      exact ⟨rfl, hw.out⟩
set_option maxHeartbeats 1000000 in
theorem awake_any (w : World) : Calls Try.prog 15 #[] w fun e w' => e = .returned (.bool true) ∧ Below w.heap.size w w' := by
  go_enter Try.func15, Try.ntmps15
  go_wp2_with fail
  refine (of_any _ 2 2 (fun k => if k = 0 then 1 else 2) _ (by omega) (fun k hk => ⟨w.heap.size, 0, rfl, by simp, by
    rcases (show k = 0 ∨ k = 1 by omega) with rfl | rfl <;> simp⟩)).mono ?_
  rintro e w1 ⟨⟨p, rfl, hc⟩, hb⟩
  have hb' : Below w.heap.size w w1 := ((Below.refl _ w).alloc (Nat.le_refl _) _).trans (hb.mono (by simp))
  have HC := Lib.hid (show Ch w1 w1.heap.size p [2, 1] from hc)
  have HB := Lib.hid hb'
  clear hc hb hb'
  go_wp2_with (first
    | (go_at_call 18; refine (newest_yes p 2 [1] _ _ HC.out).mono ?_; rintro e w' ⟨rfl, rfl⟩)
    | (go_at_call 20; refine (rest_any p [2, 1] _ _ HC.out).mono ?_; rintro e w' ⟨⟨q, rfl, hq⟩, rfl⟩; have HQ := Lib.hid hq; clear hq)
    | (go_at_call 22; first
      | ((with_reducible refine (len_any p [2, 1] _ _ HC.out).mono ?_); rintro e w' ⟨rfl, rfl⟩)
      | (refine (len_any q [1] _ _ HQ.out).mono ?_; rintro e w' ⟨rfl, rfl⟩)))
  go_ret
  exact ⟨rfl, HB.out⟩
end Go.Proofs.Ytpgacadnmekdhaa.Pers
