/- The Fifo's calls that look and take. -/
import Derived.Test.YtmkofjdmjilpiabFifoA
import Derived.Lib.SliceRun
namespace Go.Proofs.Ytmkofjdmjilpiab.Fifo
open Go.RowKit Go.Proofs.Ytmkofjdmjilpiab
set_option linter.unusedVariables false

theorem push_no (b room : Nat) (zs : List Int) (ob : Option Nat) (x : Int) (w : World) (h : Ff w b room zs ob) (hl : room ≤ zs.length) :
    Calls Try.prog 91 #[.pointer (some ⟨b, 0, none⟩), .int .i64 x] w fun e w' => e = .returned (.bool false) ∧ w = w' := by
  have H := Lib.hid h
  clear h
  go_enter Try.func91, Try.ntmps91
  go_wp2_with (go_at_call 138; refine (full_any b room zs ob true _ H.out (by simp; omega)).mono ?_; rintro e w' ⟨rfl, rfl⟩)
  go_ret
  exact ⟨rfl, rfl⟩
theorem push_nil (x : Int) (w : World) :
    Calls Try.prog 91 #[.pointer none, .int .i64 x] w fun e w' => e = .returned (.bool false) ∧ w = w' := by
  go_enter Try.func91, Try.ntmps91
  go_wp2_with (go_at_call 138; refine (full_nil _).mono ?_; rintro e w' ⟨rfl, rfl⟩)
  go_ret
  exact ⟨rfl, rfl⟩
set_option maxHeartbeats 400000 in
theorem at_yes (b room : Nat) (zs : List Int) (ob : Option Nat) (i : Nat) (w : World) (h : Ff w b room zs ob) (hi : i < zs.length) (hl : zs.length ≤ 9223372036854775807) :
    Calls Try.prog 139 #[.pointer (some ⟨b, 0, none⟩), .int .i64 i] w fun e w' => e = .returned (.tuple #[.int .i64 zs[i], .bool true]) ∧ w = w' := by
  have H := Lib.hid h
  obtain ⟨v, hrow, hs⟩ := h
  obtain ⟨g, o, cap, rfl, ho, hn, _, hc, _⟩ := hs.shape (by omega)
  have c1 : w.cell? ⟨b, 1, none⟩ = some (.slice (some ⟨g, o, none⟩) zs.length cap) := (hrow.cell 1).trans rfl
  have c2 : w.cell? ⟨g, o + i, none⟩ = some (.int .i64 zs[i]) := hc i _ (by simp [hi])
  clear hrow hs hc ho
  go_enter Try.func139, Try.ntmps139
  go_wp2_with (go_at_call 93; refine (len_any b room zs ob _ H.out).mono ?_; rintro e w' ⟨rfl, rfl⟩)
  go_ret2
  exact ⟨rfl, rfl⟩
theorem at_no (b room : Nat) (zs : List Int) (ob : Option Nat) (i : Int) (w : World) (h : Ff w b room zs ob) (hi : i < 0 ∨ (zs.length : Int) ≤ i) :
    Calls Try.prog 139 #[.pointer (some ⟨b, 0, none⟩), .int .i64 i] w fun e w' => e = .returned (.tuple #[.int .i64 0, .bool false]) ∧ w = w' := by
  have H := Lib.hid h
  clear h
  rcases (show i < 0 ∨ (0 ≤ i ∧ (zs.length : Int) ≤ i) from by omega) with h1 | ⟨h0, h1⟩
  · go_enter Try.func139, Try.ntmps139
    go_wp2
    go_ret2
    exact ⟨rfl, rfl⟩
  · clear hi
    go_enter Try.func139, Try.ntmps139
    go_wp2_with (go_at_call 93; refine (len_any b room zs ob _ H.out).mono ?_; rintro e w' ⟨rfl, rfl⟩)
    go_ret2
    exact ⟨rfl, rfl⟩
theorem at_nil (w : World) :
    Calls Try.prog 139 #[.pointer none, .int .i64 0] w fun e w' => e = .returned (.tuple #[.int .i64 0, .bool false]) ∧ w = w' := by
  go_enter Try.func139, Try.ntmps139
  go_wp2_with (go_at_call 93; refine (len_nil _).mono ?_; rintro e w' ⟨rfl, rfl⟩)
  go_ret2
  exact ⟨rfl, rfl⟩
theorem clear_one (w : World) (g o cap : Nat) (u : Value) (hc : w.cell? ⟨g, o, none⟩ = some u) (hf : w.frozen? ⟨g, o, none⟩ = false) : ∀ ty,
    (Builtin.clear_ #[22] ty #[.slice (some ⟨g, o, none⟩) 1 cap]).run Try.prog w = .ok (.tuple #[]) (w.setCell ⟨g, o, none⟩ (.int .i64 0)) := fun ty =>
  Lib.run_clear_slice w _ _ ty _ Try.underlying22 Try.zeroValue3 rfl rfl g o 1 cap (by omega)
    (fun t ht => by
      obtain rfl : t = 0 := by omega
      rw [Nat.add_zero, hc]; rfl)
    (fun t ht => by
      obtain rfl : t = 0 := by omega
      exact hf)
theorem seg_none (w : World) (e : TypeId) (A : Option Addr) : Seg w e 1 (.slice A 0 0) 0 [] none := ⟨by simp, _, 0, rfl, Nat.le_refl _, by unfold maxLen; omega, .inl ⟨rfl, rfl, fun _ => trivial⟩⟩
/-- The first thing has been wiped out and cut off: what is left. -/
theorem seg_tail {w : World} {e : TypeId} {g o n cap : Nat} {xs : List Value} (h : Seg w e 1 (.slice (some ⟨g, o, none⟩) n cap) n xs (some g)) (hn : 1 ≤ n) (hc : 1 < cap) (u : Value) :
    Seg (w.setCell ⟨g, o, none⟩ u) e 1 (.slice (some ⟨g, o + 1, none⟩) (n - 1) (cap - 1)) (n - 1) (xs.drop 1) (some g) := by
  obtain ⟨h0, A, cap', hv, h1, h2, h3⟩ := h
  injection hv with e1 e2 e3
  subst e1 e3
  refine ⟨by rw [List.length_drop, h0]; omega, _, _, rfl, by omega, by omega, ?_⟩
  rcases h3 with ⟨h3, _⟩ | ⟨g', o', cur, e1, a2, a3, a4, a5⟩
  · omega
  · injection e1 with e1
    injection e1 with e1 e2
    subst e1 e2
    refine .inr ⟨g, o + 1, _, rfl, rfl, Row.put a3 o u, by simp; omega, ?_⟩
    rw [Array.toList_setIfInBounds, List.drop_set, if_pos (by omega), ← a5, List.drop_take, List.drop_drop]
    congr 1
    omega
set_option maxRecDepth 100000 in
set_option maxHeartbeats 400000 in
theorem pop_yes (b room : Nat) (x : Int) (r : List Int) (ob : Option Nat) (w : World) (h : Ff w b room (x :: r) ob) (hl : (x :: r).length ≤ 9223372036854775807) :
    Calls Try.prog 92 #[.pointer (some ⟨b, 0, none⟩)] w fun e w' => e = .returned (.tuple #[.int .i64 x, .bool true]) ∧ Left w b room r ob w' := by
  have H := Lib.hid h
  obtain ⟨v, hrow, hs⟩ := h
  obtain ⟨g, o, cap, rfl, ho, hn, _, hc, hfz⟩ := hs.shape (by simp)
  have c1 : w.cell? ⟨b, 1, none⟩ = some (.slice (some ⟨g, o, none⟩) (x :: r).length cap) := (hrow.cell 1).trans rfl
  have c2 : w.cell? ⟨g, o, none⟩ = some (.int .i64 x) := hc 0 _ (by simp)
  have f2 := hfz o
  have f1 := hrow.free 1
  have HS := Lib.hid hs
  have HW := Lib.hid hrow
  have HO := Lib.hid ho
  clear hrow hs hc ho hfz
  have hgb : g ≠ b := fun e => H.out.ne (by rw [HO.out, e])
  have hbg : b ≠ g := fun e => hgb e.symm
  have hcl := clear_one w g o cap _ c2 f2
  rcases (show cap = 1 ∨ 1 < cap from by simp at hn; omega) with rfl | hcap
  · obtain rfl : r = [] := List.eq_nil_of_length_eq_zero (by simp only [List.length_cons] at hn; omega)
    go_enter Try.func92, Try.ntmps92
    go_wp2_with (go_at_call 139; refine (at_yes b room [x] ob 0 _ H.out (by simp) hl).mono ?_; rintro e w' ⟨rfl, rfl⟩)
    go_ret2
    exact ⟨rfl, none, ⟨_, Row.put (Row.past HW.out hbg _) 1 _, seg_none _ _ _⟩, ((Turns.refl w _).put g o _ (fun _ => .inr HO.out)).put b 1 _ (fun _ => .inl rfl), .inr (.inl rfl)⟩
  · go_enter Try.func92, Try.ntmps92
    go_wp2_with (go_at_call 139; refine (at_yes b room (x :: r) ob 0 _ H.out (by simp) hl).mono ?_; rintro e w' ⟨rfl, rfl⟩)
    go_ret2
    exact ⟨rfl, ob, ⟨_, Row.put (Row.past HW.out hbg _) 1 _, by
      have h1 := seg_tail (by rw [← HO.out]; exact HS.out) (by simp) hcap (.int .i64 0)
      have h2 := Seg.past h1 (p := ⟨b, 1, none⟩) (by simpa using hgb) (.slice (some ⟨g, o + 1, none⟩) ((x :: r).length - 1) (cap - 1))
      rw [HO.out]
      simpa using h2⟩, ((Turns.refl w _).put g o _ (fun _ => .inr HO.out)).put b 1 _ (fun _ => .inl rfl), .inl rfl⟩
theorem pop_no (b room : Nat) (ob : Option Nat) (w : World) (h : Ff w b room [] ob) :
    Calls Try.prog 92 #[.pointer (some ⟨b, 0, none⟩)] w fun e w' => e = .returned (.tuple #[.int .i64 0, .bool false]) ∧ w = w' := by
  have H := Lib.hid h
  clear h
  go_enter Try.func92, Try.ntmps92
  go_wp2_with (go_at_call 139; refine (at_no b room [] ob 0 _ H.out (.inr (by simp))).mono ?_; rintro e w' ⟨rfl, rfl⟩)
  go_ret2
  exact ⟨rfl, rfl⟩
theorem pop_nil (w : World) :
    Calls Try.prog 92 #[.pointer none] w fun e w' => e = .returned (.tuple #[.int .i64 0, .bool false]) ∧ w = w' := by
  go_enter Try.func92, Try.ntmps92
  go_wp2_with (go_at_call 139; refine (at_nil _).mono ?_; rintro e w' ⟨rfl, rfl⟩)
  go_ret2
  exact ⟨rfl, rfl⟩
end Go.Proofs.Ytmkofjdmjilpiab.Fifo
