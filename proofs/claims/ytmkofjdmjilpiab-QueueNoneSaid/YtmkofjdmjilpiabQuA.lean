/- A queue: its room, what is in it, what it counts; its calls that only look. -/
import Derived.Test.YtmkofjdmjilpiabFifoB
import Derived.Test.YtmkofjdmjilpiabTab
namespace Go.Proofs.Ytmkofjdmjilpiab.Qu
open Go.RowKit Go.Proofs.Ytmkofjdmjilpiab
set_option linter.unusedVariables false

structure QS where
  closed : Bool
  most : Nat
  put : Nat
  taken : Nat
  full : Nat
def cellsQ (fb : Nat) (s : QS) : Array Value := #[.pointer (some ⟨fb, 0, none⟩), .bool s.closed, .int .i64 s.most, .int .i64 s.put, .int .i64 s.taken, .int .i64 s.full]
/-- A queue at b; its Fifo at fb, whose things lie in block ob. -/
structure Qu (w : World) (b fb : Nat) (ob : Option Nat) (room : Nat) (zs : List Int) (s : QS) : Prop where
  row : Row w b 148 (cellsQ fb s)
  ff : Fifo.Ff w fb room zs ob
  ne : fb ≠ b
section
variable {w w' : World} {b fb : Nat} {ob : Option Nat} {room : Nat} {zs : List Int} {s : QS}
theorem Qu.one (h : Qu w b fb ob room zs s) : ob ≠ some b := by
  obtain ⟨v, hr, _, A, cap, _, _, _, ⟨_, h2, _⟩ | ⟨g, o, cur, _, h2, h3, _⟩⟩ := h.ff
  · rw [h2]; simp
  · rw [h2]
    intro e
    injection e with e
    subst e
    have := h.row
    unfold Row at this
    rw [this] at h3
    injection h3 with h3
    injection h3 with _ h3
    exact absurd h3 (by decide)
theorem Qu.turns {S : Nat → Prop} (h : Qu w b fb ob room zs s) (g : Turns w w' S) (hb : ¬ S b) (hf : ¬ S fb) (ho : ∀ k, ob = some k → ¬ S k) : Qu w' b fb ob room zs s :=
  ⟨h.row.turns g hb, h.ff.turns g hf ho, h.ne⟩
theorem Qu.call (h : Qu w b fb ob room zs s) (g : Below w.heap.size w w') : Qu w' b fb ob room zs s := h.turns (Turns.of_below g) (fun h => h) (fun h => h) (fun _ _ h => h)
theorem Qu.drewN (h : Qu w b fb ob room zs s) (n : Nat) : Qu (w.drewN n) b fb ob room zs s := ⟨h.row, h.ff, h.ne⟩
theorem Qu.c0 (h : Qu w b fb ob room zs s) : w.cell? ⟨b, 0, none⟩ = some (.pointer (some ⟨fb, 0, none⟩)) := (h.row.cell 0).trans rfl
theorem Qu.c1 (h : Qu w b fb ob room zs s) : w.cell? ⟨b, 1, none⟩ = some (.bool s.closed) := (h.row.cell 1).trans rfl
theorem Qu.c2 (h : Qu w b fb ob room zs s) : w.cell? ⟨b, 2, none⟩ = some (.int .i64 s.most) := (h.row.cell 2).trans rfl
theorem Qu.c3 (h : Qu w b fb ob room zs s) : w.cell? ⟨b, 3, none⟩ = some (.int .i64 s.put) := (h.row.cell 3).trans rfl
theorem Qu.c4 (h : Qu w b fb ob room zs s) : w.cell? ⟨b, 4, none⟩ = some (.int .i64 s.taken) := (h.row.cell 4).trans rfl
theorem Qu.c5 (h : Qu w b fb ob room zs s) : w.cell? ⟨b, 5, none⟩ = some (.int .i64 s.full) := (h.row.cell 5).trans rfl
/-- A store into the queue's own cells. -/
theorem Qu.put (h : Qu w b fb ob room zs s) (i : Nat) (u : Value) (s' : QS) (he : (cellsQ fb s).setIfInBounds i u = cellsQ fb s') : Qu (w.setCell ⟨b, i, none⟩ u) b fb ob room zs s' := by
  refine ⟨by rw [← he]; exact h.row.put i u, ?_, h.ne⟩
  obtain ⟨v, hr, hs⟩ := h.ff
  exact ⟨v, hr.past h.ne u, hs.past h.one u⟩
end
theorem new_any (r : Int) (w : World) (h0 : -9223372036854775808 ≤ r) (h1 : r ≤ 9223372036854775807) :
    Calls Try.prog 22 #[.int .i64 r] w fun e w' => e = .returned (.pointer (some ⟨w.heap.size + 1, 0, none⟩)) ∧ Qu w' (w.heap.size + 1) w.heap.size none (Fifo.roomV r) [] ⟨false, 0, 0, 0, 0⟩ ∧ Below w.heap.size w w' := by
  have key : ∀ q : Int, -9223372036854775808 ≤ q → q ≤ 9223372036854775807 → Fifo.roomV q = Fifo.roomV r → Qu ((w.alloc (.cells #[.int .i64 (Fifo.roomV q), .slice none 0 0] 191)).alloc (.cells #[.pointer (some ⟨w.heap.size, 0, none⟩), .bool false, .int .i64 0, .int .i64 0, .int .i64 0, .int .i64 0] 148)) (w.heap.size + 1) w.heap.size none (Fifo.roomV r) [] ⟨false, 0, 0, 0, 0⟩ := by
    intro q _ _ hq
    rw [hq]
    refine ⟨?_, (Fifo.new_ff w _).alloc _, by omega⟩
    have := Row.made (w.alloc (.cells #[.int .i64 (Fifo.roomV r), .slice none 0 0] 191)) 148 #[.pointer (some ⟨w.heap.size, 0, none⟩), .bool false, .int .i64 0, .int .i64 0, .int .i64 0, .int .i64 0]
    rw [World.size_alloc] at this
    exact this
  rcases (show (r < 1 ∧ Fifo.roomV 1 = Fifo.roomV r) ∨ (1 ≤ r ∧ r ≤ 1024) ∨ (1024 < r ∧ Fifo.roomV 1024 = Fifo.roomV r) from by unfold Fifo.roomV; omega) with ⟨g, hv⟩ | ⟨g, g1⟩ | ⟨g, hv⟩
  · have HK := Lib.hid (key 1 (by decide) (by decide) hv)
    clear key hv
    go_enter Try.func22, Try.ntmps22
    go_wp2_with (go_at_call 90; refine (Fifo.new_any 1 _ (by decide) (by decide)).mono ?_; rintro e w' ⟨rfl, rfl⟩)
    go_ret
    exact ⟨rfl, HK.out, by go_grown⟩
  · have HK := Lib.hid (key r h0 h1 rfl)
    clear key
    go_enter Try.func22, Try.ntmps22
    go_wp2_with (go_at_call 90; refine (Fifo.new_any r _ h0 h1).mono ?_; rintro e w' ⟨rfl, rfl⟩)
    go_ret
    exact ⟨rfl, HK.out, by go_grown⟩
  · have HK := Lib.hid (key 1024 (by decide) (by decide) hv)
    clear key hv
    go_enter Try.func22, Try.ntmps22
    go_wp2_with (go_at_call 90; refine (Fifo.new_any 1024 _ (by decide) (by decide)).mono ?_; rintro e w' ⟨rfl, rfl⟩)
    go_ret
    exact ⟨rfl, HK.out, by go_grown⟩
section
variable (b fb : Nat) (ob : Option Nat) (room : Nat) (zs : List Int) (s : QS) (w : World) (h : Qu w b fb ob room zs s)
include h
theorem len_any : Calls Try.prog 29 #[.pointer (some ⟨b, 0, none⟩)] w fun e w' => e = .returned (.int .i64 zs.length) ∧ w = w' := by
  have H := Lib.hid h
  have c0 := h.c0
  clear h
  go_enter Try.func29, Try.ntmps29
  go_wp2_with (go_at_call 93; refine (Fifo.len_any fb room zs ob _ H.out.ff).mono ?_; rintro e w' ⟨rfl, rfl⟩)
  go_ret
  exact ⟨rfl, rfl⟩
theorem room_any : Calls Try.prog 30 #[.pointer (some ⟨b, 0, none⟩)] w fun e w' => e = .returned (.int .i64 room) ∧ w = w' := by
  have H := Lib.hid h
  have c0 := h.c0
  clear h
  go_enter Try.func30, Try.ntmps30
  go_wp2_with (go_at_call 94; refine (Fifo.room_any fb room zs ob _ H.out.ff).mono ?_; rintro e w' ⟨rfl, rfl⟩)
  go_ret
  exact ⟨rfl, rfl⟩
theorem most_any : Calls Try.prog 31 #[.pointer (some ⟨b, 0, none⟩)] w fun e w' => e = .returned (.int .i64 s.most) ∧ w = w' := by
  have c2 := h.c2
  clear h
  go_enter Try.func31, Try.ntmps31
  go_wp2
  go_ret
  exact ⟨rfl, rfl⟩
theorem closed_any (r : Bool) (hr : s.closed = r) : Calls Try.prog 32 #[.pointer (some ⟨b, 0, none⟩)] w fun e w' => e = .returned (.bool r) ∧ w = w' := by
  have c1 := h.c1
  rw [hr] at c1
  clear h hr
  go_enter Try.func32, Try.ntmps32
  go_wp2
  go_ret
  exact ⟨rfl, rfl⟩
theorem done_any (r : Bool) (hr : (s.closed && decide (zs.length = 0)) = r) : Calls Try.prog 33 #[.pointer (some ⟨b, 0, none⟩)] w fun e w' => e = .returned (.bool r) ∧ w = w' := by
  have H := Lib.hid h
  obtain ⟨q, hq⟩ : ∃ q, s.closed = q := ⟨_, rfl⟩
  rw [hq] at hr
  have HR := Lib.hid hr
  have HQ := Lib.hid hq
  clear h hr hq
  cases q with
  | false =>
    go_enter Try.func33, Try.ntmps33
    go_wp2_with (go_at_call 32; refine (closed_any b fb ob room zs s _ H.out false HQ.out).mono ?_; rintro e w' ⟨rfl, rfl⟩)
    go_ret
    exact ⟨ret_bool (by rw [← HR.out]; first | done | rfl), rfl⟩
  | true =>
    go_enter Try.func33, Try.ntmps33
    go_wp2_with (first
      | (go_at_call 32; refine (closed_any b fb ob room zs s _ H.out true HQ.out).mono ?_; rintro e w' ⟨rfl, rfl⟩)
      | (go_at_call 29; refine (len_any b fb ob room zs s _ H.out).mono ?_; rintro e w' ⟨rfl, rfl⟩))
    go_ret
    exact ⟨ret_bool (by rw [← HR.out, Bool.eq_iff_iff]; simp), rfl⟩
theorem canTake_any (r : Bool) (hr : decide (0 < zs.length) = r) : Calls Try.prog 26 #[.pointer (some ⟨b, 0, none⟩)] w fun e w' => e = .returned (.bool r) ∧ w = w' := by
  have H := Lib.hid h
  have HR := Lib.hid hr
  clear h hr
  go_enter Try.func26, Try.ntmps26
  go_wp2_with (go_at_call 29; refine (len_any b fb ob room zs s _ H.out).mono ?_; rintro e w' ⟨rfl, rfl⟩)
  go_ret
  exact ⟨ret_bool (by rw [← HR.out, Bool.eq_iff_iff]; first | done | simp), rfl⟩
theorem canPut_any (r : Bool) (hr : (!s.closed && decide (zs.length < room)) = r) : Calls Try.prog 24 #[.pointer (some ⟨b, 0, none⟩)] w fun e w' => e = .returned (.bool r) ∧ w = w' := by
  have H := Lib.hid h
  obtain ⟨q, hq⟩ : ∃ q, s.closed = q := ⟨_, rfl⟩
  rw [hq] at hr
  have HR := Lib.hid hr
  have HQ := Lib.hid hq
  clear h hr hq
  cases q with
  | true =>
    go_enter Try.func24, Try.ntmps24
    go_wp2_with (go_at_call 32; refine (closed_any b fb ob room zs s _ H.out true HQ.out).mono ?_; rintro e w' ⟨rfl, rfl⟩)
    go_ret
    exact ⟨ret_bool (by rw [← HR.out]; rfl), rfl⟩
  | false =>
    go_enter Try.func24, Try.ntmps24
    go_wp2_with (first
      | (go_at_call 32; refine (closed_any b fb ob room zs s _ H.out false HQ.out).mono ?_; rintro e w' ⟨rfl, rfl⟩)
      | (go_at_call 29; refine (len_any b fb ob room zs s _ H.out).mono ?_; rintro e w' ⟨rfl, rfl⟩)
      | (go_at_call 30; refine (room_any b fb ob room zs s _ H.out).mono ?_; rintro e w' ⟨rfl, rfl⟩))
    go_ret
    exact ⟨ret_bool (by rw [← HR.out, Bool.eq_iff_iff]; simp), rfl⟩
theorem counts_any : Calls Try.prog 28 #[.pointer (some ⟨b, 0, none⟩)] w fun e w' => e = .returned (.tuple #[.int .i64 s.put, .int .i64 s.taken, .int .i64 s.full]) ∧ ∃ n, w' = w.drewN n := by
  have c3 := h.c3
  have c4 := h.c4
  have c5 := h.c5
  clear h
  go_enter Try.func28, Try.ntmps28
  go_wp2
  go_quiet (fail)
  go_wp2
  go_ret3
  exact ⟨rfl, _, rfl⟩
end
end Go.Proofs.Ytmkofjdmjilpiab.Qu
