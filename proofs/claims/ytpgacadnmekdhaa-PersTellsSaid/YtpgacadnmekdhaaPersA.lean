/- Chains: what each call hands back; nothing that was there turns. -/
import Derived.Test.YtpgacadnmekdhaaSeg
namespace Go.Proofs.Ytpgacadnmekdhaa.Pers
open Go.RowKit Go.Proofs.Ytpgacadnmekdhaa
set_option linter.unusedVariables false

/-- A chain: its things, the newest first. -/
def Ch (w : World) (B : Nat) : Option Addr → List Int → Prop
  | p, [] => p = none
  | p, x :: r => ∃ (b : Nat) (q : Option Addr), p = some ⟨b, 0, none⟩ ∧ b < B ∧ w.cell? ⟨b, 0, none⟩ = some (.int .i64 x) ∧ w.cell? ⟨b, 1, none⟩ = some (.pointer q) ∧ w.cell? ⟨b, 2, none⟩ = some (.int .i64 ((r.length : Int) + 1)) ∧ Ch w B q r
theorem Ch.below {w w' : World} {B B' : Nat} (h : Below B w w') (hB : B ≤ B') : ∀ {p : Option Addr} {xs : List Int}, Ch w B p xs → Ch w' B' p xs
  | _, [], hl => hl
  | _, _ :: _, ⟨b, q, hp, hb, h0, h1, h2, hr⟩ => ⟨b, q, hp, by omega, (h.cell (p := ⟨b, 0, none⟩) hb).trans h0, (h.cell (p := ⟨b, 1, none⟩) hb).trans h1, (h.cell (p := ⟨b, 2, none⟩) hb).trans h2, Ch.below h hB hr⟩

theorem len_any (p : Option Addr) (xs : List Int) (B : Nat) (w : World) (h : Ch w B p xs) :
    Calls Try.prog 22 #[.pointer p] w fun e w' => e = .returned (.int .i64 xs.length) ∧ w = w' := by
  cases xs with
  | nil =>
    obtain rfl : p = none := h
    go_enter Try.func22, Try.ntmps22
    go_wp2
    go_ret
    exact ⟨rfl, rfl⟩
  | cons x r =>
    obtain ⟨b, q, rfl, hb, h0, h1, h2, hr⟩ := h
    clear hr h0 h1
    go_enter Try.func22, Try.ntmps22
    go_wp2
    go_ret
    exact ⟨ret_int (by simp), rfl⟩
theorem with_any (p : Option Addr) (xs : List Int) (x : Int) (B : Nat) (w : World) (h : Ch w B p xs) (hl : xs.length ≤ 9223372036854775806) :
    Calls Try.prog 90 #[.pointer p, .int .i64 x] w fun e w' => e = .returned (.pointer (some ⟨w.heap.size, 0, none⟩)) ∧
      w' = w.alloc (.cells #[.int .i64 x, .pointer p, .int .i64 ((xs.length : Int) + 1)] 164) := by
  have H := Lib.hid h
  clear h
  go_enter Try.func90, Try.ntmps90
  go_wp2_with (go_at_call 22; refine (len_any p xs B _ H.out).mono ?_; rintro e w' ⟨rfl, rfl⟩)
  go_ret
  exact ⟨rfl, rfl⟩
theorem with_ch (p : Option Addr) (xs : List Int) (x : Int) (B : Nat) (w : World) (h : Ch w B p xs) (hB : B ≤ w.heap.size) :
    Ch (w.alloc (.cells #[.int .i64 x, .pointer p, .int .i64 ((xs.length : Int) + 1)] 164)) (w.heap.size + 1) (some ⟨w.heap.size, 0, none⟩) (x :: xs) :=
  ⟨w.heap.size, p, rfl, by omega, by simp, by simp, by simp, h.below ((Below.refl _ w).alloc hB _) (by omega)⟩
theorem newest_yes (p : Option Addr) (x : Int) (r : List Int) (B : Nat) (w : World) (h : Ch w B p (x :: r)) :
    Calls Try.prog 18 #[.pointer p] w fun e w' => e = .returned (.tuple #[.int .i64 x, .bool true]) ∧ w = w' := by
  have H := Lib.hid h
  obtain ⟨b, q, rfl, hb, h0, h1, h2, hr⟩ := h
  have hz : (((x :: r).length : Int) == 0) = false := by rw [beq_eq_false_iff_ne]; simp; omega
  have hz' : ((r.length : Int) + 1 == 0) = false := by rw [beq_eq_false_iff_ne]; omega
  clear h1 h2 hr
  go_enter Try.func18, Try.ntmps18
  go_wp2_with (go_at_call 22; refine (len_any _ _ B _ H.out).mono ?_; rintro e w' ⟨rfl, rfl⟩)
  go_ret2
  exact ⟨rfl, rfl⟩
theorem newest_no (B : Nat) (w : World) :
    Calls Try.prog 18 #[.pointer none] w fun e w' => e = .returned (.tuple #[.int .i64 0, .bool false]) ∧ w = w' := by
  go_enter Try.func18, Try.ntmps18
  go_wp2_with (go_at_call 22; refine (len_any none [] B _ rfl).mono ?_; rintro e w' ⟨rfl, rfl⟩)
  go_ret2
  exact ⟨rfl, rfl⟩
/-- A chain without its newest thing. -/
def RestOf (w : World) (B : Nat) (r : List Int) (e : Ending) (w' : World) : Prop := (∃ q, e = .returned (.pointer q) ∧ Ch w B q r) ∧ w = w'
theorem rest_any (p : Option Addr) (xs : List Int) (B : Nat) (w : World) (h : Ch w B p xs) :
    Calls Try.prog 20 #[.pointer p] w (RestOf w B (xs.drop 1)) := by
  have H := Lib.hid h
  rcases xs with _ | ⟨x, _ | ⟨y, r⟩⟩
  · clear h
    go_enter Try.func20, Try.ntmps20
    go_wp2_with (go_at_call 22; refine (len_any p [] B _ H.out).mono ?_; rintro e w' ⟨rfl, rfl⟩)
    go_ret
    exact ⟨⟨none, rfl, rfl⟩, rfl⟩
  · clear h
    go_enter Try.func20, Try.ntmps20
    go_wp2_with (go_at_call 22; refine (len_any p [x] B _ H.out).mono ?_; rintro e w' ⟨rfl, rfl⟩)
    go_ret
    exact ⟨⟨none, rfl, rfl⟩, rfl⟩
  · obtain ⟨b, q, rfl, hb, h0, h1, h2, hr⟩ := h
    have HR := Lib.hid hr
    clear hr h0 h2
    go_enter Try.func20, Try.ntmps20
    go_wp2_with (go_at_call 22; refine (len_any _ (x :: y :: r) B _ H.out).mono ?_; rintro e w' ⟨rfl, rfl⟩)
    go_ret
    exact ⟨⟨q, rfl, HR.out⟩, rfl⟩

/-- What a call of Of leaves: the chain of the things that were handed in. -/
def OfOf (w : World) (xs : List Int) (e : Ending) (w' : World) : Prop := (∃ p, e = .returned (.pointer p) ∧ Ch w' w'.heap.size p xs) ∧ Below w.heap.size w w'
def revN (f : Nat → Int) : Nat → List Int
  | 0 => []
  | k + 1 => f k :: revN f k
theorem revN_len (f : Nat → Int) : ∀ k, (revN f k).length = k
  | 0 => rfl
  | k + 1 => by simp [revN, revN_len f k]
set_option maxHeartbeats 1000000 in
theorem of_any (A : Option Addr) (n c : Nat) (f : Nat → Int) (w : World) (ln : n ≤ 9223372036854775806) (hl : Lies w w.heap.size A n (fun k => .int .i64 (f k))) :
    Calls Try.prog 16 #[.slice A n c] w (OfOf w (revN f n)) := by
  have HL := Lib.hid hl
  clear hl
  go_enter Try.func16, Try.ntmps16
  go_wp2
  go_loopw [3, 8] (fun v i wr => ∃ (k : Nat) (p : Option Addr), k ≤ n ∧ i = .int .i64 k ∧ v = .pointer p ∧ Hid (Ch wr wr.heap.size p (revN f k)) ∧ Hid (Below w.heap.size w wr)) (fun _ i _ => n - (intOf i).toNat)
  case atStart => exact ⟨0, none, by omega, rfl, rfl, rfl, Below.refl _ _⟩
  case round =>
    obtain ⟨k, p, hk, rfl, rfl, hch, hb⟩ := hrel
    by_cases hlt : k < n
    · obtain ⟨g, o, rfl, hg, hcell⟩ := HL.out k hlt
      have hck : wr.cell? ⟨g, o + k, none⟩ = some (.int .i64 (f k)) := (hb.out.cell (p := ⟨g, o + k, none⟩) hg).trans hcell
      clear hcell
      have HC : Hid (Ch (wr.alloc (.cells #[.int .i64 (f k), .pointer p, .int .i64 (((revN f k).length : Int) + 1)] 164)) (wr.heap.size + 1) (some ⟨wr.heap.size, 0, none⟩) (f k :: revN f k)) := with_ch p _ _ _ wr hch.out (Nat.le_refl _)
      have HB2 : Hid (Below w.heap.size w (wr.alloc (.cells #[.int .i64 (f k), .pointer p, .int .i64 (((revN f k).length : Int) + 1)] 164))) := hb.out.alloc hb.out.size _
      go_wp2_with (go_at_call 90; refine (with_any p (revN f k) (f k) _ _ hch.out (by rw [revN_len]; omega)).mono ?_; rintro e w' ⟨rfl, rfl⟩)
      go_roundw
      case rel => exact ⟨k + 1, _, by omega, by go_num, rfl, by simpa [revN, Hid] using HC, HB2⟩
      case measure => simp [intOf]; omega
    · obtain rfl : k = n := by omega
      go_wp2
      go_ret
      exact ⟨⟨p, rfl, hch.out⟩, hb.out⟩
end Go.Proofs.Ytpgacadnmekdhaa.Pers
