/- What a byte is: package text's Class, and the law's own class: one number for every byte. -/
import Derived.Test.YtolbjbgeddjbaaaKit
import Derived.Test.YtolbjbgeddjbaaaShelf
namespace Go.Proofs.Ytolbjbgeddjbaaa.Text
open Go.RowKit Go.Proofs.Ytolbjbgeddjbaaa

/-- The class of a byte. -/
def clsV (c : Int) : Int :=
  if c = 32 ∨ c = 9 ∨ c = 10 then 1
  else if (97 ≤ c ∧ c ≤ 122) ∨ (65 ≤ c ∧ c ≤ 90) ∨ c = 95 then 2
  else if 48 ≤ c ∧ c ≤ 57 then 3
  else if c = 39 then 5
  else if c = 40 ∨ c = 41 ∨ c = 123 ∨ c = 125 ∨ c = 44 ∨ c = 46 ∨ c = 59 ∨ c = 58 ∨ c = 124 ∨ c = 33 ∨ c = 43 ∨ c = 45 ∨ c = 42 ∨ c = 61 ∨ c = 60 ∨ c = 62 ∨ c = 47 then 4
  else 6

/-- Which way a byte goes. -/
inductive Way (c : Int) : Int → Prop
  | b32 : c = 32 → Way c 1
  | b9 : c = 9 → Way c 1
  | b10 : c = 10 → Way c 1
  | low : 97 ≤ c → c ≤ 122 → Way c 2
  | up : 65 ≤ c → c ≤ 90 → Way c 2
  | line : c = 95 → Way c 2
  | dig : 48 ≤ c → c ≤ 57 → Way c 3
  | mark : c = 39 → Way c 5
  | sign : c ∈ [40, 41, 123, 125, 44, 46, 59, 58, 124, 33, 43, 45, 42, 61, 60, 62, 47] → Way c 4
  | bad : (∀ k ∈ [32, 9, 10, 95, 39, 40, 41, 123, 125, 44, 46, 59, 58, 124, 33, 43, 45, 42, 61, 60, 62, 47], c ≠ k) → (c < 97 ∨ 122 < c) → (c < 65 ∨ 90 < c) → (c < 48 ∨ 57 < c) → Way c 6
theorem way_any (c : Int) : Way c (clsV c) := by
  unfold clsV
  by_cases h1 : c = 32
  · rw [if_pos (by omega)]; exact .b32 h1
  by_cases h2 : c = 9
  · rw [if_pos (by omega)]; exact .b9 h2
  by_cases h3 : c = 10
  · rw [if_pos (by omega)]; exact .b10 h3
  rw [if_neg (by omega)]
  by_cases h4 : 97 ≤ c ∧ c ≤ 122
  · rw [if_pos (by omega)]; exact .low h4.1 h4.2
  by_cases h5 : 65 ≤ c ∧ c ≤ 90
  · rw [if_pos (by omega)]; exact .up h5.1 h5.2
  by_cases h6 : c = 95
  · rw [if_pos (by omega)]; exact .line h6
  rw [if_neg (by omega)]
  by_cases h7 : 48 ≤ c ∧ c ≤ 57
  · rw [if_pos h7]; exact .dig h7.1 h7.2
  rw [if_neg h7]
  by_cases h8 : c = 39
  · rw [if_pos h8]; exact .mark h8
  rw [if_neg h8]
  split
  · rename_i h; exact .sign (by simpa using h)
  · rename_i h; refine .bad ?_ (by omega) (by omega) (by omega)
    intro k hk
    simp at hk
    omega

theorem sign_at (c : Int) (h : c ∈ [40, 41, 123, 125, 44, 46, 59, 58, 124, 33, 43, 45, 42, 61, 60, 62, 47]) : 0 ≤ Lib.indexByte [40, 41, 123, 125, 44, 46, 59, 58, 124, 33, 43, 45, 42, 61, 60, 62, 47] c.toNat.toUInt8 := by
  simp at h
  rcases h with rfl | rfl | rfl | rfl | rfl | rfl | rfl | rfl | rfl | rfl | rfl | rfl | rfl | rfl | rfl | rfl | rfl <;> decide
theorem index_none : ∀ (l : List UInt8) (c : UInt8), (∀ k ∈ l, (k == c) = false) → Lib.indexByte l c = -1
  | [], _, _ => rfl
  | a :: l, c, h => by
    have h1 := h a (List.mem_cons_self)
    have h2 := index_none l c fun k hk => h k (List.mem_cons_of_mem _ hk)
    simp only [Lib.indexByte, h1, h2]
    decide
theorem bad_at (c : Int) (h0 : 0 ≤ c) (h1 : c ≤ 255) (h : ∀ k ∈ [40, 41, 123, 125, 44, 46, 59, 58, 124, 33, 43, 45, 42, 61, 60, 62, 47], c ≠ k) : Lib.indexByte [40, 41, 123, 125, 44, 46, 59, 58, 124, 33, 43, 45, 42, 61, 60, 62, 47] c.toNat.toUInt8 = -1 := by
  refine index_none _ _ fun k hk => ?_
  rw [beq_eq_false_iff_ne]
  intro he
  refine h (k.toNat : Int) ?_ (by rw [he]; simp; omega)
  simp at hk
  rcases hk with rfl | rfl | rfl | rfl | rfl | rfl | rfl | rfl | rfl | rfl | rfl | rfl | rfl | rfl | rfl | rfl | rfl <;> decide
theorem index_sign (c : Int) (w : World) (h : c ∈ [40, 41, 123, 125, 44, 46, 59, 58, 124, 33, 43, 45, 42, 61, 60, 62, 47]) :
    Calls Try.prog 38 #[.string ⟨#[40, 41, 123, 125, 44, 46, 59, 58, 124, 33, 43, 45, 42, 61, 60, 62, 47]⟩, .int .u8 c] w fun e w' => (∃ n : Int, 0 ≤ n ∧ e = .returned (.int .i64 n)) ∧ w = w' :=
  (Try.strings_IndexByte _ c w).mono fun _ _ ⟨h1, h2⟩ => ⟨⟨_, sign_at c h, h1⟩, h2.symm⟩
theorem index_bad (c : Int) (w : World) (h0 : 0 ≤ c) (h1 : c ≤ 255) (h : ∀ k ∈ [40, 41, 123, 125, 44, 46, 59, 58, 124, 33, 43, 45, 42, 61, 60, 62, 47], c ≠ k) :
    Calls Try.prog 38 #[.string ⟨#[40, 41, 123, 125, 44, 46, 59, 58, 124, 33, 43, 45, 42, 61, 60, 62, 47]⟩, .int .u8 c] w fun e w' => e = .returned (.int .i64 (-1)) ∧ w = w' :=
  (Try.strings_IndexByte _ c w).mono fun _ _ ⟨h3, h2⟩ => ⟨h3.trans (by rw [show ByteArray.data ⟨#[40, 41, 123, 125, 44, 46, 59, 58, 124, 33, 43, 45, 42, 61, 60, 62, 47]⟩ = #[40, 41, 123, 125, 44, 46, 59, 58, 124, 33, 43, 45, 42, 61, 60, 62, 47] from rfl, bad_at c h0 h1 h]), h2.symm⟩
theorem ne_false {c k : Int} (h : c ≠ k) : (c == k) = false := by simpa using h

set_option maxHeartbeats 1000000 in
theorem class_way (c r : Int) (w : World) (h0 : 0 ≤ c) (h1 : c ≤ 255) (hw : Way c r) :
    Calls Try.prog 20 #[.int .u8 c] w fun e w' => e = .returned (.int .i64 r) ∧ w = w' := by
  cases hw
  case b32 h => subst h; go_enter Try.func20, Try.ntmps20; go_wp2; go_ret; exact ⟨rfl, rfl⟩
  case b9 h => subst h; go_enter Try.func20, Try.ntmps20; go_wp2; go_ret; exact ⟨rfl, rfl⟩
  case b10 h => subst h; go_enter Try.func20, Try.ntmps20; go_wp2; go_ret; exact ⟨rfl, rfl⟩
  case line h => subst h; go_enter Try.func20, Try.ntmps20; go_wp2; go_ret; exact ⟨rfl, rfl⟩
  case mark h => subst h; go_enter Try.func20, Try.ntmps20; go_wp2; go_ret; exact ⟨rfl, rfl⟩
  case low h3 h4 =>
    have e1 := ne_false (show c ≠ 32 by omega)
    have e2 := ne_false (show c ≠ 9 by omega)
    have e3 := ne_false (show c ≠ 10 by omega)
    go_enter Try.func20, Try.ntmps20; go_wp2; go_ret; exact ⟨rfl, rfl⟩
  case up h3 h4 =>
    have e1 := ne_false (show c ≠ 32 by omega)
    have e2 := ne_false (show c ≠ 9 by omega)
    have e3 := ne_false (show c ≠ 10 by omega)
    go_enter Try.func20, Try.ntmps20; go_wp2; go_ret; exact ⟨rfl, rfl⟩
  case dig h3 h4 =>
    have e1 := ne_false (show c ≠ 32 by omega)
    have e2 := ne_false (show c ≠ 9 by omega)
    have e3 := ne_false (show c ≠ 10 by omega)
    have e4 := ne_false (show c ≠ 95 by omega)
    have f1 : c < 97 := by omega
    have f2 : c < 65 := by omega
    go_enter Try.func20, Try.ntmps20; go_wp2; go_ret; exact ⟨rfl, rfl⟩
  case sign h =>
    have HS := Lib.hid h
    simp at h
    rcases h with rfl | rfl | rfl | rfl | rfl | rfl | rfl | rfl | rfl | rfl | rfl | rfl | rfl | rfl | rfl | rfl | rfl
    all_goals
      go_enter Try.func20, Try.ntmps20
      go_wp2_with (go_at_call 38; refine (index_sign _ _ HS.out).mono ?_; rintro e w' ⟨⟨n, hn, rfl⟩, rfl⟩)
      go_ret; exact ⟨rfl, rfl⟩
  case bad h h2 h3 h4 =>
    have HS : Hid (∀ k ∈ [40, 41, 123, 125, 44, 46, 59, 58, 124, 33, 43, 45, 42, 61, 60, 62, 47], c ≠ k) := fun k hk => h k (List.mem_append_right [32, 9, 10, 95, 39] hk)
    have e1 := ne_false (h 32 (by decide))
    have e2 := ne_false (h 9 (by decide))
    have e3 := ne_false (h 10 (by decide))
    have e4 := ne_false (h 95 (by decide))
    have e5 := ne_false (h 39 (by decide))
    clear h
    rcases h2 with h2 | h2 <;> rcases h3 with h3 | h3 <;> rcases h4 with h4 | h4 <;> first | (exfalso; omega) | skip
    all_goals
      go_enter Try.func20, Try.ntmps20
      go_wp2_with (go_at_call 38; refine (index_bad _ _ h0 h1 HS.out).mono ?_; rintro e w' ⟨rfl, rfl⟩)
      go_ret; exact ⟨rfl, rfl⟩
theorem class_any (c : Int) (w : World) (h0 : 0 ≤ c) (h1 : c ≤ 255) :
    Calls Try.prog 20 #[.int .u8 c] w fun e w' => e = .returned (.int .i64 (clsV c)) ∧ w = w' := class_way c _ w h0 h1 (way_any c)
end Go.Proofs.Ytolbjbgeddjbaaa.Text
