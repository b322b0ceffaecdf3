/- How many keys belong to each part. -/
import Derived.Test.YtmkofjdmjilpiaaHashA
namespace Go.Proofs.Ytmkofjdmjilpiaa.Hash
open Go.RowKit Go.Proofs.Ytmkofjdmjilpiaa
set_option linter.unusedVariables false

/-- How many of the first j keys belong to part k of N. -/
def cnt (f : Nat → ByteArray) (N : Nat) : Nat → Nat → Nat
  | 0, _ => 0
  | j + 1, k => cnt f N j k + if k = partK (f j).data.toList N then 1 else 0
theorem cnt_le (f : Nat → ByteArray) (N k : Nat) : ∀ j, cnt f N j k ≤ j
  | 0 => Nat.le_refl _
  | j + 1 => by have := cnt_le f N k j; unfold cnt; split <;> omega
def cntV (f : Nat → ByteArray) (N j : Nat) : Nat → Value := fun k => .int .i64 (cnt f N j k)
theorem int_info : (Try.prog.info? 3).map (fun i => (i.zero, i.size, i.bytes)) = some (some (.int .i64 0), 1, 8) := by kernel_rfl
theorem tab_step {w : World} {b N : Nat} {f : Nat → ByteArray} {j p : Nat} (h : Tab w b 3 N (cntV f N j)) (hp : partK (f j).data.toList N = p) :
    Tab (w.setCell ⟨b, p, none⟩ (.int .i64 ((cnt f N j p : Int) + 1))) b 3 N (cntV f N (j + 1)) := by
  refine h.put p _ (fun i _ hi => ?_) (fun _ => ?_)
  · unfold cntV; rw [cnt, hp, if_neg hi]; rfl
  · unfold cntV; rw [cnt, hp, if_pos rfl]; simp
/-- Strings that came in, or that were cut off them. -/
def Keys (w : World) (B : Nat) (A : Option Addr) (n : Nat) (f : Nat → ByteArray) : Prop := Lies w B A n (fun k => .string (f k)) ∧ ∀ k, k < n → (f k).size ≤ 9223372036854775807

set_option maxHeartbeats 800000 in
theorem spread_any (A : Option Addr) (n c : Nat) (f : Nat → ByteArray) (q : Int) (B : Nat) (w : World) (hl : Keys w B A n f) (hB : B ≤ w.heap.size) (hn : n ≤ 1000) :
    Calls Try.prog 19 #[.slice A n c, .int .i64 q] w fun e w' => e = .returned (.slice (some ⟨w.heap.size, 0, none⟩) (partsV q) (partsV q)) ∧ Tab w' w.heap.size 3 (partsV q) (cntV f (partsV q) n) ∧ Below w.heap.size w w' := by
  have HL := Lib.hid hl
  clear hl
  obtain ⟨p0, p1⟩ := partsV_pos q
  have hmk := fun wx => run_make_row' (P := Try.prog) 28 3 (.int .i64 0) 8 Try.underlying28 int_info rfl .i64 .i64 (partsV q) (by omega) (by omega) wx
  go_enter Try.func19, Try.ntmps19
  go_wp2_with (go_at_call 59; refine (within_any q _).mono ?_; rintro e w' ⟨rfl, rfl⟩)
  go_loopw [13] (fun i wr => ∃ k : Nat, k ≤ n ∧ i = .int .i64 k ∧ Hid (Tab wr w.heap.size 3 (partsV q) (cntV f (partsV q) k)) ∧ Hid (Below w.heap.size w wr)) (fun i _ => n - (intOf i).toNat)
  case atStart => exact ⟨0, by omega, rfl, Tab.made _ _ _ _, (Below.refl _ w).alloc (Nat.le_refl _) _⟩
  case round =>
    obtain ⟨k, hk, rfl, ht, hb⟩ := hrel
    by_cases hlt : k < n
    · obtain ⟨g, o, rfl, hg, hc⟩ := HL.out.1 k hlt
      have hck : wr.cell? ⟨g, o + k, none⟩ = some (.string (f k)) := (hb.out.cell (p := ⟨g, o + k, none⟩) (by simp; omega)).trans hc
      have hsz := HL.out.2 k hlt
      have hp := partK_lt (f k).data.toList (partsV q) p0
      have hcell := ht.out.cell hp
      have hfr := ht.out.free (partK (f k).data.toList (partsV q))
      have hle := cnt_le f (partsV q) (partK (f k).data.toList (partsV q)) k
      unfold cntV at hcell
      clear hc
      go_wp2_with (go_at_call 18; refine (part_any _ q _ hsz).mono ?_; rintro e w' ⟨rfl, rfl⟩)
      go_roundw
      case rel => exact ⟨k + 1, by omega, by go_num, tab_step ht.out rfl, hb.out.setCell (by simp) _⟩
      case measure => simp [intOf]; omega
    · obtain rfl : k = n := by omega
      go_wp2
      go_ret
      exact ⟨rfl, ht.out, hb.out⟩
theorem keys_nil (w : World) : Keys w w.heap.size none 0 (fun _ => ByteArray.empty) := ⟨fun k hk => by omega, fun k hk => by omega⟩
theorem partK_one (l : List UInt8) (N : Nat) (h : N = 1) : partK l N = 0 := by have := partK_lt l N (by omega); omega
set_option maxRecDepth 100000 in
theorem awake_any (w : World) : Calls Try.prog 15 #[] w fun e w' => e = .returned (.bool true) ∧ Below w.heap.size w w' := by
  have HB : Hid (baseH = 14695981039346656037) := rfl
  have HP : Hid (partsV 1 = 1) := rfl
  have HP3 : Hid (partsV 3 = 3) := rfl
  go_enter Try.func15, Try.ntmps15
  go_wp2_with fail
  refine (fnv_any _ _ (by decide)).mono ?_
  rintro e w' ⟨rfl, rfl⟩
  go_wp2_with fail
  refine (part_any _ 1 _ (by decide)).mono ?_
  rintro e w' ⟨rfl, rfl⟩
  go_wp2_with fail
  refine (spread_any none 0 0 _ 3 _ _ (keys_nil _) (Nat.le_refl _) (by decide)).mono ?_
  rintro e w1 ⟨rfl, _, hb⟩
  rw [HP3.out]
  go_wp2
  go_ret
  exact ⟨rfl, hb⟩
end Go.Proofs.Ytmkofjdmjilpiaa.Hash
