/- The walk of the law TextQuotes. -/
import Derived.Test.YtolbjbgeddjbaaaTextAwake
import Derived.Test.YtolbjbgeddjbaaaOpen
namespace Go.Proofs.Ytolbjbgeddjbaaa.Text
open Go.RowKit Go.Proofs.Ytolbjbgeddjbaaa
set_option linter.unusedVariables false

/-- A text's bytes, each mark twice. -/
def esc : List UInt8 → List UInt8
  | [] => []
  | c :: r => if c = 39 then 39 :: 39 :: esc r else c :: esc r
theorem esc_snoc (l : List UInt8) (c : UInt8) : esc (l ++ [c]) = esc l ++ (if c = 39 then [39, 39] else [c]) := by
  induction l with
  | nil => by_cases h : c = 39 <;> simp [esc, h]
  | cons a r ih =>
    by_cases h : a = 39
    · rw [List.cons_append, show esc (a :: (r ++ [c])) = 39 :: 39 :: esc (r ++ [c]) from if_pos h, ih, show esc (a :: r) = 39 :: 39 :: esc r from if_pos h]; rfl
    · rw [List.cons_append, show esc (a :: (r ++ [c])) = a :: esc (r ++ [c]) from if_neg h, ih, show esc (a :: r) = a :: esc r from if_neg h]; rfl
theorem esc_le (l : List UInt8) : (esc l).length ≤ 2 * l.length := by
  induction l with
  | nil => exact Nat.le_refl _
  | cons a r ih =>
    by_cases h : a = 39
    · rw [show esc (a :: r) = 39 :: 39 :: esc r from if_pos h]; simp only [List.length_cons]; omega
    · rw [show esc (a :: r) = a :: esc r from if_neg h]; simp only [List.length_cons]; omega
theorem qscan_esc (m : List UInt8) (hm : ∀ c r, m = c :: r → c ≠ 39) : ∀ (l : List UInt8) (i : Nat), qscan (esc l ++ 39 :: m) i = i + (esc l).length + 1
  | [], i => by
    cases m with
    | nil => simp [esc, qscan]
    | cons c r => simp [esc, qscan, hm c r rfl]
  | c :: l, i => by
    by_cases h : c = 39
    · rw [show esc (c :: l) = 39 :: 39 :: esc l from if_pos h]
      rw [show qscan (39 :: 39 :: esc l ++ 39 :: m) i = qscan (esc l ++ 39 :: m) (i + 2) from by simp [qscan]]
      rw [qscan_esc m hm l]
      simp only [List.length_cons]; omega
    · rw [show esc (c :: l) = c :: esc l from if_neg h]
      have : qscan (c :: esc l ++ 39 :: m) i = qscan (esc l ++ 39 :: m) (i + 1) := by
        rw [List.cons_append]
        generalize esc l ++ 39 :: m = x
        cases x <;> simp [qscan, h]
      rw [this, qscan_esc m hm l]
      simp only [List.length_cons]; omega
theorem qscan_open : ∀ (l : List UInt8) (i : Nat), qscan (esc l) i = 0
  | [], i => rfl
  | c :: l, i => by
    by_cases h : c = 39
    · rw [show esc (c :: l) = 39 :: 39 :: esc l from if_pos h]
      rw [show qscan (39 :: 39 :: esc l) i = qscan (esc l) (i + 2) from by simp [qscan]]
      exact qscan_open l _
    · rw [show esc (c :: l) = c :: esc l from if_neg h]
      have : qscan (c :: esc l) i = qscan (esc l) (i + 1) := by
        generalize esc l = x
        cases x <;> simp [qscan, h]
      rw [this]
      exact qscan_open l _
theorem size_toList (u : ByteArray) : u.data.toList.length = u.size := by simp
theorem toList_add (a b : ByteArray) : (a ++ b).data.toList = a.data.toList ++ b.data.toList := by rw [ByteArray.data_append, Array.toList_append]
theorem q_len (u mm : ByteArray) (l : List UInt8) (hu : u.data.toList = 39 :: esc l) (hm : ∀ c r, mm.data.toList = c :: r → c ≠ 39) : 0 + quN (u ++ ⟨#[39]⟩ ++ mm) 0 = u.size + 1 := by
  unfold quN
  have h : (u ++ ⟨#[39]⟩ ++ mm).data.toList = 39 :: (esc l ++ 39 :: mm.data.toList) := by rw [toList_add, toList_add, hu]; simp
  have hz : u.size = (esc l).length + 1 := by rw [← size_toList, hu]; rfl
  rw [List.drop_zero, h, show qlen (39 :: (esc l ++ 39 :: mm.data.toList)) = qscan (esc l ++ 39 :: mm.data.toList) 1 from rfl, qscan_esc _ hm l 1]
  omega
theorem q_pos (u mm : ByteArray) (l : List UInt8) (hu : u.data.toList = 39 :: esc l) (hm : ∀ c r, mm.data.toList = c :: r → c ≠ 39) : decide (0 < quN (u ++ ⟨#[39]⟩ ++ mm) 0) = true := by
  have := q_len u mm l hu hm
  simp; omega
theorem q_ext (u mm : ByteArray) : (u ++ ⟨#[39]⟩ ++ mm).extract 0 (u.size + 1) = u ++ ⟨#[39]⟩ := by
  apply of_list
  rw [ext_data, toList_add]
  simp only [List.drop_zero, Nat.sub_zero]
  rw [List.take_append_of_le_length (by rw [toList_add]; simp), List.take_of_length_le (by rw [toList_add]; simp)]
theorem q_open (u : ByteArray) (l : List UInt8) (hu : u.data.toList = 39 :: esc l) : quN u 0 = 0 := by
  unfold quN
  rw [List.drop_zero, hu]
  exact qscan_open l 1
theorem t_no (mm : ByteArray) : twoB (⟨#[33, 61]⟩ ++ mm) 0 ⟨#[60, 61]⟩ = false := by
  unfold twoB Lib.hasPrefix
  rw [List.drop_zero, toList_add]
  simp [List.isPrefixOf]
theorem t_yes (mm : ByteArray) : twoB (⟨#[33, 61]⟩ ++ mm) 0 ⟨#[33, 61]⟩ = true := by
  unfold twoB Lib.hasPrefix
  rw [List.drop_zero, toList_add]
  simp [List.isPrefixOf]
  decide
theorem t_long (s : ByteArray) (k : Nat) : twoB s k ⟨#[97, 98, 99]⟩ = false := by
  unfold twoB
  rw [show decide ((ByteArray.mk #[97, 98, 99]).size = 2) = false from by decide]
  rfl
theorem two_is (b k k' : Nat) (s p : ByteArray) (w : World) (r : Bool) (hr : Rd w b s k) (hk : k ≤ s.size) (hs : s.size ≤ 9223372036854775807) (hp : p.size ≤ 9223372036854775807) (h : twoB s k p = r) (h' : (if r = true then k + 2 else k) = k') :
    Calls Try.prog 29 #[.pointer (some ⟨b, 0, none⟩), .string p] w fun e w' => e = .returned (.bool r) ∧ Rd w' b s k' ∧ w.grownBy w' (some b) :=
  (two_any b k s p w hr hk hs hp).mono fun _ _ ⟨a1, a2, a3⟩ => ⟨a1.trans (by rw [h]), by rw [← h', ← h]; exact a2, a3⟩
theorem one_ext (s : ByteArray) (k : Nat) (h : k < s.size) : (s.extract k (k + 1)).data.toList = [s[k]] := by
  rw [ext_data, List.drop_eq_getElem_cons (by simpa using h)]
  rw [show k + 1 - k = 1 from by omega]
  simp
  rfl
theorem esc_step (s : ByteArray) (k : Nat) (h : k < s.size) (u v : ByteArray) (hu : Hid (u.data.toList = 39 :: esc (s.data.toList.take k))) (hc : Hid (s[k] = 39)) (hv : v = u ++ ⟨#[39]⟩ ++ s.extract k (k + 1) := by rfl) :
    Hid (v.data.toList = 39 :: esc (s.data.toList.take (k + 1))) := by
  subst hv
  unfold Hid
  rw [toList_add, toList_add, hu.out, one_ext s k h, take_snoc s k h, esc_snoc, if_pos hc.out, hc.out]
  simp
theorem esc_step0 (s : ByteArray) (k : Nat) (h : k < s.size) (u v : ByteArray) (hu : Hid (u.data.toList = 39 :: esc (s.data.toList.take k))) (hc : Hid (¬ s[k] = 39)) (hv : v = u ++ s.extract k (k + 1) := by rfl) :
    Hid (v.data.toList = 39 :: esc (s.data.toList.take (k + 1))) := by
  subst hv
  unfold Hid
  rw [toList_add, hu.out, one_ext s k h, take_snoc s k h, esc_snoc, if_neg hc.out]
  simp
theorem head_sp (E : ByteArray) : ∀ c r, (ByteArray.mk #[32] ++ E).data.toList = c :: r → c ≠ 39 := by
  intro c r h
  rw [toList_add] at h
  simp at h
  rw [← h.1]; decide
theorem head_no (E : ByteArray) (h : 0 < E.size) (hb : ((E[0]'h).toNat == (39 : Int)) = false) : ∀ c r, E.data.toList = c :: r → c ≠ 39 := by
  intro c r hc
  have h0 : E.data.toList[0]'(by simpa using h) = c := by simp only [hc]; rfl
  rw [sd E 0 h] at h0
  rw [← h0]
  rw [byte_eq] at hb
  simpa using hb
theorem head_nil (E : ByteArray) (h : ¬ 0 < E.size) : ∀ c r, E.data.toList = c :: r → c ≠ 39 := by
  intro c r hc
  have := size_toList E
  rw [hc] at this
  simp only [List.length_cons] at this
  omega
theorem hid_drewN' {B : Nat} {w0 w : World} (h : Hid (Below B w0 w)) (n : Nat) : Hid (Below B w0 (w.drewN n)) := ⟨h.out.os, h.out.tape, h.out.output, h.out.size, h.out.block⟩
theorem below_row {B b : Nat} {w0 w w' : World} (h : Below B w0 w) (hb : B ≤ b) (hB : B ≤ w.heap.size) (g : w.grownBy w' (some b)) : Below B w0 w' := h.grown g hB (by intro k hk; cases hk; exact hb)
set_option maxRecDepth 100000 in
set_option maxHeartbeats 4000000 in
theorem quotes_law (s : ByteArray) (ws : s.size ≤ maxLen) (more : ByteArray) (wm : more.size ≤ maxLen) (w : World) :
    Calls Try.prog 8 #[.string s, .string more] w fun e w' => e = .returned (.bool true) ∧ Below w.heap.size w w' := by
  unfold maxLen at ws wm
  go_enter Try.func8, Try.ntmps8
  go_wp2
  go_loop [5, 6] (fun q i => ∃ (k : Nat) (u : ByteArray), k ≤ s.size ∧ k ≤ 20 ∧ i = .int .i64 k ∧ q = .string u ∧ Hid (u.data.toList = 39 :: esc (s.data.toList.take k)) ∧ u.size ≤ 1 + 2 * k) (fun _ i => s.size - (intOf i).toNat)
  case atStart => exact ⟨0, _, by omega, by omega, rfl, rfl, rfl, by decide⟩
  case round =>
    obtain ⟨k, u, hk, hk20, rfl, rfl, hu, hsz⟩ := hrel
    by_cases hgo : k < s.size ∧ k < 20
    · obtain ⟨h1, h2⟩ := hgo
      have e20 : decide ((k : Int) < 20) = true := by simp; omega
      by_cases hc : s[k] = 39
      · have f1 : (((s[k]).toNat : Int) == 39) = true := by rw [byte_eq]; simpa using hc
        have HC := Lib.hid hc
        clear hc
        go_wp2
        go_round
        case rel => exact ⟨k + 1, _, by omega, by omega, by go_num, rfl, esc_step s k h1 u _ hu HC, by rw [ByteArray.size_append, ByteArray.size_append, ByteArray.size_extract, show (ByteArray.mk #[39]).size = 1 from rfl]; omega⟩
        case measure => simp [intOf]; omega
      · have f1 : (((s[k]).toNat : Int) == 39) = false := by rw [byte_eq]; simpa using hc
        have HC := Lib.hid hc
        clear hc
        go_wp2
        go_round
        case rel => exact ⟨k + 1, _, by omega, by omega, by go_num, rfl, esc_step0 s k h1 u _ hu HC, by rw [ByteArray.size_append, ByteArray.size_extract]; omega⟩
        case measure => simp [intOf]; omega
    · rcases (show (k < s.size ∧ decide ((k : Int) < 20) = false) ∨ ¬ k < s.size from by
        by_cases h : k < s.size
        · exact .inl ⟨h, by simp; omega⟩
        · exact .inr h) with ⟨hks, e20⟩ | hks
      all_goals
        clear hgo
        go_wp2_with fail
      all_goals
        first
          | (have hE : ¬ 0 < (more.extract 0 (min (more.size : Int) 9).toNat).size := by rw [ByteArray.size_extract]; omega
             have hN := Lib.hid (head_nil (more.extract 0 (min (more.size : Int) 9).toNat) hE)
             have hS : (more.extract 0 (min (more.size : Int) 9).toNat).size ≤ 10 := by rw [ByteArray.size_extract]; omega
             clear hE
             generalize more.extract 0 (min (more.size : Int) 9).toNat = mm at hN hS ⊢)
          | (have hE : 0 < (more.extract 0 (min (more.size : Int) 9).toNat).size := by rw [ByteArray.size_extract]; omega
             have h2 : (((more.extract 0 (min (more.size : Int) 9).toNat)[0]'hE).toNat == (39 : Int)) = false := by assumption
             have hN := Lib.hid (head_no (more.extract 0 (min (more.size : Int) 9).toNat) hE h2)
             have hS : (more.extract 0 (min (more.size : Int) 9).toNat).size ≤ 10 := by rw [ByteArray.size_extract]; omega
             generalize ((more.extract 0 (min (more.size : Int) 9).toNat)[0]'hE).toNat = nb
             clear h2 hE
             generalize more.extract 0 (min (more.size : Int) 9).toNat = mm at hN hS ⊢)
          | (have hN := Lib.hid (head_sp (more.extract 0 (min (more.size : Int) 9).toNat))
             have hS : (ByteArray.mk #[32] ++ more.extract 0 (min (more.size : Int) 9).toNat).size ≤ 10 := by rw [ByteArray.size_append, ByteArray.size_extract, show (ByteArray.mk #[32]).size = 1 from rfl]; omega
             generalize ByteArray.mk #[32] ++ more.extract 0 (min (more.size : Int) 9).toNat = mm at hN hS ⊢)
      all_goals
        refine (new_any _ _).mono ?_
        rintro e w1 ⟨rfl, rfl⟩
        have r0 : Rd (w.alloc (.cells #[.string (u ++ ⟨#[39]⟩ ++ mm), .int .i64 0] 68)) w.heap.size (u ++ ⟨#[39]⟩ ++ mm) 0 := Row.made _ _ _
        have b0 : Below w.heap.size w (w.alloc (.cells #[.string (u ++ ⟨#[39]⟩ ++ mm), .int .i64 0] 68)) := (Below.refl _ w).alloc (Nat.le_refl _) _
        have z0 : (u ++ ⟨#[39]⟩ ++ mm).size = u.size + 1 + mm.size := by rw [ByteArray.size_append, ByteArray.size_append]; rfl
        have R0 := Lib.hid r0
        have B0 := Lib.hid b0
        have Z0 := Lib.hid z0
        clear r0 b0 z0
        go_wp2_with fail
        refine (quoted_is w.heap.size 0 (u.size + 1) _ (u ++ ⟨#[39]⟩) true _ R0.out (by omega) (by have := Z0.out; omega) (q_len u mm _ hu.out hN.out) (q_ext u mm) (q_pos u mm _ hu.out hN.out)).mono ?_
        rintro e w1 ⟨rfl, r1, g1⟩
        have R1 := Lib.hid r1
        have B1 := Lib.hid (below_row B0.out (Nat.le_refl _) (by simp) g1)
        have S1 : w.heap.size < w1.heap.size := by have := g1.size; simp at this; omega
        clear r1 g1
        go_wp2_with fail
        refine (new_any _ _).mono ?_
        rintro e w2 ⟨rfl, rfl⟩
        have q0 : Rd (w1.alloc (.cells #[.string u, .int .i64 0] 68)) w1.heap.size u 0 := Row.made _ _ _
        have R2 := Lib.hid (Row.alloc R1.out (.cells #[.string u, .int .i64 0] 68))
        have B2 := Lib.hid (B1.out.alloc (by omega) (.cells #[.string u, .int .i64 0] 68))
        have Q0 := Lib.hid q0
        clear q0
        go_wp2_with fail
        refine (quoted_is w1.heap.size 0 0 _ ⟨#[]⟩ false _ Q0.out (by omega) (by omega) (by rw [q_open u _ hu.out]) (by simp; rfl) (by rw [q_open u _ hu.out]; rfl)).mono ?_
        rintro e w2 ⟨rfl, q1, g1⟩
        have R3 := Lib.hid (Row.grown R2.out g1 (by simp; omega))
        have B3 := Lib.hid (below_row B2.out (by omega) (by simp; omega) g1)
        have Q1 := Lib.hid q1
        have S2 : w1.heap.size < w2.heap.size := by have := g1.size; simp at this; omega
        clear q1 g1
        go_wp2_with fail
        refine (new_any _ _).mono ?_
        rintro e w3 ⟨rfl, rfl⟩
        have t0 : Rd (w2.alloc (.cells #[.string (⟨#[33, 61]⟩ ++ mm), .int .i64 0] 68)) w2.heap.size (⟨#[33, 61]⟩ ++ mm) 0 := Row.made _ _ _
        have z2 : (ByteArray.mk #[33, 61] ++ mm).size = 2 + mm.size := by rw [ByteArray.size_append]; rfl
        have Z2 := Lib.hid z2
        have R4 := Lib.hid (Row.alloc R3.out (.cells #[.string (⟨#[33, 61]⟩ ++ mm), .int .i64 0] 68))
        have Q2 := Lib.hid (Row.alloc Q1.out (.cells #[.string (⟨#[33, 61]⟩ ++ mm), .int .i64 0] 68))
        have B4 := Lib.hid (B3.out.alloc (by omega) (.cells #[.string (⟨#[33, 61]⟩ ++ mm), .int .i64 0] 68))
        have T0 := Lib.hid t0
        clear t0 z2
        go_wp2_with fail
        refine (two_is w2.heap.size 0 0 _ _ _ false T0.out (by omega) (by have := Z2.out; omega) (by decide) (t_no mm) rfl).mono ?_
        rintro e w3 ⟨rfl, t1, g1⟩
        have R5 := Lib.hid (Row.grown R4.out g1 (by simp; omega))
        have Q3 := Lib.hid (Row.grown Q2.out g1 (by simp; omega))
        have B5 := Lib.hid (below_row B4.out (by omega) (by simp; omega) g1)
        have T1 := Lib.hid t1
        have S3 : w2.heap.size < w3.heap.size := by have := g1.size; simp at this; omega
        clear t1 g1
        go_wp2_with fail
        refine (two_is w2.heap.size 0 2 _ _ _ true T1.out (by omega) (by have := Z2.out; omega) (by decide) (t_yes mm) rfl).mono ?_
        rintro e w4 ⟨rfl, t1, g1⟩
        have R6 := Lib.hid (Row.grown R5.out g1 (by simp; omega))
        have Q4 := Lib.hid (Row.grown Q3.out g1 (by simp; omega))
        have B6 := Lib.hid (below_row B5.out (by omega) (by omega) g1)
        have T2 := Lib.hid t1
        have S4 : w2.heap.size < w4.heap.size := by have := g1.size; omega
        clear t1 g1
        go_wp2_with fail
        refine (quoted_nil _).mono ?_
        rintro e w' ⟨rfl, rfl⟩
        go_wp2_with fail
        refine (awake_any _).mono ?_
        rintro e w5 ⟨rfl, hb5⟩
        have R7 := Lib.hid (Row.below R6.out hb5 (by omega))
        have Q5 := Lib.hid (Row.below Q4.out hb5 (by omega))
        have T3 := Lib.hid (Row.below T2.out hb5 (by omega))
        have B7 := Lib.hid (B6.out.trans (hb5.mono (by omega)))
        have S5 : w2.heap.size < w5.heap.size := by have := hb5.size; omega
        clear hb5
        go_wp2_with fail
        refine (left_is w.heap.size (u.size + 1) _ _ mm.size R7.out (by have := Z0.out; omega) (by have := Z0.out; omega) (by have := Z0.out; omega)).mono ?_
        rintro e w' ⟨rfl, n1, rfl⟩
        go_wp2_with fail
        refine (at_any w1.heap.size 0 u _ (Row.drewN Q5.out n1)).mono ?_
        rintro e w' ⟨rfl, rfl⟩
        go_wp2_with fail
        refine (at_any w2.heap.size 2 _ _ (Row.drewN T3.out n1)).mono ?_
        rintro e w' ⟨rfl, rfl⟩
        go_wp2_with fail
        refine (two_is w2.heap.size 2 2 _ _ _ false (Row.drewN T3.out n1) (by have := Z2.out; omega) (by have := Z2.out; omega) (by decide) (t_long _ _) rfl).mono ?_
        rintro e w6 ⟨rfl, t1, g1⟩
        have B8 := Lib.hid (below_row (hid_drewN' B7 n1).out (by omega) (show w.heap.size ≤ w5.heap.size by omega) g1)
        have S6 : w2.heap.size < w6.heap.size := Nat.lt_of_lt_of_le S5 g1.size
        clear t1 g1
        go_wp2_with (first
          | (go_at_call 23; refine (byte_nil _).mono ?_; rintro e w' ⟨rfl, rfl⟩)
          | (go_at_call 27; refine (classm_nil _).mono ?_; rintro e w' ⟨rfl, rfl⟩)
          | (go_at_call 25; refine (at_nil _).mono ?_; rintro e w' ⟨rfl, rfl⟩)
          | (go_at_call 26; refine (left_nil _).mono ?_; rintro e w' ⟨rfl, rfl⟩)
          | (go_at_call 24; refine (run_nil _ _ _ _ [1] _).mono ?_; rintro e w' ⟨rfl, rfl⟩)
          | (go_at_call 29; refine (two_nil _ _ (by decide) (by decide)).mono ?_; rintro e w' ⟨rfl, rfl⟩))
        go_ret
        exact ⟨rfl, B8.out.alloc (by omega) _⟩
end Go.Proofs.Ytolbjbgeddjbaaa.Text
