/- The walk of the law TextRuns. -/
import Derived.Test.YtolbjbgeddjbaaaTextAwake
import Derived.Test.YtolbjbgeddjbaaaOpen
namespace Go.Proofs.Ytolbjbgeddjbaaa.Text
open Go.RowKit Go.Proofs.Ytolbjbgeddjbaaa
set_option linter.unusedVariables false

theorem runN_two (a b : Int) (l : List UInt8) (j : Nat) (h : j < l.length) (x : Int) (hx : clsV (l[j]).toNat = x) :
    runN [a, b] (l.drop j) = if x = a ∨ x = b then runN [a, b] (l.drop (j + 1)) + 1 else 0 := by
  rw [runN_drop [a, b] l j h, hx]
  have : ([a, b].contains x = true) ↔ (x = a ∨ x = b) := by simp
  by_cases hc : x = a ∨ x = b
  · rw [if_pos (this.2 hc), if_pos hc]
  · rw [if_neg (fun h => hc (this.1 h)), if_neg hc]
theorem classes_two (w : World) (x y : Int) (g : Nat) (hg : g = w.heap.size) : Classes (w.alloc (.cells #[.int .i64 x, .int .i64 y] 3)) g 0 2 [x, y] :=
  ⟨rfl, by omega, fun j hj => by
    subst hg
    rcases (show j = 0 ∨ j = 1 by simp at hj; omega) with rfl | rfl <;> simp⟩
theorem lclass_is (c r : Int) (w : World) (h0 : 0 ≤ c) (h1 : c ≤ 255) (h : clsV c = r) :
    Calls Try.prog 21 #[.int .u8 c] w fun e w' => e = .returned (.int .i64 r) ∧ w = w' :=
  (lclass_any c w h0 h1).mono fun _ _ ⟨a1, a2⟩ => ⟨a1.trans (by rw [h]), a2⟩
theorem classm_is (b k : Nat) (s : ByteArray) (w : World) (r : Int) (hr : Rd w b s k) (hk : k ≤ s.size) (hs : s.size ≤ 9223372036854775807) (h : nextV s k = r) :
    Calls Try.prog 27 #[.pointer (some ⟨b, 0, none⟩)] w fun e w' => e = .returned (.int .i64 r) ∧ ∃ n, w' = w.drewN n :=
  (classm_any b k s w hr hk hs).mono fun _ _ ⟨a1, a2⟩ => ⟨a1.trans (by rw [h]), a2⟩
theorem byte_is (b k k' : Nat) (s : ByteArray) (w : World) (r : Int) (hr : Rd w b s k) (hk : k ≤ s.size) (hs : s.size ≤ 9223372036854775807) (h : nextB s k = r) (h' : nextK s k = k') :
    Calls Try.prog 23 #[.pointer (some ⟨b, 0, none⟩)] w fun e w' => e = .returned (.int .u8 r) ∧ Rd w' b s k' ∧ w.grownBy w' (some b) :=
  (byte_any b k s w hr hk hs).mono fun _ _ ⟨a1, a2, a3⟩ => ⟨a1.trans (by rw [h]), by rw [← h']; exact a2, a3⟩
/-- The head of a round, up to the inner loop; the loop itself; what is behind it. -/
theorem grow_hid {B : Nat} {w0 w w' : World} (h : Hid (Below B w0 w)) (hB : B < w.heap.size) (hg : w.grownBy w' (some B)) : Hid (Below B w0 w') ∧ B < w'.heap.size :=
  ⟨h.out.grown hg (by omega) (by simp), Nat.lt_of_lt_of_le hB hg.size⟩
theorem hid_drewN {B : Nat} {w0 w : World} (h : Hid (Below B w0 w)) (n : Nat) : Hid (Below B w0 (w.drewN n)) := ⟨h.out.os, h.out.tape, h.out.output, h.out.size, h.out.block⟩
theorem grow_hid0 {B : Nat} {w0 w w' : World} (h : Hid (Below B w0 w)) (hB : B < w.heap.size) (hg : w.grownBy w' none) : Hid (Below B w0 w') ∧ B < w'.heap.size :=
  ⟨h.out.grown hg (by omega) (by simp), Nat.lt_of_lt_of_le hB hg.size⟩

set_option maxRecDepth 100000 in
set_option maxHeartbeats 4000000 in
theorem runs_law (s : ByteArray) (ws : s.size ≤ maxLen) (A : Option Addr) (n c : Nat) (f : Nat → Int) (ln : n ≤ c) (lc : c ≤ 9223372036854775807) (lb : ∀ k, -9223372036854775808 ≤ f k ∧ f k ≤ 9223372036854775807)
    (w : World) (lies : Lies w w.heap.size A n (fun k => .int .i64 (f k))) :
    Calls Try.prog 7 #[.string s, .slice A n c] w fun e w' => e = .returned (.bool true) ∧ Below w.heap.size w w' := by
  unfold maxLen at ws
  have HL := Lib.hid lies
  have HB := Lib.hid lb
  clear lies lb
  go_enter Try.func7, Try.ntmps7
  go_wp2_with fail
  generalize ht : s.extract 0 (min (s.size : Int) 40).toNat = t
  have hsz : t.size ≤ 40 := by rw [← ht, ByteArray.size_extract]; omega
  clear ht
  refine (new_any _ _).mono ?_
  rintro e w1 ⟨rfl, rfl⟩
  have hr0 : Rd (w.alloc (.cells #[.string t, .int .i64 0] 68)) w.heap.size t 0 := Row.made _ _ _
  have HR0 := Lib.hid hr0
  clear hr0
  go_wp2
  go_loopw [7, 8] (fun a i wr => ∃ k j : Nat, k ≤ t.size ∧ j ≤ n ∧ a = .int .i64 k ∧ i = .int .i64 j ∧ Hid (Rd wr w.heap.size t k) ∧ Hid (Below w.heap.size w wr) ∧ w.heap.size < wr.heap.size) (fun _ i _ => n - (intOf i).toNat)
  case atStart => exact ⟨0, 0, by omega, by omega, rfl, rfl, HR0, (Below.refl _ w).alloc (Nat.le_refl _) _, by simp⟩
  case round =>
    obtain ⟨k, j, hk, hj, rfl, rfl, hr, hb, hlt⟩ := hrel
    obtain ⟨wo, rfl⟩ : ∃ wo : World, wo = wr := ⟨_, rfl⟩
    by_cases hjn : j < n
    · by_cases h20 : j < 20
      · obtain ⟨g, o, rfl, hg, hcell⟩ := HL.out j hjn
        have hcj : wo.cell? ⟨g, o + j, none⟩ = some (.int .i64 (f j)) := (hb.out.cell (p := ⟨g, o + j, none⟩) hg).trans hcell
        have e20 : decide ((j : Int) < 20) = true := by simp; omega
        clear hcell
        go_wp2
        go_quiet (fail)
        go_wp2
        generalize bits BinOp.and IntKind.i64 (f j) 7 = a
        generalize bits BinOp.and IntKind.i64 (f j / 8) 7 = b
        go_loop [11] (fun q => ∃ m : Nat, k ≤ m ∧ m ≤ t.size ∧ q = .int .i64 m ∧ Hid (m + runN [a, b] (t.data.toList.drop m) = k + runN [a, b] (t.data.toList.drop k))) (fun q => t.size - (intOf q).toNat)
        case atStart => exact ⟨k, by omega, hk, rfl, rfl⟩
        case round =>
          obtain ⟨m, hm0, hm, rfl, hrun⟩ := hrel
          by_cases hmt : m < t.size
          · generalize hx : clsV (t[m]).toNat = x
            have HX := Lib.hid hx
            have HT : Hid (t.data.toList[m]'(by simp; omega) = t[m]) := sd t m hmt _
            have HY : Hid (clsV (t.data.toList[m]'(by simp; omega)).toNat = x) := by unfold Hid; rw [HT.out]; exact hx
            clear hx
            by_cases hxa : x = a
            · have e1 : (x == a) = true := by simpa using hxa
              have HR : Hid (m + 1 + runN [a, b] (t.data.toList.drop (m + 1)) = k + runN [a, b] (t.data.toList.drop k)) := by
                have h1 := hrun.out
                rw [runN_two a b _ m (by simp; omega) x HY.out, if_pos (.inl hxa)] at h1
                unfold Hid; omega
              clear hxa
              go_wp2_with (go_at_call 21; refine (lclass_is _ x _ (byte_ge _) (byte_le _) HX.out).mono ?_; rintro e w' ⟨rfl, rfl⟩)
              go_round
              case rel => exact ⟨m + 1, by omega, by omega, by go_num, HR⟩
              case measure => simp [intOf]; omega
            · have e1 : (x == a) = false := by simpa using hxa
              by_cases hxb : x = b
              · have e2 : (x == b) = true := by simpa using hxb
                have HR : Hid (m + 1 + runN [a, b] (t.data.toList.drop (m + 1)) = k + runN [a, b] (t.data.toList.drop k)) := by
                  have h1 := hrun.out
                  rw [runN_two a b _ m (by simp; omega) x HY.out, if_pos (.inr hxb)] at h1
                  unfold Hid; omega
                clear hxa hxb
                go_wp2_with (go_at_call 21; refine (lclass_is _ x _ (byte_ge _) (byte_le _) HX.out).mono ?_; rintro e w' ⟨rfl, rfl⟩)
                go_round
                case rel => exact ⟨m + 1, by omega, by omega, by go_num, HR⟩
                case measure => simp [intOf]; omega
              · have e2 : (x == b) = false := by simpa using hxb
                have HR : Hid (k + runN [a, b] (t.data.toList.drop k) = m) := by
                  have h1 := hrun.out
                  rw [runN_two a b _ m (by simp; omega) x HY.out, if_neg (by rintro (h | h) <;> contradiction)] at h1
                  unfold Hid; omega
                have HN : Hid (nextV t m = x) := (nextV_yes t m hmt).trans HX.out
                clear hxa hxb
                by_cases hbit : bits BinOp.and IntKind.i64 (f j / 64) 3 = 0
                · have hz : (bits BinOp.and IntKind.i64 (f j / 64) 3 == 0) = true := by simpa using hbit
                  clear hbit
                  go_wp2_with (first
                    | (go_at_call 21; first
                      | ((with_reducible refine (lclass_is _ x _ (byte_ge _) (byte_le _) HX.out).mono ?_); rintro e w' ⟨rfl, rfl⟩)
                      | (refine (lclass_any _ _ (byte_ge _) (byte_le _)).mono ?_; rintro e w' ⟨rfl, rfl⟩))
                    | (go_at_call 23; refine (byte_is _ k (k + 1) t _ _ (Row.drewN hr.out nq) hk (by omega) (nextB_yes t k (by omega)) (nextK_yes t k (by omega))).mono ?_; rintro e w2 ⟨rfl, hr2, hg2⟩; obtain ⟨hb2, hlt2⟩ := grow_hid hb hlt (grown_trans (grown_drewN _ nq _) hg2))
                    | (go_at_call 25; refine (at_any _ _ t _ hr2).mono ?_; rintro e w' ⟨rfl, rfl⟩)
                    | (go_at_call 26; refine (left_any _ _ t _ hr2 (by omega) (by omega)).mono ?_; rintro e w' ⟨rfl, n1, rfl⟩)
                    | (go_at_call 27; first
                      | (refine (classm_is _ (k + 1) t _ _ (Row.drewN hr2 n1) (by omega) (by omega) (nextV_yes t (k + 1) (by omega))).mono ?_; rintro e w' ⟨rfl, n2, rfl⟩)
                      | (refine (classm_is _ (k + 1) t _ _ (Row.drewN hr2 n1) (by omega) (by omega) (nextV_no t (k + 1) (by omega))).mono ?_; rintro e w' ⟨rfl, n2, rfl⟩)))
                  all_goals
                    go_roundw
                    case rel => exact ⟨k + 1, j + 1, by omega, by omega, by go_num, by go_num, Row.drewN hr2 _, hid_drewN hb2 _, hlt2⟩
                    case measure => simp [intOf]; omega
                · have hz : (bits BinOp.and IntKind.i64 (f j / 64) 3 == 0) = false := by simpa using hbit
                  clear hbit
                  go_wp2_with (go_at_call 21; refine (lclass_is _ x _ (byte_ge _) (byte_le _) HX.out).mono ?_; rintro e w' ⟨rfl, rfl⟩)
                  go_region_with (go_at_call 24; refine (run_is _ k _ 0 2 2 m t (t.extract k m) [a, b] _ (Row.alloc (Row.drewN hr.out _) _) hk (by omega) (classes_two _ a b _ rfl) (by omega) HR.out rfl).mono ?_; rintro e w2 ⟨rfl, hr2, hg2⟩)
                  obtain ⟨hb2, hlt2⟩ := grow_hid hb hlt (grown_trans (grown_trans (grown_drewN _ _ _) (grown_alloc _ _ _)) hg2)
                  go_wp2_with (first
                    | (go_at_call 21; refine (lclass_is _ x _ (byte_ge _) (byte_le _) HX.out).mono ?_; rintro e w' ⟨rfl, rfl⟩)
                    | (go_at_call 25; refine (at_any _ _ t _ hr2).mono ?_; rintro e w' ⟨rfl, rfl⟩)
                    | (go_at_call 26; refine (left_any _ _ t _ hr2 (by omega) (by omega)).mono ?_; rintro e w' ⟨rfl, n1, rfl⟩)
                    | (go_at_call 27; refine (classm_is _ m t _ _ (Row.drewN hr2 n1) (by omega) (by omega) HN.out).mono ?_; rintro e w' ⟨rfl, n2, rfl⟩))
                  go_roundw
                  case rel => exact ⟨m, j + 1, by omega, by omega, by go_num, by go_num, Row.drewN hr2 _, hid_drewN hb2 _, hlt2⟩
                  case measure => simp [intOf]; omega
          · have hme : m = t.size := by omega
            have HR : Hid (k + runN [a, b] (t.data.toList.drop k) = m) := by
              have h1 := hrun.out
              rw [runN_end [a, b] _ m (by simp; omega)] at h1
              unfold Hid; omega
            have HN : Hid (nextV t m = 0) := nextV_no t m hmt
            clear hme
            by_cases hbit : bits BinOp.and IntKind.i64 (f j / 64) 3 = 0
            · have hz : (bits BinOp.and IntKind.i64 (f j / 64) 3 == 0) = true := by simpa using hbit
              clear hbit
              by_cases hks : k < t.size
              · go_wp2_with (first
                  | (go_at_call 21; refine (lclass_any _ _ (byte_ge _) (byte_le _)).mono ?_; rintro e w' ⟨rfl, rfl⟩)
                  | (go_at_call 23; refine (byte_is _ k (k + 1) t _ _ (Row.drewN hr.out nq) hk (by omega) (nextB_yes t k (by omega)) (nextK_yes t k (by omega))).mono ?_; rintro e w2 ⟨rfl, hr2, hg2⟩; obtain ⟨hb2, hlt2⟩ := grow_hid hb hlt (grown_trans (grown_drewN _ nq _) hg2))
                  | (go_at_call 25; refine (at_any _ _ t _ hr2).mono ?_; rintro e w' ⟨rfl, rfl⟩)
                  | (go_at_call 26; refine (left_any _ _ t _ hr2 (by omega) (by omega)).mono ?_; rintro e w' ⟨rfl, n1, rfl⟩)
                  | (go_at_call 27; first
                    | (refine (classm_is _ (k + 1) t _ _ (Row.drewN hr2 n1) (by omega) (by omega) (nextV_yes t (k + 1) (by omega))).mono ?_; rintro e w' ⟨rfl, n2, rfl⟩)
                    | (refine (classm_is _ (k + 1) t _ _ (Row.drewN hr2 n1) (by omega) (by omega) (nextV_no t (k + 1) (by omega))).mono ?_; rintro e w' ⟨rfl, n2, rfl⟩)))
                all_goals
                  go_roundw
                  case rel => exact ⟨k + 1, j + 1, by omega, by omega, by go_num, by go_num, Row.drewN hr2 _, hid_drewN hb2 _, hlt2⟩
                  case measure => simp [intOf]; omega
              · go_wp2_with (first
                  | (go_at_call 23; refine (byte_is _ k k t _ _ (Row.drewN hr.out nq) hk (by omega) (nextB_no t k (by omega)) (nextK_no t k (by omega))).mono ?_; rintro e w2 ⟨rfl, hr2, hg2⟩; obtain ⟨hb2, hlt2⟩ := grow_hid hb hlt (grown_trans (grown_drewN _ nq _) hg2))
                  | (go_at_call 25; refine (at_any _ _ t _ hr2).mono ?_; rintro e w' ⟨rfl, rfl⟩)
                  | (go_at_call 26; refine (left_any _ _ t _ hr2 (by omega) (by omega)).mono ?_; rintro e w' ⟨rfl, n1, rfl⟩)
                  | (go_at_call 27; refine (classm_is _ k t _ _ (Row.drewN hr2 n1) (by omega) (by omega) (nextV_no t k (by omega))).mono ?_; rintro e w' ⟨rfl, n2, rfl⟩))
                go_roundw
                case rel => exact ⟨k, j + 1, by omega, by omega, by go_num, by go_num, Row.drewN hr2 _, hid_drewN hb2 _, hlt2⟩
                case measure => simp [intOf]; omega
            · have hz : (bits BinOp.and IntKind.i64 (f j / 64) 3 == 0) = false := by simpa using hbit
              clear hbit
              go_wp2
              go_region_with (go_at_call 24; refine (run_is _ k _ 0 2 2 m t (t.extract k m) [a, b] _ (Row.alloc (Row.drewN hr.out _) _) hk (by omega) (classes_two _ a b _ rfl) (by omega) HR.out rfl).mono ?_; rintro e w2 ⟨rfl, hr2, hg2⟩)
              obtain ⟨hb2, hlt2⟩ := grow_hid hb hlt (grown_trans (grown_trans (grown_drewN _ _ _) (grown_alloc _ _ _)) hg2)
              go_wp2_with (first
                | (go_at_call 25; refine (at_any _ _ t _ hr2).mono ?_; rintro e w' ⟨rfl, rfl⟩)
                | (go_at_call 26; refine (left_any _ _ t _ hr2 (by omega) (by omega)).mono ?_; rintro e w' ⟨rfl, n1, rfl⟩)
                | (go_at_call 27; refine (classm_is _ m t _ _ (Row.drewN hr2 n1) (by omega) (by omega) HN.out).mono ?_; rintro e w' ⟨rfl, n2, rfl⟩))
              go_roundw
              case rel => exact ⟨m, j + 1, by omega, by omega, by go_num, by go_num, Row.drewN hr2 _, hid_drewN hb2 _, hlt2⟩
              case measure => simp [intOf]; omega
      · have e20 : decide ((j : Int) < 20) = false := by simp; omega
        go_wp2_with (go_at_call 19; refine (awake_any wo).mono ?_; rintro e w1 ⟨rfl, hb1⟩)
        go_ret
        exact ⟨rfl, hb.out.trans (hb1.mono (by omega))⟩
    · go_wp2_with (go_at_call 19; refine (awake_any wo).mono ?_; rintro e w1 ⟨rfl, hb1⟩)
      go_ret
      exact ⟨rfl, hb.out.trans (hb1.mono (by omega))⟩
end Go.Proofs.Ytolbjbgeddjbaaa.Text
