/- The Reader's Run: bytes are taken as long as each is of one of some classes. -/
import Derived.Test.YtolbjbgeddjbaaaTextTake
namespace Go.Proofs.Ytolbjbgeddjbaaa.Text
open Go.RowKit Go.Proofs.Ytolbjbgeddjbaaa
set_option linter.unusedVariables false

/-- How many bytes of a list are of one of some classes, from its head on. -/
def runN (cl : List Int) : List UInt8 → Nat
  | [] => 0
  | c :: r => if cl.contains (clsV c.toNat) = true then runN cl r + 1 else 0
theorem runN_le (cl : List Int) : ∀ l, runN cl l ≤ l.length
  | [] => Nat.le_refl _
  | c :: r => by
    unfold runN
    have := runN_le cl r
    split <;> simp <;> omega
theorem runN_drop (cl : List Int) (l : List UInt8) (j : Nat) (h : j < l.length) : runN cl (l.drop j) = if cl.contains (clsV (l[j]).toNat) = true then runN cl (l.drop (j + 1)) + 1 else 0 := by
  rw [List.drop_eq_getElem_cons h]
  rfl
theorem runN_end (cl : List Int) (l : List UInt8) (j : Nat) (h : l.length ≤ j) : runN cl (l.drop j) = 0 := by
  rw [List.drop_of_length_le h]
  rfl
/-- A list of classes, somewhere in memory. -/
def Classes (w : World) (g o n : Nat) (cl : List Int) : Prop := cl.length = n ∧ 0 < n ∧ ∀ j, j < cl.length → w.cell? ⟨g, o + j, none⟩ = some (.int .i64 (cl.getD j 0))
theorem Classes.drewN {w : World} {g o n : Nat} {cl : List Int} (h : Classes w g o n cl) (m : Nat) : Classes (w.drewN m) g o n cl := h
theorem contains_any (g o n c : Nat) (cl : List Int) (x : Int) (w : World) (h : Classes w g o n cl) (hn : n ≤ 9223372036854775807) :
    Calls Try.prog 41 #[.slice (some ⟨g, o, none⟩) n c, .int .i64 x] w fun e w' => e = .returned (.bool (cl.contains x)) ∧ w = w' :=
  (Try.slices_Contains_int g o n c cl x w (by have := h.1; omega) hn h.2.2).mono fun _ _ ⟨h1, h2⟩ => ⟨h1.trans (by rw [List.take_of_length_le (by have := h.1; omega)]), h2.symm⟩
def hit (cl : List Int) (x : Int) : Bool := cl.contains x
theorem contains_yes (g o n c : Nat) (cl : List Int) (x : Int) (w : World) (h : Classes w g o n cl) (hn : n ≤ 9223372036854775807) (b : Bool) (hb : hit cl x = b) :
    Calls Try.prog 41 #[.slice (some ⟨g, o, none⟩) n c, .int .i64 x] w fun e w' => e = .returned (.bool b) ∧ w = w' :=
  (contains_any g o n c cl x w h hn).mono fun _ _ ⟨h1, h2⟩ => ⟨h1.trans (by rw [← hb]; rfl), h2⟩

set_option maxHeartbeats 400000 in
theorem run_any (b k g o n c : Nat) (s : ByteArray) (cl : List Int) (w : World) (hr : Rd w b s k) (hk : k ≤ s.size) (hs : s.size ≤ 9223372036854775807) (hc : Classes w g o n cl) (hn : n ≤ 9223372036854775807) :
    Calls Try.prog 24 #[.pointer (some ⟨b, 0, none⟩), .slice (some ⟨g, o, none⟩) n c] w fun e w' =>
      e = .returned (.string (s.extract k (k + runN cl (s.data.toList.drop k)))) ∧ Rd w' b s (k + runN cl (s.data.toList.drop k)) ∧ w.grownBy w' (some b) := by
  go_enter Try.func24, Try.ntmps24
  go_wp2_with (go_at_call 40; refine (rest_any b k s w hr hk hs).mono ?_; rintro e w' ⟨rfl, m, rfl⟩)
  have hl : (s.data.toList.drop k).length = s.size - k := by simp
  have HL := Lib.hid hl
  clear hl
  go_loop [6] (fun i => ∃ j : Nat, j ≤ s.size - k ∧ i = .int .i64 j ∧ Hid (j + runN cl (s.data.toList.drop (k + j)) = runN cl (s.data.toList.drop k))) (fun i => (s.size - k) - (intOf i).toNat)
  case atStart => exact ⟨0, by omega, rfl, by unfold Hid; simp⟩
  case round =>
    obtain ⟨j, hj, rfl, hrun⟩ := hrel
    by_cases hlt : j < s.size - k
    · have hd := runN_drop cl s.data.toList (k + j) (by simp; omega)
      have HX := Lib.hid (ext_at s k j (by rw [ByteArray.size_extract]; omega) (by omega))
      have HD := Lib.hid hd
      clear hd
      rcases hh : hit cl (clsV ((s.extract k s.size)[j]'(by rw [ByteArray.size_extract]; omega)).toNat) with _ | _
      · have HH := Lib.hid hh
        clear hh
        go_wp2_with (first
          | (go_at_call 20; refine (class_any _ _ (byte_ge _) (byte_le _)).mono ?_; rintro e w' ⟨rfl, rfl⟩)
          | (go_at_call 41; refine (contains_yes _ _ _ _ cl _ _ (hc.drewN m) hn _ HH.out).mono ?_; rintro e w' ⟨rfl, rfl⟩)
          | (go_at_call 39; refine (take_any b k j s _ (Row.drewN hr m) (by omega) hs).mono ?_; rintro e w1 ⟨rfl, hr1, hg1⟩))
        go_ret
        have e1 : runN cl (s.data.toList.drop k) = j := by
          have h1 := hrun.out
          have h2 := HD.out
          rw [if_neg (by have := HH.out; unfold hit at this; rw [HX.out] at this; rw [show s.data.toList[k + j]'(by simp; omega) = s[k + j]'(by omega) from sd s (k + j) (by omega) _, this]; simp)] at h2
          omega
        rw [e1]
        exact ⟨rfl, hr1, grown_trans (grown_drewN _ m _) hg1⟩
      · have HH := Lib.hid hh
        clear hh
        go_wp2_with (first
          | (go_at_call 20; refine (class_any _ _ (byte_ge _) (byte_le _)).mono ?_; rintro e w' ⟨rfl, rfl⟩)
          | (go_at_call 41; refine (contains_yes _ _ _ _ cl _ _ (hc.drewN m) hn _ HH.out).mono ?_; rintro e w' ⟨rfl, rfl⟩))
        go_round
        case rel =>
          refine ⟨j + 1, by omega, by go_num, ?_⟩
          have h1 := hrun.out
          have h2 := HD.out
          rw [if_pos (by have := HH.out; unfold hit at this; rw [HX.out] at this; rw [show s.data.toList[k + j]'(by simp; omega) = s[k + j]'(by omega) from sd s (k + j) (by omega) _, this])] at h2
          unfold Hid
          rw [show k + (j + 1) = k + j + 1 from rfl]
          omega
        case measure => simp [intOf]; omega
    · have hje : j = s.size - k := by omega
      have HJ := Lib.hid hje
      clear hje
      go_wp2_with (go_at_call 39; refine (take_any b k j s _ (Row.drewN hr m) (by omega) hs).mono ?_; rintro e w1 ⟨rfl, hr1, hg1⟩)
      go_ret
      have e1 : runN cl (s.data.toList.drop k) = j := by
        have h1 := hrun.out
        have h2 := runN_end cl s.data.toList (k + j) (by simp; omega)
        omega
      rw [e1]
      exact ⟨rfl, hr1, grown_trans (grown_drewN _ m _) hg1⟩
end Go.Proofs.Ytolbjbgeddjbaaa.Text
