/- What a name is, as the statements' own words have it: the same. -/
import Derived.Test.YtjnlpgmocngenaaSchB
namespace Go.Proofs.Ytjnlpgmocngenaa.Sch
open Go.RowKit Go.Proofs.Ytjnlpgmocngenaa
set_option linter.unusedVariables false

def NameR (l : List UInt8) (w : World) (e : Ending) (w' : World) : Prop := e = .returned (.bool (nameB l)) ∧ Below w.heap.size w w'
theorem nameR_no {l : List UInt8} {w w' : World} (h : nameB l = false) (hb : Below w.heap.size w w') : NameR l w (.returned (.bool false)) w' := ⟨by rw [h], hb⟩
theorem nameR_yes {l : List UInt8} {w w' : World} (h : nameB l = true) (hb : Below w.heap.size w w') : NameR l w (.returned (.bool true)) w' := ⟨by rw [h], hb⟩
/-- The bytes so far are such as a name may have, the first one no digit. -/
def Fst (s : ByteArray) (k : Nat) : Prop := AllN s k ∧ ∀ h : 0 < s.size, 0 < k → isDig s[0].toNat = false
theorem Fst.zero (s : ByteArray) : Fst s 0 := ⟨AllN.zero s, fun _ h => absurd h (by omega)⟩
theorem Fst.succ {s : ByteArray} {k : Nat} (h : Fst s k) (hk : k < s.size) (g : (isLet s[k].toNat || isDig s[k].toNat) = true) (g0 : k = 0 → isDig s[k].toNat = false) : Fst s (k + 1) := by
  refine ⟨h.1.succ hk g, fun h0 _ => ?_⟩
  rcases Nat.eq_zero_or_pos k with rfl | hp
  · exact g0 rfl
  · exact h.2 h0 hp
theorem isLet_t {c : Int} (h : (97 ≤ c ∧ c ≤ 122) ∨ (65 ≤ c ∧ c ≤ 90) ∨ c = 95) : isLet c = true := by unfold isLet; exact decide_eq_true h
theorem isLet_f {c : Int} (h : ¬ ((97 ≤ c ∧ c ≤ 122) ∨ (65 ≤ c ∧ c ≤ 90) ∨ c = 95)) : isLet c = false := by unfold isLet; exact decide_eq_false h
theorem isDig_t {c : Int} (h : 48 ≤ c ∧ c ≤ 57) : isDig c = true := by unfold isDig; exact decide_eq_true h
theorem isDig_f {c : Int} (h : ¬ (48 ≤ c ∧ c ≤ 57)) : isDig c = false := by unfold isDig; exact decide_eq_false h
def NoW (s : ByteArray) (k : Nat) : Prop := ∀ j, j < k → s.toList ≠ words.getD j []
theorem NoW.succ {s : ByteArray} {k : Nat} (h : NoW s k) (g : s.toList ≠ words.getD k []) : NoW s (k + 1) := fun j hj => by
  by_cases e : j = k
  · subst e; exact g
  · exact h j (by omega)
theorem NoW.none {s : ByteArray} (h : NoW s 9) : wordB s.data.toList = false := by
  unfold wordB
  refine decide_eq_false fun hm => ?_
  obtain ⟨j, hj, e⟩ := List.getElem_of_mem hm
  have h9 : j < 9 := hj
  refine h j h9 ?_
  rw [toList_data, List.getD_eq_getElem?_getD, List.getElem?_eq_getElem hj, e]; rfl
theorem word_of {s : ByteArray} {k : Nat} (hk : k < 9) (h : s.toList = words.getD k []) : wordB s.data.toList = true := by
  unfold wordB
  refine decide_eq_true ?_
  rw [← toList_data, h, List.getD_eq_getElem?_getD, List.getElem?_eq_getElem (show k < words.length from hk)]
  exact List.getElem_mem _
theorem beq_yes {a b : List UInt8} (h : a = b) : (a == b) = true := by simpa using h
set_option maxHeartbeats 1600000 in
theorem refName_any (s : ByteArray) (w : World) :
    Calls Try.prog 43 #[.string s] w (NameR s.data.toList w) := by
  by_cases h0 : s.size = 0
  · obtain rfl := empty_of h0
    clear h0
    go_enter Try.func43, Try.ntmps43
    go_wp2
    go_ret
    exact nameR_no nameB_nil (Below.refl _ _)
  have p0 : 0 < s.size := by omega
  have hne := ne_nil p0
  clear h0
  by_cases h1 : 16 < s.size
  · go_enter Try.func43, Try.ntmps43
    go_wp2
    go_ret
    exact nameR_no (nameB_long (by simpa using h1)) (Below.refl _ _)
  have p1 : s.size ≤ 16 := by omega
  clear h1
  go_enter Try.func43, Try.ntmps43
  go_wp2
  go_loop [3] (fun i => ∃ k : Nat, k ≤ s.size ∧ i = .int .i64 k ∧ Hid (Fst s k)) (fun i => s.size - (intOf i).toNat)
  case atStart => exact ⟨0, by omega, rfl, Fst.zero s⟩
  case round =>
    obtain ⟨k, hk, rfl, ha⟩ := hrel
    by_cases hlt : k < s.size
    · obtain ⟨c0, c1⟩ := u8_le s k hlt
      rcases (show ((s[k].toNat : Int) < 48 ∧ (s[k].toNat : Int) < 65 ∧ (s[k].toNat : Int) < 97 ∧ (s[k].toNat : Int) ≠ 95) ∨ (48 ≤ (s[k].toNat : Int) ∧ (s[k].toNat : Int) ≤ 57 ∧ (s[k].toNat : Int) < 65 ∧ (s[k].toNat : Int) < 97 ∧ (s[k].toNat : Int) ≠ 95) ∨ (57 < (s[k].toNat : Int) ∧ 48 ≤ (s[k].toNat : Int) ∧ (s[k].toNat : Int) < 65 ∧ (s[k].toNat : Int) < 97 ∧ (s[k].toNat : Int) ≠ 95)
          ∨ (65 ≤ (s[k].toNat : Int) ∧ (s[k].toNat : Int) ≤ 90 ∧ (s[k].toNat : Int) < 97) ∨ (90 < (s[k].toNat : Int) ∧ 57 < (s[k].toNat : Int) ∧ 48 ≤ (s[k].toNat : Int) ∧ 65 ≤ (s[k].toNat : Int) ∧ (s[k].toNat : Int) < 97 ∧ (s[k].toNat : Int) ≠ 95) ∨ ((s[k].toNat : Int) = 95) ∨ (97 ≤ (s[k].toNat : Int) ∧ (s[k].toNat : Int) ≤ 122)
          ∨ (122 < (s[k].toNat : Int) ∧ 57 < (s[k].toNat : Int) ∧ 48 ≤ (s[k].toNat : Int) ∧ 97 ≤ (s[k].toNat : Int) ∧ 65 ≤ (s[k].toNat : Int) ∧ 90 < (s[k].toNat : Int) ∧ (s[k].toNat : Int) ≠ 95) from by omega) with ⟨a, b, d, e⟩ | ⟨a, a', b, d, e⟩ | ⟨a, a', b, d, e⟩ | ⟨a, b, d⟩ | ⟨a, a1, a2, b, d, e⟩ | e | ⟨a, b⟩ | ⟨a, a1, a2, b, d, d', e⟩
      · have e95 := ne_false e
        rcases Nat.eq_zero_or_pos k with rfl | hp
        · go_wp2
          all_goals (first
            | (exfalso; rename_i h; simp at h; omega)
            | (go_ret
               exact nameR_no (nameB_bad (k := 0) (by simpa using hlt) (by rw [sd s 0 hlt]; unfold okc; rw [isLet_f (by omega), isDig_f (by omega)]; rfl)) (Below.refl _ _)))
        · have ek : ((k : Int) == 0) = false := ne_false (by omega)
          go_wp2
          all_goals (first
            | (exfalso; rename_i h; simp at h; omega)
            | (go_ret
               exact nameR_no (nameB_bad (k := k) (by simpa using hlt) (by rw [sd s k hlt]; unfold okc; rw [isLet_f (by omega), isDig_f (by omega)]; rfl)) (Below.refl _ _)))
      · have e95 := ne_false e
        rcases Nat.eq_zero_or_pos k with rfl | hp
        · go_wp2
          all_goals
            go_ret
            exact nameR_no (nameB_dig (by rw [headD_of p0]; exact isDig_t (by omega))) (Below.refl _ _)
        · have ek : ((k : Int) == 0) = false := ne_false (by omega)
          go_wp2
          all_goals
            go_round
            case rel => exact ⟨k + 1, by omega, by go_num, ha.out.succ hlt (by rw [isDig_t (by omega)]; simp) (fun h => by omega)⟩
            case measure => simp [intOf]; omega
      · have e95 := ne_false e
        rcases Nat.eq_zero_or_pos k with rfl | hp
        · go_wp2
          all_goals (first
            | (exfalso; rename_i h; simp at h; omega)
            | (go_ret
               exact nameR_no (nameB_bad (k := 0) (by simpa using hlt) (by rw [sd s 0 hlt]; unfold okc; rw [isLet_f (by omega), isDig_f (by omega)]; rfl)) (Below.refl _ _)))
        · have ek : ((k : Int) == 0) = false := ne_false (by omega)
          go_wp2
          all_goals (first
            | (exfalso; rename_i h; simp at h; omega)
            | (go_ret
               exact nameR_no (nameB_bad (k := k) (by simpa using hlt) (by rw [sd s k hlt]; unfold okc; rw [isLet_f (by omega), isDig_f (by omega)]; rfl)) (Below.refl _ _)))
      · go_wp2
        go_round
        case rel => exact ⟨k + 1, by omega, by go_num, ha.out.succ hlt (by rw [isLet_t (by omega)]; rfl) (fun _ => isDig_f (by omega))⟩
        case measure => simp [intOf]; omega
      · have e95 := ne_false e
        rcases Nat.eq_zero_or_pos k with rfl | hp
        · go_wp2
          all_goals (first
            | (exfalso; rename_i h; simp at h; omega)
            | (go_ret
               exact nameR_no (nameB_bad (k := 0) (by simpa using hlt) (by rw [sd s 0 hlt]; unfold okc; rw [isLet_f (by omega), isDig_f (by omega)]; rfl)) (Below.refl _ _)))
        · have ek : ((k : Int) == 0) = false := ne_false (by omega)
          go_wp2
          all_goals (first
            | (exfalso; rename_i h; simp at h; omega)
            | (go_ret
               exact nameR_no (nameB_bad (k := k) (by simpa using hlt) (by rw [sd s k hlt]; unfold okc; rw [isLet_f (by omega), isDig_f (by omega)]; rfl)) (Below.refl _ _)))
      · have f1 : (s[k].toNat : Int) < 97 := by omega
        have f2 : 65 ≤ (s[k].toNat : Int) := by omega
        have f3 : 90 < (s[k].toNat : Int) := by omega
        have e95 : ((s[k].toNat : Int) == 95) = true := by simpa using e
        have E := Lib.hid e
        clear e
        go_wp2
        go_round
        case rel => exact ⟨k + 1, by omega, by go_num, ha.out.succ hlt (by rw [isLet_t (.inr (.inr E.out))]; rfl) (fun _ => isDig_f (by omega))⟩
        case measure => simp [intOf]; omega
      · go_wp2
        go_round
        case rel => exact ⟨k + 1, by omega, by go_num, ha.out.succ hlt (by rw [isLet_t (by omega)]; rfl) (fun _ => isDig_f (by omega))⟩
        case measure => simp [intOf]; omega
      · have e95 := ne_false e
        rcases Nat.eq_zero_or_pos k with rfl | hp
        · go_wp2
          all_goals (first
            | (exfalso; rename_i h; simp at h; omega)
            | (go_ret
               exact nameR_no (nameB_bad (k := 0) (by simpa using hlt) (by rw [sd s 0 hlt]; unfold okc; rw [isLet_f (by omega), isDig_f (by omega)]; rfl)) (Below.refl _ _)))
        · have ek : ((k : Int) == 0) = false := ne_false (by omega)
          go_wp2
          all_goals (first
            | (exfalso; rename_i h; simp at h; omega)
            | (go_ret
               exact nameR_no (nameB_bad (k := k) (by simpa using hlt) (by rw [sd s k hlt]; unfold okc; rw [isLet_f (by omega), isDig_f (by omega)]; rfl)) (Below.refl _ _)))
    · have hk' : k = s.size := by omega
      subst hk'
      clear hlt
      have HF := Lib.hid (ha.out.2 p0 p0)
      have HA := Lib.hid ha.out.1
      clear ha
      go_wp2
      go_loop [58] (fun i => ∃ k : Nat, k ≤ 9 ∧ i = .int .i64 k ∧ Hid (NoW s k)) (fun i => 9 - (intOf i).toNat)
      case atStart => exact ⟨0, by omega, rfl, fun _ h => absurd h (by omega)⟩
      case round =>
        obtain ⟨k, hk, rfl, ha⟩ := hrel
        rcases (show k = 9 ∨ k < 9 from by omega) with rfl | hk9
        · go_wp2
          go_ret
          exact nameR_yes (nameB_yes p0 p1 HF.out (NoW.none ha.out) HA.out) ((Below.refl _ w).alloc (Nat.le_refl _) _)
        · by_cases hw : s.toList = words.getD k []
          · have HW := Lib.hid hw
            have hq := beq_yes hw
            clear hw
            rcases (show k = 0 ∨ k = 1 ∨ k = 2 ∨ k = 3 ∨ k = 4 ∨ k = 5 ∨ k = 6 ∨ k = 7 ∨ k = 8 from by omega) with rfl | rfl | rfl | rfl | rfl | rfl | rfl | rfl | rfl
            all_goals
              simp only [words, List.getD_cons_zero, List.getD_cons_succ] at hq
              go_wp2
              go_ret
              exact nameR_no (nameB_word (word_of hk9 HW.out)) ((Below.refl _ w).alloc (Nat.le_refl _) _)
          · have HN := Lib.hid (ha.out.succ hw)
            have hq := beq_no hw
            clear hw ha
            rcases (show k = 0 ∨ k = 1 ∨ k = 2 ∨ k = 3 ∨ k = 4 ∨ k = 5 ∨ k = 6 ∨ k = 7 ∨ k = 8 from by omega) with rfl | rfl | rfl | rfl | rfl | rfl | rfl | rfl | rfl
            all_goals
              simp only [words, List.getD_cons_zero, List.getD_cons_succ] at hq
              go_wp2
              go_round
              case rel => exact ⟨_, by omega, by go_num, HN⟩
              case measure => simp [intOf]
theorem refName_is (s : ByteArray) (r : Bool) (w : World) (hr : nameB s.data.toList = r) :
    Calls Try.prog 43 #[.string s] w fun e w' => e = .returned (.bool r) ∧ Below w.heap.size w w' := by subst hr; exact refName_any s w
end Go.Proofs.Ytjnlpgmocngenaa.Sch
