/- The contract of num.plain. -/
import Derived.Test.YtlpkeinablekpaaDoorKit
import Derived.Test.YtlpkeinablekpaaDoorNumPlain
namespace Go.Proofs.YtlpkeinablekpaaDoor.Num
open Go.RowKit Go.Proofs.YtlpkeinablekpaaDoor
set_option maxRecDepth 100000

/-- Which texts are digits without needless noughts, and not too many. -/
def plainB (l : List UInt8) : Bool := l.all isD && decide (l ≠ []) && decide (l.length ≤ 19) && decide (l.length ≤ 1 ∨ l.head? ≠ some 48)
def Plain (l : List UInt8) (w : World) (e : Ending) (w' : World) : Prop := e = .returned (.bool (plainB l)) ∧ w = w'
theorem plain_no {l : List UInt8} {w : World} (h : plainB l = false) : Plain l w (.returned (.bool false)) w := ⟨by rw [h], rfl⟩
theorem plain_yes {l : List UInt8} {w : World} (h : plainB l = true) : Plain l w (.returned (.bool true)) w := ⟨by rw [h], rfl⟩
theorem plainB_nil : plainB [] = false := rfl
theorem plainB_long {l : List UInt8} (h : 19 < l.length) : plainB l = false := by
  unfold plainB; rw [show decide (l.length ≤ 19) = false from decide_eq_false (by omega)]; simp
theorem plainB_zero {l : List UInt8} (h : 1 < l.length) (g : l.head? = some 48) : plainB l = false := by
  unfold plainB; rw [show decide (l.length ≤ 1 ∨ l.head? ≠ some 48) = false from decide_eq_false (by simp [g]; omega)]; simp
theorem plainB_bad {l : List UInt8} {k : Nat} (h : k < l.length) (g : isD l[k] = false) : plainB l = false := by
  unfold plainB
  have : l.all isD = false := by
    rw [List.all_eq_false]
    exact ⟨l[k], List.getElem_mem h, by simp [g]⟩
  simp [this]
theorem plainB_yes {l : List UInt8} (h : ∀ k (hk : k < l.length), isD l[k] = true) (h0 : 0 < l.length) (h1 : l.length ≤ 19) (h2 : l.length ≤ 1 ∨ l.head? ≠ some 48) : plainB l = true := by
  unfold plainB
  have ha : l.all isD = true := by
    rw [List.all_eq_true]
    intro x hx
    obtain ⟨i, hi, rfl⟩ := List.getElem_of_mem hx
    exact h i hi
  simp only [Bool.and_eq_true, decide_eq_true_eq]
  exact ⟨⟨⟨ha, by intro e; subst e; simp at h0⟩, h1⟩, h2⟩
theorem all_take {l : List UInt8} {k : Nat} (h : ∀ j (hj : j < l.length), j < k → isD l[j] = true) (hk : k < l.length) (g : isD l[k] = true) : ∀ j (hj : j < l.length), j < k + 1 → isD l[j] = true := by
  intro j hj h1
  by_cases e : j = k
  · subst e; exact g
  · exact h j hj (by omega)
theorem isD_no {c : UInt8} (h : (c.toNat : Int) < 48 ∨ (57 : Int) < c.toNat) : isD c = false := by unfold isD; exact decide_eq_false (by omega)
theorem isD_yes {c : UInt8} (h : (48 : Int) ≤ c.toNat) (g : (c.toNat : Int) ≤ 57) : isD c = true := by unfold isD; exact decide_eq_true (by omega)
/-- The loop of 'plain', behind its first test. -/
def AllD (s : ByteArray) (k : Nat) : Prop := ∀ j (hj : j < s.data.toList.length), j < k → isD s.data.toList[j] = true
theorem AllD.zero (s : ByteArray) : AllD s 0 := fun _ _ h => absurd h (by omega)
theorem AllD.succ {s : ByteArray} {k : Nat} (h : AllD s k) (hk : k < s.size) (h0 : (48 : Int) ≤ s[k].toNat) (h1 : (s[k].toNat : Int) ≤ 57) : AllD s (k + 1) :=
  all_take h (by simpa using hk) (by rw [sd s k hk]; exact isD_yes h0 h1)
theorem AllD.bad {s : ByteArray} {k : Nat} {w : World} (hk : k < s.size) (h0 : (s[k].toNat : Int) < 48 ∨ (57 : Int) < s[k].toNat) : Plain s.data.toList w (.returned (.bool false)) w :=
  plain_no (plainB_bad (k := k) (by simpa using hk) (by rw [sd s k hk]; exact isD_no h0))
set_option maxHeartbeats 800000 in
theorem plain_any (s : ByteArray) (w : World) (hs : s.size ≤ 9223372036854775807) :
    Calls Tryd.prog 83 #[.string s] w (Plain s.data.toList w) := by
  have hl : s.data.toList.length = s.size := by simp
  have HL := Lib.hid hl
  clear hl
  by_cases h0 : s.size = 0
  · have e : s = ByteArray.empty := by
      have : s.data.toList = [] := List.eq_nil_of_length_eq_zero (by rw [HL.out, h0])
      cases s with | mk d => simp at this; subst this; rfl
    clear h0 hs
    subst e
    go_enter Tryd.func83, Tryd.ntmps83
    go_wp2
    go_ret
    exact plain_no plainB_nil
  have p0 : 0 < s.size := by omega
  have hne : ((s.size : Int) == 0) = false := by rw [beq_eq_false_iff_ne]; omega
  clear h0
  by_cases h1 : 19 < s.size
  · go_enter Tryd.func83, Tryd.ntmps83
    go_wp2
    go_ret
    exact plain_no (plainB_long (by rw [HL.out]; exact h1))
  have p1 : s.size ≤ 19 := by omega
  clear h1
  have hH : s.data.toList.head? = some s[0] := by
    rw [List.head?_eq_getElem?, List.getElem?_eq_getElem (by rw [HL.out]; exact p0), sd s 0 p0]
  have HH := Lib.hid hH
  clear hH
  by_cases h2 : 1 < s.size
  · by_cases h3 : (s[0].toNat : Int) = 48
    · have hb : ((s[0].toNat : Int) == 48) = true := by simpa using h3
      have H3 := Lib.hid h3
      clear h3
      go_enter Tryd.func83, Tryd.ntmps83
      go_wp2
      go_ret
      exact plain_no (plainB_zero (by rw [HL.out]; exact h2) (by rw [HH.out]; congr 1; apply UInt8.toNat_inj.1; have := H3.out; show _ = 48; omega))
    · have hb : ((s[0].toNat : Int) == 48) = false := by simpa using h3
      have hz : s.data.toList.length ≤ 1 ∨ s.data.toList.head? ≠ some 48 := .inr (by rw [HH.out]; intro e; injection e with e; rw [e] at h3; exact h3 rfl)
      have HZ := Lib.hid hz
      clear hz h3
      go_enter Tryd.func83, Tryd.ntmps83
      go_wp2
      go_loop [23] (fun i => ∃ k : Nat, k ≤ s.size ∧ i = .int .i64 k ∧ Hid (AllD s k)) (fun i => s.size - (intOf i).toNat)
      case atStart => exact ⟨0, by omega, rfl, AllD.zero s⟩
      case round =>
        obtain ⟨k, hk, rfl, ha⟩ := hrel
        by_cases hlt : k < s.size
        · go_wp2
          · go_ret
            exact AllD.bad hlt (by assumption)
          · rename_i hgood
            obtain ⟨g0, g1⟩ := hgood
            go_round
            case rel => exact ⟨k + 1, by omega, by go_num, ha.out.succ hlt g0 g1⟩
            case measure => simp [intOf]; omega
          · go_ret
            exact AllD.bad hlt (.inl (by assumption))
        · have hk' : k = s.size := by omega
          subst hk'
          clear hlt
          go_wp2
          go_ret
          exact plain_yes (plainB_yes (fun j hj => ha.out j hj (by rw [HL.out] at hj; exact hj)) (by rw [HL.out]; exact p0) (by rw [HL.out]; exact p1) HZ.out)
  · have hz : s.data.toList.length ≤ 1 ∨ s.data.toList.head? ≠ some 48 := .inl (by rw [HL.out]; omega)
    have HZ := Lib.hid hz
    clear hz HH
    have h3 : s.size ≤ 1 := by omega
    clear h2
    go_enter Tryd.func83, Tryd.ntmps83
    go_wp2
    go_loop [23] (fun i => ∃ k : Nat, k ≤ s.size ∧ i = .int .i64 k ∧ Hid (AllD s k)) (fun i => s.size - (intOf i).toNat)
    case atStart => exact ⟨0, by omega, rfl, AllD.zero s⟩
    case round =>
      obtain ⟨k, hk, rfl, ha⟩ := hrel
      by_cases hlt : k < s.size
      · go_wp2
        · go_ret
          exact AllD.bad hlt (by assumption)
        · rename_i hgood
          obtain ⟨g0, g1⟩ := hgood
          go_round
          case rel => exact ⟨k + 1, by omega, by go_num, ha.out.succ hlt g0 g1⟩
          case measure => simp [intOf]; omega
        · go_ret
          exact AllD.bad hlt (.inl (by assumption))
      · have hk' : k = s.size := by omega
        subst hk'
        clear hlt
        go_wp2
        go_ret
        exact plain_yes (plainB_yes (fun j hj => ha.out j hj (by rw [HL.out] at hj; exact hj)) (by rw [HL.out]; exact p0) (by rw [HL.out]; exact p1) HZ.out)
end Go.Proofs.YtlpkeinablekpaaDoor.Num
