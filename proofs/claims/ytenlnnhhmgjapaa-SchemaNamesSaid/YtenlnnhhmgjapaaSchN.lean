/- The walk of the law SchemaNames. -/
import Derived.Test.YtenlnnhhmgjapaaSchI
import Derived.Test.YtenlnnhhmgjapaaSchC
import Derived.Test.YtenlnnhhmgjapaaBits
namespace Go.Proofs.Ytenlnnhhmgjapaa.Sch
open Go.RowKit Go.Proofs.Ytenlnnhhmgjapaa
set_option linter.unusedVariables false

def wordsV : List Value := [.string ⟨#[83, 69, 81]⟩, .string ⟨#[87, 72, 69, 82, 69]⟩, .string ⟨#[87, 73, 84, 72, 73, 78]⟩, .string ⟨#[67, 65, 80]⟩, .string ⟨#[97, 110, 100]⟩, .string ⟨#[111, 114]⟩, .string ⟨#[110, 111, 116]⟩, .string ⟨#[116, 114, 117, 101]⟩, .string ⟨#[102, 97, 108, 115, 101]⟩]
def WordF (v : Value) (x : ByteArray) : Prop := v = .string x ∧ Nat.ble x.size 6 = true ∧ nameB x.data.toList = false ∧ nameB (x.data.toList ++ [95]) = true ∧ nameB ([49] ++ x.data.toList) = false
theorem word_at : ∀ (j : Nat) (h : j < wordsV.length), ∃ x, WordF wordsV[j] x
  | 0, _ => ⟨_, rfl, rfl, rfl, rfl, rfl⟩
  | 1, _ => ⟨_, rfl, rfl, rfl, rfl, rfl⟩
  | 2, _ => ⟨_, rfl, rfl, rfl, rfl, rfl⟩
  | 3, _ => ⟨_, rfl, rfl, rfl, rfl, rfl⟩
  | 4, _ => ⟨_, rfl, rfl, rfl, rfl, rfl⟩
  | 5, _ => ⟨_, rfl, rfl, rfl, rfl, rfl⟩
  | 6, _ => ⟨_, rfl, rfl, rfl, rfl, rfl⟩
  | 7, _ => ⟨_, rfl, rfl, rfl, rfl, rfl⟩
  | 8, _ => ⟨_, rfl, rfl, rfl, rfl, rfl⟩
  | k + 9, h => absurd (show k + 9 < 9 from h) (by omega)
theorem app_data (a b : ByteArray) : (a ++ b).data.toList = a.data.toList ++ b.data.toList := by rw [ByteArray.data_append, Array.toList_append]
set_option maxRecDepth 100000 in
set_option maxHeartbeats 4000000 in
theorem names_law (s : ByteArray) (hs : s.size ≤ maxLen) (n : Int) (hn : (Lit.int .i64 n).wf = true) {w : World} :
    Calls Try.prog 7 #[.string s, .int .i64 n] w fun e w' => e = .returned (.bool true) ∧ Below w.heap.size w w' := by
  clear hn
  have hs' : s.size ≤ 9223372036854775807 := by unfold maxLen at hs; omega
  clear hs
  obtain ⟨m, hm, hm9⟩ : ∃ m : Nat, bits .and .i64 n 255 = (m : Int) ∧ m < 256 := ⟨(n % 256).toNat, by rw [and255]; omega, by omega⟩
  obtain ⟨j, hj, hj9⟩ : ∃ j : Nat, (m : Int) % 9 = (j : Int) ∧ j < 9 := ⟨m % 9, by omega, by omega⟩
  obtain ⟨x, hx, hx6, f1, f2, f3⟩ := word_at j hj9
  have hxs : x.size ≤ 6 := Nat.le_of_ble_eq_true hx6
  clear hx6
  have hx' : ([.string ⟨#[83, 69, 81]⟩, .string ⟨#[87, 72, 69, 82, 69]⟩, .string ⟨#[87, 73, 84, 72, 73, 78]⟩, .string ⟨#[67, 65, 80]⟩, .string ⟨#[97, 110, 100]⟩, .string ⟨#[111, 114]⟩, .string ⟨#[110, 111, 116]⟩, .string ⟨#[116, 114, 117, 101]⟩, .string ⟨#[102, 97, 108, 115, 101]⟩] : List Value)[j]'hj9 = .string x := hx
  have HX := Lib.hid hx'
  have F1 := Lib.hid f1
  have F2 := Lib.hid f2
  have F3 := Lib.hid f3
  clear hx f1 f2 f3 hx'
  rcases (show s.size ≤ 20 ∨ 20 < s.size from by omega) with h20 | h20
  all_goals
    go_enter Try.func7, Try.ntmps7
    go_wp2_with fail
    simp only [HX.out]
    refine (awake_any _).mono ?_
    rintro e w1 ⟨rfl, hb1⟩
    have HB := Lib.hid (((Below.refl w.heap.size w).alloc (Nat.le_refl _) (.cells #[.string ⟨#[83, 69, 81]⟩, .string ⟨#[87, 72, 69, 82, 69]⟩, .string ⟨#[87, 73, 84, 72, 73, 78]⟩, .string ⟨#[67, 65, 80]⟩, .string ⟨#[97, 110, 100]⟩, .string ⟨#[111, 114]⟩, .string ⟨#[110, 111, 116]⟩, .string ⟨#[116, 114, 117, 101]⟩, .string ⟨#[102, 97, 108, 115, 101]⟩] 9)).trans (hb1.mono (by simp)))
    clear hb1
    go_wp2_with fail
    refine (name_is _ _ _ rfl).mono ?_
    rintro e w' ⟨rfl, rfl⟩
    go_wp2_with fail
    refine (refName_is _ _ _ rfl).mono ?_
    rintro e w2 ⟨rfl, hb2⟩
    have HB2 := Lib.hid (HB.out.trans (hb2.mono HB.out.size))
    clear hb2
    go_wp2_with fail
    refine (name_is x false _ F1.out).mono ?_
    rintro e w' ⟨rfl, rfl⟩
    go_wp2_with fail
    refine (name_is _ true _ ?_).mono ?_
    · rw [app_data]; exact F2.out
    rintro e w' ⟨rfl, rfl⟩
    go_wp2_with fail
    refine (name_is _ false _ ?_).mono ?_
    · rw [app_data]; exact F3.out
    rintro e w' ⟨rfl, rfl⟩
    go_wp2
    go_ret
    exact ⟨rfl, HB2.out⟩
end Go.Proofs.Ytenlnnhhmgjapaa.Sch
