/- Which parts a message goes to; the wake-up walk. -/
import Derived.Test.YtpgacadnmekdhaaMsD
import Derived.Test.YtpgacadnmekdhaaHashA
namespace Go.Proofs.Ytpgacadnmekdhaa.Ms
open Go.RowKit Go.Proofs.Ytpgacadnmekdhaa Go.Proofs.Ytpgacadnmekdhaa.Ev
set_option linter.unusedVariables false
set_option maxRecDepth 100000
theorem int_info : (Try.prog.info? 3).map (fun i => (i.zero, i.size, i.bytes)) = some (some (.int .i64 0), 1, 8) := by kernel_rfl
section
variable (kind tick t q T win cap : Int) (ty key id : ByteArray) (A E : Option Addr) (vn c en ec : Nat) (w : World)
theorem all_any (r : Bool) (hr : (kind != 1) = r) : Calls Try.prog 52 #[.agg #[.int .i64 kind, .int .i64 tick, .string ty, .string key, .int .i64 t, .int .i64 q, .slice A vn c, .int .i64 T, .string id, .slice E en ec, .int .i64 win, .int .i64 cap]] w fun e w' => e = .returned (.bool r) ∧ Below w.heap.size w w' := by
  have HR := Lib.hid hr
  clear hr
  go_enter Try.func52, Try.ntmps52
  go_wp2
  go_ret
  exact ⟨ret_bool HR.out, by go_grown⟩
/-- One part alone. -/
def One (w : World) (p : Int) (e : Ending) (w' : World) : Prop := ∃ b, e = .returned (.slice (some ⟨b, 0, none⟩) 1 1) ∧ Row w' b 3 #[.int .i64 p] ∧ Below w.heap.size w w' ∧ w.heap.size ≤ b
set_option maxHeartbeats 1000000 in
theorem targets_ev (parts : Int) (hk : key.size ≤ 9223372036854775807) : Calls Try.prog 51 #[.agg #[.int .i64 1, .int .i64 tick, .string ty, .string key, .int .i64 t, .int .i64 q, .slice A vn c, .int .i64 T, .string id, .slice E en ec, .int .i64 win, .int .i64 cap], .int .i64 parts] w (One w (Hash.partK key.data.toList (Hash.partsV parts))) := by
  go_enter Try.func51, Try.ntmps51
  go_wp2_with fail
  refine (all_any 1 tick t q T win cap ty key id A E vn c en ec _ false rfl).mono ?_
  rintro e w1 ⟨rfl, hb1⟩
  have HB := Lib.hid (((Below.refl _ w).alloc (Nat.le_refl _) (.cells #[.int .i64 1, .int .i64 tick, .string ty, .string key, .int .i64 t, .int .i64 q, .slice A vn c, .int .i64 T, .string id, .slice E en ec, .int .i64 win, .int .i64 cap] 85)).trans (hb1.mono (by simp)))
  have r := Row.below (Row.made w 85 #[.int .i64 1, .int .i64 tick, .string ty, .string key, .int .i64 t, .int .i64 q, .slice A vn c, .int .i64 T, .string id, .slice E en ec, .int .i64 win, .int .i64 cap]) hb1 (by simp)
  have c3 := r.is 3 (v := .string key) rfl
  clear r hb1
  go_wp2_with (go_at_call 53; refine (Hash.part_any key parts _ hk).mono ?_; rintro e w' ⟨rfl, rfl⟩)
  go_ret
  exact ⟨w1.heap.size, rfl, Row.made _ _ _, HB.out.alloc HB.out.size _, HB.out.size⟩
def upTo (n : Nat) : List Value := (List.range n).map fun k : Nat => Value.int .i64 (k : Int)
/-- All parts, rising. -/
def Every (w : World) (n : Nat) (e : Ending) (w' : World) : Prop := ∃ v ob, e = .returned v ∧ Seg w' 3 1 v n (upTo n) ob ∧ Below w.heap.size w w' ∧ ∀ g, ob = some g → w.heap.size ≤ g
set_option maxHeartbeats 2000000 in
theorem targets_all (parts : Int) (hk : (kind != 1) = true) : Calls Try.prog 51 #[.agg #[.int .i64 kind, .int .i64 tick, .string ty, .string key, .int .i64 t, .int .i64 q, .slice A vn c, .int .i64 T, .string id, .slice E en ec, .int .i64 win, .int .i64 cap], .int .i64 parts] w (Every w (Hash.partsV parts)) := by
  have HK := Lib.hid hk
  clear hk
  obtain ⟨N, hN⟩ : ∃ N, Hash.partsV parts = N := ⟨_, rfl⟩
  have hpos := Hash.partsV_pos parts
  rw [hN] at hpos ⊢
  have HN := Lib.hid hN
  obtain ⟨i0, hi0, hz0, hz1, hz2⟩ := info_parts int_info
  go_enter Try.func51, Try.ntmps51
  go_wp2_with fail
  refine (all_any kind tick t q T win cap ty key id A E vn c en ec _ true HK.out).mono ?_
  rintro e w1 ⟨rfl, hb1⟩
  have HB := Lib.hid (((Below.refl _ w).alloc (Nat.le_refl _) (.cells #[.int .i64 kind, .int .i64 tick, .string ty, .string key, .int .i64 t, .int .i64 q, .slice A vn c, .int .i64 T, .string id, .slice E en ec, .int .i64 win, .int .i64 cap] 85)).trans (hb1.mono (by simp)))
  clear hb1
  go_upto_region 4 with fail
  go_cut [18, 19] (fun v v2 wx => v = .int .i64 N ∧ v2 = .int .i64 0 ∧ w1 = wx)
  case first =>
    rcases (show (parts < 1 ∧ (N : Int) = 1) ∨ (1 ≤ parts ∧ parts ≤ 64 ∧ (N : Int) = parts) ∨ (64 < parts ∧ (N : Int) = 64) from by rw [← HN.out]; unfold Hash.partsV; omega) with ⟨g, hv⟩ | ⟨g, g1, hv⟩ | ⟨g, hv⟩
    all_goals
      have HV := Lib.hid hv
      clear hv hN
      go_wp2
      go_meet
      exact ⟨by rw [HV.out], rfl, rfl⟩
  case rest =>
    obtain ⟨rfl, rfl, rfl⟩ := hcut
    clear hN
    go_wp2
    go_loopw [5, 19] (fun v i wr => ∃ (k : Nat) (ob : Option Nat), k ≤ N ∧ i = .int .i64 k ∧ Hid (Seg wr 3 1 v k (upTo k) ob ∧ Below w.heap.size w wr ∧ ∀ g, ob = some g → w.heap.size ≤ g)) (fun _ i _ => N - (intOf i).toNat)
    case atStart => exact ⟨0, none, by omega, rfl, Lib.hid ⟨Seg.nil _ _ _, HB.out, fun _ h => by cases h⟩⟩
    case round =>
      clear HB
      obtain ⟨k, ob, hkn, rfl, hS⟩ := hrel
      by_cases hlt : k < N
      · have hki : (k : Int) < (N : Int) := by omega
        have HS := Lib.hid hS.out.1
        have HB := Lib.hid hS.out.2
        clear hS
        go_wp2_with (at_builtin; go_loud (refine wpList_append_seg _ rfl _ _ 22 rfl 3 i0 _ 1 8 Try.underlying22 hi0 hz0 hz1 hz2 rfl (by decide) _ k _ _ rfl (HS.out.alloc _) ⟨wr.heap.size, 0, none⟩ 1 1 [.int .i64 k] rfl rfl (news_of _ _ _) (by simp [Value.oneCell']) (by decide) (by unfold maxLen; omega) (by omega) ?_; intro v2 w3 ob2 hs2 ht2 ho2))
        have HF : Hid (Seg w3 3 1 v2 (k + 1) (upTo (k + 1)) ob2 ∧ Below w.heap.size w w3 ∧ ∀ g, ob2 = some g → w.heap.size ≤ g) := Lib.hid ⟨by
            rw [show upTo (k + 1) = upTo k ++ [.int .i64 (k : Int)] by unfold upTo; rw [List.range_succ, List.map_append]; rfl]; exact hs2, ht2.below (HB.out.1.alloc HB.out.1.size _) (by have := HB.out.1.size; simp; omega) (fun j hj e => by have := HB.out.2 j e; omega), fun g hg => by
            rcases ho2 with rfl | ⟨g', rfl, hg'⟩
            · exact HB.out.2 g hg
            · cases hg; have := HB.out.1.size; simp at hg'; omega⟩
        clear hs2 ht2 ho2
        go_roundw
        case rel => exact ⟨k + 1, ob2, by omega, by go_num, HF⟩
        case measure => simp [intOf]; omega
      · obtain rfl : k = N := by omega
        have hki : ¬ (k : Int) < (k : Int) := by omega
        have HS := Lib.hid hS.out
        clear hS
        go_wp2
        go_ret
        exact ⟨_, ob, rfl, HS.out.1, HS.out.2.1, HS.out.2.2⟩
end
set_option maxHeartbeats 2000000 in
theorem awake_any (w : World) : Calls Try.prog 50 #[] w fun e w' => e = .returned (.bool true) ∧ Below w.heap.size w w' := by
  have hp : Hash.partsV 3 = 3 := by decide
  have HP := Lib.hid hp
  clear hp
  go_enter Try.func50, Try.ntmps50
  go_wp2_with fail
  refine (targets_all 2 0 0 0 0 0 0 { data := #[] } { data := #[] } { data := #[] } none none 0 0 0 0 _ 3 rfl).mono ?_
  rintro e w1 ⟨v, ob, rfl, hs, hb1, _⟩
  rw [HP.out] at hs
  obtain ⟨vA, vcap, rfl, _, _⟩ := hs.form
  have HB1 := Lib.hid hb1
  clear hs hb1
  go_wp2_with fail
  refine (targets_ev 0 0 0 0 0 0 { data := #[] } { data := #[107] } { data := #[] } none none 0 0 0 0 _ 3 (by decide)).mono ?_
  rintro e w2 ⟨b, rfl, _, hb2, _⟩
  have HB2 := Lib.hid (HB1.out.trans (hb2.mono HB1.out.size))
  clear hb2
  go_wp2_with fail
  refine (m_yes 0 0 0 0 0 0 0 { data := #[] } { data := #[] } { data := #[] } none none none none 0 0 0 0 _ [] (VS.nil _ _ _ (by omega)) (VS.nil _ _ _ (by omega))).mono ?_
  rintro e w3 ⟨rfl, hb3⟩
  have HB3 := Lib.hid (HB2.out.trans (hb3.mono HB2.out.size))
  clear hb3
  go_wp2_with fail
  refine (all_any 0 0 0 0 0 0 0 { data := #[] } { data := #[] } { data := #[] } none none 0 0 0 0 _ true rfl).mono ?_
  rintro e w4 ⟨rfl, hb4⟩
  have HB4 := Lib.hid (HB3.out.trans (hb4.mono HB3.out.size))
  clear hb4
  go_wp2
  go_ret
  exact ⟨rfl, HB4.out⟩
end Go.Proofs.Ytpgacadnmekdhaa.Ms
