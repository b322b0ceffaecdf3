/- Stamps that rise. -/
import Derived.Test.YtbhbjblliegliaaSmD
import Derived.Test.YtbhbjblliegliaaHpD
import Derived.Test.YtbhbjblliegliaaBits
namespace Go.Proofs.Ytbhbjblliegliaa.Sm
open Go.RowKit Go.Proofs.Ytbhbjblliegliaa Go.Proofs.Ytbhbjblliegliaa.Hp
set_option linter.unusedVariables false
set_option maxRecDepth 100000
/-- The time so far. -/
def tm (f : Nat → Int) : Nat → Int
  | 0 => 0
  | i + 1 => tm f i + f i % 4
theorem tm_bd (f : Nat → Int) : ∀ i : Nat, 0 ≤ tm f i ∧ tm f i ≤ 3 * i
  | 0 => by simp [tm]
  | i + 1 => by have := tm_bd f i; unfold tm; omega
/-- Stamps of rising times; the first k with their place. -/
def rl (f : Nat → Int) (a : Int) (k n : Nat) : List St := (List.range n).map fun i => ⟨tm f (i + 1), 0, if i < k then a else 0⟩
theorem rl_len (f : Nat → Int) (a : Int) (k n : Nat) : (rl f a k n).length = n := by simp [rl]
theorem rl_succ (f : Nat → Int) (a : Int) (n : Nat) : rl f a 0 (n + 1) = rl f a 0 n ++ [⟨tm f (n + 1), 0, 0⟩] := by simp [rl, List.range_succ]
theorem rl_set (f : Nat → Int) (a : Int) (k n : Nat) (hk : k < n) : (rl f a k n).set k ⟨tm f (k + 1), 0, a⟩ = rl f a (k + 1) n := by
  refine List.ext_getElem (by simp [rl]) fun j h1 h2 => ?_
  rw [List.getElem_set]
  simp [rl] at h1 h2 ⊢
  split
  · rename_i e; subst e; simp
  · rename_i e
    by_cases hj : j < k
    · rw [if_pos hj, if_pos (by omega)]
    · rw [if_neg hj, if_neg (by omega)]
theorem rl_cell (f : Nat → Int) (a : Int) (k n : Nat) (hk : k < n) : (rl f a k n)[k]? = some ⟨tm f (k + 1), 0, 0⟩ := by simp [rl, hk]
theorem hset1 (L : List St) (i : Nat) (x : St) (hx : L[i]? = some x) (a : Int) : (hcells L).set (i * 3 + 2) (.int .i64 a) = hcells (L.set i ⟨x.t, x.q, a⟩) := by
  have hi := (List.getElem?_eq_some_iff.1 hx).1
  rw [← hcells_set L i hi ⟨x.t, x.q, a⟩]
  have e0 : (hcells L).set (i * 3) (.int .i64 x.t) = hcells L := by
    have h := hcells_get L i x 0 _ hx rfl
    rw [Nat.add_zero] at h
    obtain ⟨h1, h2⟩ := List.getElem?_eq_some_iff.1 h
    rw [← h2, List.set_getElem_self]
  have e1 : (hcells L).set (i * 3 + 1) (.int .i64 x.q) = hcells L := by
    have h := hcells_get L i x 1 _ hx rfl
    obtain ⟨h1, h2⟩ := List.getElem?_eq_some_iff.1 h
    rw [← h2, List.set_getElem_self]
  rw [e0, e1]
set_option maxHeartbeats 4000000 in
theorem rising_any (A : Option Addr) (n c : Nat) (f : Nat → Int) (hn : n ≤ c) (hc : c ≤ 9223372036854775807) (a : Int) (w : World) (h : Lies w w.heap.size A n (fun k => .int .i64 (f k))) :
    Calls Try.prog 21 #[.slice A n c, .int .i64 a] w fun e w' => ∃ v ob, e = .returned v ∧ Seg w' 47 3 v (min n 12) (hcells (rl f a (min n 12) (min n 12))) ob ∧ Below w.heap.size w w' := by
  obtain ⟨m, hm⟩ : ∃ m, min n 12 = m := ⟨_, rfl⟩
  rw [hm]
  have HL := Lib.hid h
  have HM := Lib.hid hm
  have hm12 : m ≤ 12 := by omega
  have hmn : m ≤ n := by omega
  obtain ⟨i0, hi0, hz0, hz1, hz2⟩ := info_parts st_info
  clear h hm
  have HI : Hid (∃ ob, Seg (w.alloc (.cells #[] 47)) 47 3 (.slice (some ⟨w.heap.size, 0, none⟩) 0 0) 0 (hcells (rl f a 0 0)) ob ∧ (∀ g, ob = some g → w.heap.size ≤ g) ∧ Below w.heap.size w (w.alloc (.cells #[] 47))) := Lib.hid ⟨none, by simpa [rl] using seg_zero _ _, (fun _ e => by cases e), (Below.refl _ w).alloc (Nat.le_refl _) _⟩
  go_enter Try.func21, Try.ntmps21
  go_wp2
  generalize w.alloc (.cells #[] 47) = W0 at HI ⊢
  go_loopw [5, 6, 7] (fun s5 s6 s7 wr => ∃ i : Nat, i ≤ m ∧ s7 = .int .i64 i ∧ s6 = .int .i64 (tm f i) ∧ Hid (∃ ob, Seg wr 47 3 s5 i (hcells (rl f a 0 i)) ob ∧ (∀ g, ob = some g → w.heap.size ≤ g) ∧ Below w.heap.size w wr)) (fun _ _ s7 _ => m - (intOf s7).toNat)
  case atStart => exact ⟨0, by omega, rfl, rfl, HI⟩
  case round =>
    clear HI
    obtain ⟨i, him, rfl, rfl, hrel⟩ := hrel
    obtain ⟨ob, hs, hown, hbe⟩ := hrel.out
    have HS := Lib.hid hs
    have HO := Lib.hid hown
    have HB := Lib.hid hbe
    by_cases hlt : i < m
    · have hin : (i : Int) < (n : Int) := by omega
      have hi12 : (i : Int) < 12 := by omega
      obtain ⟨g, o, rfl, hg, hcell⟩ := HL.out i (by omega)
      have kc := (hbe.cell (p := ⟨g, o + i, none⟩) hg).trans hcell
      have hb3 := and3 (f i)
      have hbd := tm_bd f i
      obtain ⟨u, hu⟩ : ∃ u, f i % 4 = u := ⟨_, rfl⟩
      obtain ⟨T, hT⟩ : ∃ T, tm f i = T := ⟨_, rfl⟩
      have hu4 : 0 ≤ u ∧ u < 4 := by omega
      rw [hu] at hb3
      rw [hT] at hbd ⊢
      have htw : IntKind.i64.wrap (T + u) = T + u := by rw [IntKind.wrap_i64]; omega
      have hiw : IntKind.i64.wrap ((i : Int) + 1) = (i : Int) + 1 := by rw [IntKind.wrap_i64]; omega
      have HT1 : Hid (tm f (i + 1) = T + u) := Lib.hid (by rw [← hT, ← hu]; rfl)
      clear hrel hs hown hbe hcell hu hT
      go_wp2_with (at_builtin; refine wpList_append_seg _ rfl _ _ 43 rfl 47 i0 _ 3 24 Try.underlying43 hi0 hz0 hz1 hz2 rfl (by decide) _ i (hcells (rl f a 0 i)) ob rfl (HS.out.alloc _) ⟨wr.heap.size, 0, none⟩ 1 1 [.int .i64 (T + u), .int .i64 0, .int .i64 0] rfl rfl (Sq.news_row (Row.made wr _ _)) (by simp [Value.oneCell']) (by decide) (by unfold maxLen; omega) (by omega) ?_; intro v2 w5 ob2 hs2 ht2 ho2; have HS2 := Lib.hid hs2; have HT2 := Lib.hid ht2; have HO2 := Lib.hid ho2; clear hs2 ht2 ho2)
      go_roundw
      case rel =>
        refine ⟨i + 1, by omega, by go_num, by rw [HT1.out], Lib.hid ⟨ob2, ?_, ?_, ?_⟩⟩
        · rw [rl_succ, HT1.out]
          have e : hcells (rl f a 0 i ++ [⟨T + u, 0, 0⟩]) = hcells (rl f a 0 i) ++ [.int .i64 (T + u), .int .i64 0, .int .i64 0] := by simp [hcells, St.cells]
          rw [e]
          exact HS2.out
        · intro g' e
          rcases HO2.out with h | ⟨g2, h, hg2⟩
          · rw [h] at e; exact HO.out g' e
          · rw [h] at e; injection e with e; have := HB.out.size; simp at hg2; omega
        · exact HT2.out.below (HB.out.alloc HB.out.size _) (by have := HB.out.size; simp; omega) (fun g' hg' e => by have := HO.out g' e; omega)
      case measure => simp [intOf]; omega
    · obtain rfl : i = m := by omega
      have hnot : ¬ ((i : Int) < (n : Int) ∧ (i : Int) < 12) := by have := HM.out; omega
      by_cases h12 : (i : Int) < (n : Int)
      · have h13 : ¬ (i : Int) < 12 := by omega
        obtain ⟨A2, c2, rfl, h1, h2⟩ := HS.out.form
        have hc2 : i ≤ c2 := h1
        have HI2 : Hid (∃ ob, Seg wr 47 3 (.slice A2 i c2) i (hcells (rl f a 0 i)) ob ∧ (∀ g, ob = some g → w.heap.size ≤ g) ∧ Below w.heap.size w wr) := Lib.hid ⟨ob, HS.out, HO.out, HB.out⟩
        clear HS HO HB h1 h2 hrel hs hown hbe hnot
        obtain ⟨V, rfl⟩ : ∃ V, V = wr := ⟨_, rfl⟩
        go_wp2
        go_loopw [8] (fun s8 wx => ∃ k : Nat, k ≤ i ∧ s8 = .int .i64 k ∧ Hid (∃ ob, Seg wx 47 3 (.slice A2 i c2) i (hcells (rl f a k i)) ob ∧ (∀ g, ob = some g → w.heap.size ≤ g) ∧ Below w.heap.size w wx)) (fun s8 _ => i - (intOf s8).toNat)
        case atStart => exact ⟨0, by omega, rfl, HI2⟩
        case round =>
          clear HI2
          obtain ⟨k, hki, rfl, hrel⟩ := hrel
          obtain ⟨ob, hs, hown, hbe⟩ := hrel.out
          by_cases hlt : k < i
          · obtain ⟨g, o, cap, e, hob, _, _, hcl, hfr⟩ := hs.shape (by omega)
            injection e with e1 e2 e3
            subst e1 e3
            have hkz : (k : Int) < (i : Int) := by omega
            have hce : wr.cell? ⟨g, o + k * 3 + 2, none⟩ = some (.int .i64 0) := by
              have := hcl _ _ (hcells_get _ k _ 2 _ (rl_cell f a k i hlt) rfl)
              rw [← Nat.add_assoc] at this
              exact this
            have hfz := hfr (o + k * 3 + 2)
            have hput := Seg.put hs (k * 3 + 2) (by omega) (.int .i64 a)
            rw [hset1 _ k _ (rl_cell f a k i hlt) a, rl_set f a k i hlt, ← Nat.add_assoc] at hput
            have HP := Lib.hid hput
            have HOW := Lib.hid hown
            have HBE := Lib.hid hbe
            have HOB := Lib.hid hob
            have hiw : IntKind.i64.wrap ((k : Int) + 1) = (k : Int) + 1 := by rw [IntKind.wrap_i64]; omega
            clear hs hcl hfr hput hown hbe hob hrel
            go_wp2
            go_roundw
            case rel => exact ⟨k + 1, by omega, by go_num, Lib.hid ⟨ob, HP.out, HOW.out, HBE.out.setCell (HOW.out g HOB.out) _⟩⟩
            case measure => simp [intOf]; omega
          · obtain rfl : k = i := by omega
            have HS3 := Lib.hid hs
            have HB3 := Lib.hid hbe
            clear hs hbe hown hrel
            go_wp2
            go_ret
            exact ⟨_, ob, rfl, HS3.out, HB3.out⟩
      · obtain ⟨A2, c2, rfl, h1, h2⟩ := HS.out.form
        have hc2 : i ≤ c2 := h1
        have HI2 : Hid (∃ ob, Seg wr 47 3 (.slice A2 i c2) i (hcells (rl f a 0 i)) ob ∧ (∀ g, ob = some g → w.heap.size ≤ g) ∧ Below w.heap.size w wr) := Lib.hid ⟨ob, HS.out, HO.out, HB.out⟩
        clear HS HO HB h1 h2 hrel hs hown hbe hnot
        obtain ⟨V, rfl⟩ : ∃ V, V = wr := ⟨_, rfl⟩
        go_wp2
        go_loopw [8] (fun s8 wx => ∃ k : Nat, k ≤ i ∧ s8 = .int .i64 k ∧ Hid (∃ ob, Seg wx 47 3 (.slice A2 i c2) i (hcells (rl f a k i)) ob ∧ (∀ g, ob = some g → w.heap.size ≤ g) ∧ Below w.heap.size w wx)) (fun s8 _ => i - (intOf s8).toNat)
        case atStart => exact ⟨0, by omega, rfl, HI2⟩
        case round =>
          clear HI2
          obtain ⟨k, hki, rfl, hrel⟩ := hrel
          obtain ⟨ob, hs, hown, hbe⟩ := hrel.out
          by_cases hlt : k < i
          · obtain ⟨g, o, cap, e, hob, _, _, hcl, hfr⟩ := hs.shape (by omega)
            injection e with e1 e2 e3
            subst e1 e3
            have hkz : (k : Int) < (i : Int) := by omega
            have hce : wr.cell? ⟨g, o + k * 3 + 2, none⟩ = some (.int .i64 0) := by
              have := hcl _ _ (hcells_get _ k _ 2 _ (rl_cell f a k i hlt) rfl)
              rw [← Nat.add_assoc] at this
              exact this
            have hfz := hfr (o + k * 3 + 2)
            have hput := Seg.put hs (k * 3 + 2) (by omega) (.int .i64 a)
            rw [hset1 _ k _ (rl_cell f a k i hlt) a, rl_set f a k i hlt, ← Nat.add_assoc] at hput
            have HP := Lib.hid hput
            have HOW := Lib.hid hown
            have HBE := Lib.hid hbe
            have HOB := Lib.hid hob
            have hiw : IntKind.i64.wrap ((k : Int) + 1) = (k : Int) + 1 := by rw [IntKind.wrap_i64]; omega
            clear hs hcl hfr hput hown hbe hob hrel
            go_wp2
            go_roundw
            case rel => exact ⟨k + 1, by omega, by go_num, Lib.hid ⟨ob, HP.out, HOW.out, HBE.out.setCell (HOW.out g HOB.out) _⟩⟩
            case measure => simp [intOf]; omega
          · obtain rfl : k = i := by omega
            have HS3 := Lib.hid hs
            have HB3 := Lib.hid hbe
            clear hs hbe hown hrel
            go_wp2
            go_ret
            exact ⟨_, ob, rfl, HS3.out, HB3.out⟩
end Go.Proofs.Ytbhbjblliegliaa.Sm
