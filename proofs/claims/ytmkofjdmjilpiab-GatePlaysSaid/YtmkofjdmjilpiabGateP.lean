/- The walk of the law GatePlays. -/
import Derived.Test.YtmkofjdmjilpiabGateL
import Derived.Test.YtmkofjdmjilpiabOpen
import Derived.Test.YtmkofjdmjilpiabBits
import Derived.Deep.DeepCutAuto
import Derived.Deep.CutBlock
import Derived.Outline
namespace Go.Proofs.Ytmkofjdmjilpiab.Gate
open Go.RowKit Go.Proofs.Ytmkofjdmjilpiab Go.Maps
set_option linter.unusedVariables false

/-- Of 0 to 14 those are inside whom S tells; -1 is not. -/
structure In15 (D : DU) (S : Nat → Bool) (n : Nat) : Prop where
  has : ∀ x : Nat, x < 15 → Maps.has D (Ki x) = S x
  neg : Maps.has D (Ki (-1)) = false
  size : Maps.size D = n
  tidy : Tidy D
theorem ki_neg (x : Nat) : Ki (-1) ≠ Ki (x : Int) := by
  intro e
  injection e with _ e
  omega
theorem In15.put {D : DU} {S : Nat → Bool} {n : Nat} (h : In15 D S n) {x : Nat} (hx : x < 15) (hS : S x = false) : In15 (D.put (Ki x) (.agg [])) (upd S x true) (n + 1) := by
  refine ⟨fun y hy => ?_, by rw [has_put_other (ki_neg x), h.neg], ?_, h.tidy.put (ki_key _) _⟩
  · unfold upd
    by_cases e : y = x
    · subst e
      rw [if_pos rfl, has_put_same h.tidy.isMap (ki_key _)]
    · rw [if_neg e, has_put_other (ki_ne e), h.has y hy]
  · rw [size_put h.tidy, h.has x hx, hS, h.size]
    rfl
theorem In15.del {D : DU} {S : Nat → Bool} {n : Nat} (h : In15 D S n) {x : Nat} (hx : x < 15) (hS : S x = true) : In15 (D.del (Ki x)) (upd S x false) (n - 1) ∧ 1 ≤ n := by
  have h1 := size_del (k := Ki (x : Int)) h.tidy
  rw [h.has x hx, hS, h.size] at h1
  simp only [if_true] at h1
  refine ⟨⟨fun y hy => ?_, by rw [has_del_other (ki_neg x), h.neg], by omega, h.tidy.del _⟩, by omega⟩
  unfold upd
  by_cases e : y = x
  · subst e
    rw [if_pos rfl, has_del_same]
  · rw [if_neg e, has_del_other (ki_ne e), h.has y hy]
def bools (S : Nat → Bool) : Nat → Value := fun i => .bool (S i)
/-- What holds between two rounds. -/
structure Mp (w0 w : World) (ab j : Nat) (S : Nat → Bool) (n : Nat) (cl : Bool) : Prop where
  li : ∃ D c, LI w0 w (w0.heap.size + 1) w0.heap.size D c cl ∧ In15 D S n ∧ c ≤ j
  tab : Tab w ab 25 16 (bools S)
  ge : w0.heap.size + 2 ≤ ab
  nj : n ≤ j
theorem Mp.mono {w0 w : World} {ab j j' : Nat} {S : Nat → Bool} {n : Nat} {cl : Bool} (h : Mp w0 w ab j S n cl) (hj : j ≤ j') : Mp w0 w ab j' S n cl := by
  obtain ⟨⟨D, c, h1, h2, h3⟩, h4, h5, h6⟩ := h
  exact ⟨⟨D, c, h1, h2, by omega⟩, h4, h5, by omega⟩
theorem LI.store {w0 w : World} {ab : Nat} {D : DU} {c : Nat} {cl : Bool} (h : LI w0 w (w0.heap.size + 1) w0.heap.size D c cl) (hab : w0.heap.size + 2 ≤ ab) (k : Nat) (u : Value) : LI w0 (w.setCell ⟨ab, k, none⟩ u) (w0.heap.size + 1) w0.heap.size D c cl := by
  have ht : Turns w (w.setCell ⟨ab, k, none⟩ u) (fun q => q = ab) := (Turns.refl w _).put ab k u (fun _ => rfl)
  exact ⟨h.gt.turns ht (fun e => by omega) (fun e => by omega), ht.below h.be h.be.size (fun q hq e => by omega), h.bb, h.bm⟩
theorem tab_upd {w : World} {ab : Nat} {S : Nat → Bool} (h : Tab w ab 25 16 (bools S)) (k : Nat) (v : Bool) : Tab (w.setCell ⟨ab, k, none⟩ (.bool v)) ab 25 16 (bools (upd S k v)) :=
  h.put k _ (fun i _ hi => by unfold bools upd; rw [if_neg hi]) (fun _ => by unfold bools upd; rw [if_pos rfl])
theorem sixteen {x : Nat} (h : x < 16) : x = 0 ∨ x = 1 ∨ x = 2 ∨ x = 3 ∨ x = 4 ∨ x = 5 ∨ x = 6 ∨ x = 7 ∨ x = 8 ∨ x = 9 ∨ x = 10 ∨ x = 11 ∨ x = 12 ∨ x = 13 ∨ x = 14 ∨ x = 15 := by omega
theorem tab_start (w : World) : Tab (w.alloc (.cells #[.bool false, .bool false, .bool false, .bool false, .bool false, .bool false, .bool false, .bool false, .bool false, .bool false, .bool false, .bool false, .bool false, .bool false, .bool false, .bool false] 25)) w.heap.size 25 16 (bools (fun _ => false)) :=
  ⟨_, Row.made _ _ _, rfl, fun i hi => by rcases sixteen hi with rfl | rfl | rfl | rfl | rfl | rfl | rfl | rfl | rfl | rfl | rfl | rfl | rfl | rfl | rfl | rfl <;> rfl⟩
theorem in15_start : In15 (.map []) (fun _ => false) 0 := ⟨fun _ _ => rfl, rfl, rfl, tidy_empty⟩
set_option maxRecDepth 100000 in
set_option maxHeartbeats 16000000 in
theorem plays_law (A : Option Addr) (n c : Nat) (f : Nat → Int) (ln : n ≤ c) (lc : c ≤ 9223372036854775807) (lb : ∀ k, -9223372036854775808 ≤ f k ∧ f k ≤ 9223372036854775807)
    (w : World) (lies : Lies w w.heap.size A n (fun k => .int .i64 (f k))) :
    Calls Try.prog 3 #[.slice A n c] w fun e w' => e = .returned (.bool true) ∧ Below w.heap.size w w' := by
  have HL := Lib.hid lies
  have HLB := Lib.hid lb
  clear lies lb
  go_enter Try.func3, Try.ntmps3
  go_wp2_with fail
  refine (new_any _).mono ?_
  rintro e w1 ⟨rfl, hg, hb⟩
  have L := Lib.hid (li_new hg hb)
  clear hg hb
  have hm0 : Mp w (w1.alloc (.cells #[.bool false, .bool false, .bool false, .bool false, .bool false, .bool false, .bool false, .bool false, .bool false, .bool false, .bool false, .bool false, .bool false, .bool false, .bool false, .bool false] 25)) w1.heap.size 0 (fun _ => false) 0 false :=
    ⟨⟨_, _, L.out.call ((Below.refl _ _).alloc (Nat.le_refl _) _), in15_start, Nat.le_refl _⟩, tab_start w1, by have := L.out.gt.row.lt; omega, Nat.le_refl _⟩
  have HM0 := Lib.hid hm0
  clear hm0
  go_wp2
  generalize w1.alloc (.cells #[.bool false, .bool false, .bool false, .bool false, .bool false, .bool false, .bool false, .bool false, .bool false, .bool false, .bool false, .bool false, .bool false, .bool false, .bool false, .bool false] 25) = w2 at HM0 ⊢
  generalize w1.heap.size = ab at HM0 ⊢
  go_loopw [5, 6, 7] (fun v5 v6 i wr => ∃ (j : Nat) (S : Nat → Bool) (q : Nat) (cl : Bool), j ≤ n ∧ j ≤ 60 ∧ i = .int .i64 j ∧ v5 = .int .i64 q ∧ v6 = .bool cl ∧ Hid (Mp w wr ab j S q cl)) (fun _ _ i _ => n - (intOf i).toNat)
  case atStart => exact ⟨0, _, 0, false, by omega, by omega, rfl, rfl, rfl, HM0⟩
  case round =>
    clear L HM0
    obtain ⟨j, S, q, cl, hj, hj60, rfl, rfl, rfl, hm⟩ := hrel
    by_cases hjn : j < n ∧ j < 60
    · obtain ⟨hjn, h60⟩ := hjn
      have e60 : decide ((j : Int) < 60) = true := by simp; omega
      obtain ⟨D, c', hl, hi, hc'⟩ := hm.out.li
      have hqj := hm.out.nj
      have HLI := Lib.hid hl
      have HI := Lib.hid hi
      obtain ⟨g, o, rfl, hg, hcell⟩ := HL.out j hjn
      have hcj := (HLI.out.be.cell (p := ⟨g, o + j, none⟩) hg).trans hcell
      have h15 := and15 (f j)
      obtain ⟨x, hx⟩ : ∃ x, f j % 16 - 1 = x := ⟨_, rfl⟩
      obtain ⟨hx0, hx1⟩ : -1 ≤ x ∧ x ≤ 14 := by omega
      have HX := Lib.hid hx
      obtain ⟨b0, b1⟩ := HLB.out j
      clear hl hi hcell hx
      go_upto_region 5 with fail
      go_cut [8] (fun s8 wx => s8 = .int .i64 x ∧ wr = wx)
      case first =>
        go_wp2
        go_meet
        exact ⟨by rw [HX.out], rfl⟩
      case rest =>
        obtain ⟨rfl, rfl⟩ := hcut
        obtain ⟨k, hk⟩ : ∃ k : Nat, (if x < 0 then 0 else x) = (k : Int) := ⟨(if x < 0 then 0 else x).toNat, by split <;> omega⟩
        have HK := Lib.hid hk
        have hk15 : k < 15 := by split at hk <;> omega
        clear hk
        go_upto_region 6 with fail
        go_cut [9] (fun s9 wx => s9 = .int .i64 k ∧ wr = wx)
        case first =>
          rcases (show x < 0 ∨ 0 ≤ x from by omega) with h | h
          all_goals
            go_wp2
            go_meet
          · exact ⟨by rw [← HK.out, if_pos h], rfl⟩
          · exact ⟨by rw [← HK.out, if_neg (by omega)], rfl⟩
        case rest =>
          obtain ⟨rfl, rfl⟩ := hcut
          go_upto_region 7 with fail
          go_cut [39] (fun s39 wx => ∃ y : Int, s39 = .int .i64 y ∧ 0 ≤ y ∧ y ≤ 7 ∧ wr = wx)
          case first =>
            go_wp2
            go_meet
            exact ⟨_, rfl, by rw [and7]; omega, by rw [and7]; omega, rfl⟩
          case rest =>
            obtain ⟨y, rfl, hy0, hy7, rfl⟩ := hcut
            clear hcj b0 b1 h15
            go_upto_block 2 with fail
            go_cut [5, 6] (fun s5 s6 wc => ∃ (S' : Nat → Bool) (q' : Nat) (cl' : Bool), s5 = .int .i64 q' ∧ s6 = .bool cl' ∧ Hid (Mp w wc ab (j + 1) S' q' cl'))
            case first =>
              go_upto_if 42 with fail
              go_cut [42] (fun s42 wx => s42 = .bool (decide (y ≤ 3)) ∧ wr = wx)
              case first =>
                rcases (show y = 0 ∨ y = 1 ∨ y = 2 ∨ y = 3 ∨ 4 ≤ y from by omega) with rfl | rfl | rfl | rfl | h
                all_goals
                  go_wp2
                  go_meet
                  refine ⟨congrArg Value.bool ?_, rfl⟩
                  rw [Bool.eq_iff_iff]
                  simp
                  try omega
              case rest =>
                obtain ⟨rfl, rfl⟩ := hcut
                have HS16 := hm.out.tab
                have hk16 : k < 16 := by omega
                have hck := hm.out.tab.cell hk16
                have hfk := hm.out.tab.free k
                clear HS16
                by_cases h3 : y ≤ 3
                · rw [decide_eq_true h3]
                  rcases (show x < 0 ∨ 0 ≤ x from by omega) with h | h
                  · go_wp2_with fail
                    refine (enter_neg _ x h _).mono ?_
                    rintro e w' ⟨rfl, rfl⟩
                    go_wp2
                    go_meet
                    exact ⟨S, q, cl, rfl, rfl, hm.out.mono (by omega)⟩
                  · obtain rfl : x = (k : Int) := by rw [← HK.out, if_neg (by omega)]
                    cases cl with
                    | true =>
                      go_wp2_with fail
                      refine (enter_closed _ _ _ _ _ _ HLI.out.gt (k : Int) h rfl).mono ?_
                      rintro e w' ⟨rfl, rfl⟩
                      go_wp2
                      go_meet
                      exact ⟨S, q, true, rfl, rfl, hm.out.mono (by omega)⟩
                    | false =>
                      unfold bools at hck
                      cases hS : S k with
                      | true =>
                        have HH : Hid (Maps.has D (Ki (k : Int)) = true) := (HI.out.has k hk15).trans hS
                        rw [hS] at hck
                        clear hS
                        go_wp2_with fail
                        refine (enter_twice _ _ _ D _ _ HLI.out.gt (k : Int) ⟨h, by omega⟩ rfl HH.out).mono ?_
                        rintro e w3 ⟨rfl, hb3⟩
                        have HM3 : Hid (Mp w w3 ab (j + 1) S q false) := ⟨⟨D, c', HLI.out.call hb3, HI.out, by omega⟩, hm.out.tab.below hb3 hm.out.tab.lt, hm.out.ge, by omega⟩
                        clear hb3
                        go_wp2
                        go_meet
                        exact ⟨S, q, false, rfl, rfl, HM3⟩
                      | false =>
                        have HS := Lib.hid hS
                        have HH : Hid (Maps.has D (Ki (k : Int)) = false) := (HI.out.has k hk15).trans hS
                        rw [hS] at hck
                        clear hS
                        go_wp2_with fail
                        refine (enter_new _ _ c' D _ _ (HLI.out.store hm.out.ge k _).gt (k : Int) ⟨h, by omega⟩ rfl HH.out (by omega)).mono ?_
                        rintro e w3 ⟨rfl, hg3, ht3⟩
                        have HM3 : Hid (Mp w w3 ab (j + 1) (upd S k true) (q + 1) false) := ⟨⟨_, c' + 1, (HLI.out.store hm.out.ge k _).turn hg3 ht3, HI.out.put hk15 HS.out, by omega⟩, (tab_upd hm.out.tab k true).turns ht3 (fun e => by have := hm.out.ge; omega), hm.out.ge, by omega⟩
                        clear hg3 ht3
                        go_wp2
                        go_meet
                        exact ⟨upd S k true, q + 1, false, by go_num, rfl, HM3⟩
                · rw [decide_eq_false h3]
                  go_upto_if 65 with fail
                  go_cut [65] (fun s65 wx => s65 = .bool (decide (y ≤ 6)) ∧ wr = wx)
                  case first =>
                    rcases (show y = 4 ∨ y = 5 ∨ y = 6 ∨ y = 7 from by omega) with rfl | rfl | rfl | rfl
                    all_goals
                      go_wp2
                      go_meet
                      refine ⟨congrArg Value.bool ?_, rfl⟩
                      rfl
                  case rest =>
                    obtain ⟨rfl, rfl⟩ := hcut
                    by_cases h6 : y ≤ 6
                    · rw [decide_eq_true h6]
                      rcases (show x = -1 ∨ 0 ≤ x from by omega) with rfl | h
                      · have HH : Hid (Maps.has D (Ki (-1)) = false) := HI.out.neg
                        go_wp2_with fail
                        refine (leave_no _ _ _ D _ _ HLI.out.gt (-1) (by decide) HH.out).mono ?_
                        rintro e w3 ⟨rfl, hb3⟩
                        have HM3 : Hid (Mp w w3 ab (j + 1) S q cl) := ⟨⟨D, c', HLI.out.call hb3, HI.out, by omega⟩, hm.out.tab.below hb3 hm.out.tab.lt, hm.out.ge, by omega⟩
                        clear hb3
                        go_wp2
                        go_meet
                        exact ⟨S, q, cl, rfl, rfl, HM3⟩
                      · obtain rfl : x = (k : Int) := by rw [← HK.out, if_neg (by omega)]
                        unfold bools at hck
                        cases hS : S k with
                        | true =>
                          have HS := Lib.hid hS
                          have HH : Hid (Maps.has D (Ki (k : Int)) = true) := (HI.out.has k hk15).trans hS
                          have hq1 := (HI.out.del hk15 hS).2
                          rw [hS] at hck
                          clear hS
                          go_wp2_with fail
                          refine (leave_yes _ _ c' D _ _ (HLI.out.store hm.out.ge k _).gt (k : Int) ⟨by omega, by omega⟩ HH.out).mono ?_
                          rintro e w3 ⟨rfl, hg3, ht3⟩
                          have HM3 : Hid (Mp w w3 ab (j + 1) (upd S k false) (q - 1) cl) := ⟨⟨_, c', (HLI.out.store hm.out.ge k _).turn hg3 ht3, (HI.out.del hk15 HS.out).1, by omega⟩, (tab_upd hm.out.tab k false).turns ht3 (fun e => by have := hm.out.ge; omega), hm.out.ge, by omega⟩
                          clear hg3 ht3
                          go_wp2
                          go_meet
                          exact ⟨upd S k false, q - 1, cl, i64_of (by omega), rfl, HM3⟩
                        | false =>
                          have HH : Hid (Maps.has D (Ki (k : Int)) = false) := (HI.out.has k hk15).trans hS
                          rw [hS] at hck
                          clear hS
                          go_wp2_with fail
                          refine (leave_no _ _ _ D _ _ HLI.out.gt (k : Int) ⟨by omega, by omega⟩ HH.out).mono ?_
                          rintro e w3 ⟨rfl, hb3⟩
                          have HM3 : Hid (Mp w w3 ab (j + 1) S q cl) := ⟨⟨D, c', HLI.out.call hb3, HI.out, by omega⟩, hm.out.tab.below hb3 hm.out.tab.lt, hm.out.ge, by omega⟩
                          clear hb3
                          go_wp2
                          go_meet
                          exact ⟨S, q, cl, rfl, rfl, HM3⟩
                    · rw [decide_eq_false h6]
                      go_wp2_with fail
                      refine (close_any _ _ _ _ _ _ HLI.out.gt).mono ?_
                      rintro e w3 ⟨rfl, hg3, ht3⟩
                      have HM3 : Hid (Mp w w3 ab (j + 1) S q true) := ⟨⟨_, c', HLI.out.turnB hg3 ht3, HI.out, by omega⟩, hm.out.tab.turns ht3 (fun e => by have := hm.out.ge; omega), hm.out.ge, by omega⟩
                      clear hg3 ht3
                      go_wp2
                      go_meet
                      exact ⟨S, q, true, rfl, rfl, HM3⟩
            case rest =>
              clear hm HLI HI HX HK hqj
              obtain ⟨S', q', cl', rfl, rfl, hm'⟩ := hcut
              obtain ⟨D', c2, hl, hi, hc2⟩ := hm'.out.li
              have hqj := hm'.out.nj
              have HLI := Lib.hid hl
              have HSZ := Lib.hid hi.size
              clear hl hi
              go_wp2_with fail
              refine (len_any _ _ _ _ _ _ HLI.out.gt).mono ?_
              rintro e w' ⟨rfl, rfl⟩
              rw [HSZ.out]
              cases cl' with
              | true =>
                have HDN : Hid ((true && decide (Maps.size D' = 0)) = ((q' : Int) == 0)) := by
                  show (true && decide (Maps.size D' = 0)) = ((q' : Int) == 0)
                  rw [HSZ.out, Bool.eq_iff_iff]; simp
                go_wp2_with fail
                refine (done_any _ _ _ _ _ _ HLI.out.gt _ HDN.out).mono ?_
                rintro e w' ⟨rfl, rfl⟩
                go_wp2
                go_roundw
                case measure => simp [intOf]; omega
                case rel => exact ⟨j + 1, S', q', true, by omega, by omega, by go_num, rfl, rfl, hm'⟩
              | false =>
                go_wp2_with fail
                refine (done_any _ _ _ _ _ _ HLI.out.gt false rfl).mono ?_
                rintro e w' ⟨rfl, rfl⟩
                go_wp2
                go_roundw
                case measure => simp [intOf]; omega
                case rel => exact ⟨j + 1, S', q', false, by omega, by omega, by go_num, rfl, rfl, hm'⟩
    · obtain ⟨D, c', hl, _, _⟩ := hm.out.li
      have HB := Lib.hid hl.be
      clear hl
      by_cases hjn' : j < n
      all_goals
        try have e60 : decide ((j : Int) < 60) = false := by simp; omega
        clear hjn
        go_wp2_with fail
        refine (close_nil _).mono ?_
        rintro e w' ⟨rfl, rfl⟩
        have HB1 := Lib.hid (HB.out.alloc HB.out.size (.cells #[.map none, .bool false] 33))
        have HZ := Lib.hid (Row.made wr 33 #[.map none, .bool false])
        go_wp2_with fail
        refine (awake_any _).mono ?_
        rintro e w2 ⟨rfl, hb⟩
        have HB2 := Lib.hid (HB1.out.trans (hb.mono HB1.out.size))
        have HZ2 := Lib.hid (HZ.out.below hb HZ.out.lt)
        clear hb
        go_wp2_with fail
        refine (enter_nil _).mono ?_
        rintro e w' ⟨rfl, rfl⟩
        go_wp2_with fail
        refine (enter_zero _ _ _ HZ2.out).mono ?_
        rintro e w' ⟨rfl, rfl⟩
        go_wp2_with fail
        refine (leave_nil 1 _).mono ?_
        rintro e w' ⟨rfl, rfl⟩
        go_wp2_with fail
        refine (len_nil _).mono ?_
        rintro e w' ⟨rfl, rfl⟩
        go_wp2_with fail
        refine (done_nil _).mono ?_
        rintro e w' ⟨rfl, rfl⟩
        go_wp2
        go_ret
        exact ⟨rfl, HB2.out⟩
end Go.Proofs.Ytmkofjdmjilpiab.Gate
