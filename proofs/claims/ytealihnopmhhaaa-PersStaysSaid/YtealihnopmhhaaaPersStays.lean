/- The walk of the law PersStays. -/
import Derived.Test.YtealihnopmhhaaaPersD
import Derived.Test.YtealihnopmhhaaaApp
import Derived.Test.YtealihnopmhhaaaOpen
import Derived.Deep.RegionLaw
import Derived.Deep.DeepCutAuto
import Derived.Deep.CutBlock
namespace Go.Proofs.Ytealihnopmhhaaa.Pers
open Go.RowKit Go.Proofs.Ytealihnopmhhaaa
set_option linter.unusedVariables false

theorem Lies.less {w : World} {B : Nat} {A : Option Addr} {n m : Nat} {v : Nat → Value} (h : Lies w B A n v) (hm : m ≤ n) : Lies w B A m v := fun k hk => h k (by omega)
theorem Lies.wide {w : World} {B B' : Nat} {A : Option Addr} {n : Nat} {v : Nat → Value} (h : Lies w B A n v) (hB : B ≤ B') : Lies w B' A n v := fun k hk => by
  obtain ⟨g, o, e, hg, hc⟩ := h k hk
  exact ⟨g, o, e, by omega, hc⟩
/-- A chain onto which some things more were put. -/
def More (w0 : World) (f1 : Nat → Int) (m1 : Nat) (xs : List Int) (v : Value) (w : World) : Prop := ∃ p, v = .pointer p ∧ Ch w w.heap.size p (revN f1 m1 ++ xs) ∧ Below w0.heap.size w0 w
/-- What two appends leave. -/
def Want (w0 : World) (f f1 : Nat → Int) (m m1 : Nat) (v : Value) (w : World) : Prop :=
  ∃ ob, Seg w 3 1 v (m + m1) ((List.range m).map (fun k => .int .i64 (f k)) ++ (List.range m1).map (fun k => .int .i64 (f1 k))) ob ∧ Below w0.heap.size w0 w
theorem seg_none (w : World) (e : TypeId) (A : Option Addr) : Seg w e 1 (.slice A 0 0) 0 [] none := ⟨by simp, _, 0, rfl, Nat.le_refl _, by unfold maxLen; omega, .inl ⟨rfl, rfl, fun _ => trivial⟩⟩
theorem below_turn {B : Nat} {w0 w w' : World} (h : Below B w0 w) (t : Turns w w' (fun k => (none : Option Nat) = some k)) (hB : B ≤ w.heap.size := by simp) : Below B w0 w' := t.below h hB (fun _ _ e => by cases e)
theorem below_two {w0 W w1 w2 : World} {ob1 : Option Nat} (h0 : Below w0.heap.size w0 W) (hB : w0.heap.size ≤ W.heap.size) (ht1 : Turns W w1 (fun k => (none : Option Nat) = some k)) (ho1 : ob1 = none ∨ ∃ g, ob1 = some g ∧ W.heap.size ≤ g)
    (ht2 : Turns w1 w2 (fun k => ob1 = some k)) : Below w0.heap.size w0 w2 :=
  ht2.below (ht1.below h0 hB (fun _ _ e => by cases e)) (Nat.le_trans hB ht1.size) (fun k hk e => by
    rcases ho1 with h | ⟨g, h, hg⟩
    · rw [h] at e; cases e
    · rw [h] at e; cases e; omega)
/-- What the list holds that two appends made. -/
def two (f f1 : Nat → Int) (m : Nat) (k : Nat) : Int := if k < m then f k else f1 (k - m)
theorem two_list (f f1 : Nat → Int) (m m1 : Nat) : (List.range m).map (fun k => Value.int .i64 (f k)) ++ (List.range m1).map (fun k => Value.int .i64 (f1 k)) = ((List.range (m + m1)).map (two f f1 m)).map (Value.int .i64) := by
  apply List.ext_getElem
  · simp
  · intro i h1 h2
    simp only [List.getElem_map, List.getElem_range, two]
    by_cases h : i < m
    · rw [List.getElem_append_left (by simp; omega), if_pos h]; simp
    · rw [List.getElem_append_right (by simp; omega), if_neg h]; simp
theorem lies_segN {w : World} {v : Value} {f f1 : Nat → Int} {m m1 : Nat} {ob : Option Nat} (h : Seg w 3 1 v (m + m1) ((List.range m).map (fun k => .int .i64 (f k)) ++ (List.range m1).map (fun k => .int .i64 (f1 k))) ob) :
    ∃ A c, v = .slice A (m + m1) c ∧ Lies w w.heap.size A (m + m1) (fun k => .int .i64 (two f f1 m k)) := by
  rw [two_list] at h
  obtain ⟨A, c, hv, hl⟩ := lies_seg h
  refine ⟨A, c, hv, fun k hk => ?_⟩
  obtain ⟨g, o, e1, e2, e3⟩ := hl k hk
  refine ⟨g, o, e1, e2, ?_⟩
  rw [e3]
  simp [hk]
theorem below_drewN {B : Nat} {w0 w : World} (h : Below B w0 w) (n : Nat) : Below B w0 (w.drewN n) := ⟨h.os, h.tape, h.output, h.size, h.block⟩
theorem ch_drewN {w : World} {B : Nat} {p : Option Addr} {xs : List Int} (h : Ch w B p xs) (d : Nat) : Ch (w.drewN d) B p xs := h.below (below_drewN (Below.refl B w) d) (Nat.le_refl _)
theorem revN_rev (f : Nat → Int) : ∀ m, (revN f m).reverse = (List.range m).map f
  | 0 => rfl
  | m + 1 => by rw [revN, List.reverse_cons, revN_rev f m, List.range_succ, List.map_append]; rfl
theorem revN_two (f f1 : Nat → Int) (m m1 : Nat) : (revN f1 m1 ++ revN f m).reverse = (List.range (m + m1)).map (two f f1 m) := by
  rw [List.reverse_append, revN_rev, revN_rev]
  apply List.ext_getElem
  · simp
  · intro i h1 h2
    simp only [List.getElem_map, List.getElem_range, two]
    by_cases h : i < m
    · rw [List.getElem_append_left (by simp; omega), if_pos h]; simp
    · rw [List.getElem_append_right (by simp; omega), if_neg h]; simp
theorem list_is (p0 : Option Addr) (xs : List Int) (m : Nat) (g : Nat → Int) (w : World) (hL : Ch w w.heap.size p0 xs) (hx : xs.reverse = (List.range m).map g) (hm : m ≤ 1000000) :
    Calls Try.prog 26 #[.pointer p0] w fun e w' => ∃ A c, e = .returned (.slice A m c) ∧ Lies w' w'.heap.size A m (fun k => .int .i64 (g k)) ∧ Below w.heap.size w w' := by
  have hlen : xs.length = m := by rw [← List.length_reverse, hx]; simp
  refine (list_any p0 xs w hL (by omega)).mono ?_
  rintro e w' ⟨v, ob, rfl, hs, hb, _⟩
  rw [hx, hlen] at hs
  obtain ⟨A, c, rfl, hl⟩ := lies_seg hs
  refine ⟨A, c, rfl, fun k hk => ?_, hb⟩
  obtain ⟨g', o, e1, e2, e3⟩ := hl k hk
  refine ⟨g', o, e1, e2, ?_⟩
  rw [e3]
  simp [hk]
theorem len_is (p : Option Addr) (xs : List Int) (n : Int) (B : Nat) (w : World) (h : Ch w B p xs) (hn : (xs.length : Int) = n) :
    Calls Try.prog 27 #[.pointer p] w fun e w' => e = .returned (.int .i64 n) ∧ w = w' :=
  (len_any p xs B w h).mono fun _ _ ⟨h1, h2⟩ => ⟨h1.trans (by rw [hn]), h2⟩
set_option maxRecDepth 100000 in
set_option maxHeartbeats 8000000 in
theorem stays_law {w : World} (A : Option Addr) (n c : Nat) (f : Nat → Int) (ln : n ≤ c) (lc : c ≤ 9223372036854775807) (lb : ∀ k, -9223372036854775808 ≤ f k ∧ f k ≤ 9223372036854775807) (ll : Lies w w.heap.size A n (fun k => .int .i64 (f k)))
    (A1 : Option Addr) (n1 c1 : Nat) (f1 : Nat → Int) (ln1 : n1 ≤ c1) (lc1 : c1 ≤ 9223372036854775807) (lb1 : ∀ k, -9223372036854775808 ≤ f1 k ∧ f1 k ≤ 9223372036854775807) (ll1 : Lies w w.heap.size A1 n1 (fun k => .int .i64 (f1 k)))
    (A2 : Option Addr) (n2 c2 : Nat) (f2 : Nat → Int) (ln2 : n2 ≤ c2) (lc2 : c2 ≤ 9223372036854775807) (lb2 : ∀ k, -9223372036854775808 ≤ f2 k ∧ f2 k ≤ 9223372036854775807) (ll2 : Lies w w.heap.size A2 n2 (fun k => .int .i64 (f2 k))) :
    Calls Try.prog 5 #[.slice A n c, .slice A1 n1 c1, .slice A2 n2 c2] w fun e w' => e = .returned (.bool true) ∧ Below w.heap.size w w' := by
  have HL := Lib.hid ll
  have HL1 := Lib.hid ll1
  have HL2 := Lib.hid ll2
  clear lb lb1 lb2 ll ll1 ll2
  go_enter Try.func5, Try.ntmps5
  go_wp2_with fail
  refine (awake_any _).mono ?_
  rintro e w1 ⟨rfl, hb1⟩
  have HB1 := Lib.hid hb1
  clear hb1
  obtain ⟨m, hm, hmn, hm20⟩ : ∃ m, m = min n 20 ∧ m ≤ n ∧ m ≤ 20 := ⟨_, rfl, by omega, by omega⟩
  obtain ⟨m1, hm1, hmn1, hm10⟩ : ∃ m1, m1 = min n1 10 ∧ m1 ≤ n1 ∧ m1 ≤ 10 := ⟨_, rfl, by omega, by omega⟩
  obtain ⟨m2, hm2, hmn2, hm210⟩ : ∃ m2, m2 = min n2 10 ∧ m2 ≤ n2 ∧ m2 ≤ 10 := ⟨_, rfl, by omega, by omega⟩
  have M := Lib.hid hm
  have M1 := Lib.hid hm1
  have M2 := Lib.hid hm2
  clear hm hm1 hm2
  go_upto_region 3 with fail
  go_cut [7] (fun s7 wc => s7 = .slice A m c ∧ wc = w1)
  case first =>
    rcases (show (n ≤ 20 ∧ m = n) ∨ (20 < n ∧ m = 20) from by have := M.out; omega) with ⟨h1, rfl⟩ | ⟨h1, rfl⟩
    all_goals
      go_wp2
      go_meet
      exact ⟨rfl, rfl⟩
  case rest =>
    obtain ⟨rfl, hw⟩ := hcut
    subst hw
    go_wp2_with fail
    refine (of_any A m c f _ (by omega) (Lies.wide (Lies.less (HL.out.below HB1.out) hmn) HB1.out.size)).mono ?_
    rintro e w2 ⟨⟨pc, rfl, hc2⟩, hb2⟩
    have HC2 := Lib.hid hc2
    have HB2 := Lib.hid (HB1.out.trans (hb2.mono HB1.out.size))
    clear hc2 hb2 HB1
    go_upto_block 0 with fail
    go_cut [9] (fun v wc => Hid (More w2 f1 m1 (revN f m) v wc))
    case first =>
      go_wp2
      go_loopw [9, 11] (fun v i wr => ∃ k : Nat, k ≤ m1 ∧ i = .int .i64 k ∧ Hid (More w2 f1 k (revN f m) v wr)) (fun _ i _ => n1 - (intOf i).toNat)
      case atStart => exact ⟨0, by omega, rfl, pc, rfl, HC2.out, Below.refl _ _⟩
      case round =>
        obtain ⟨k, hk, rfl, hmore⟩ := hrel
        obtain ⟨p, rfl, hch, hbe⟩ := hmore.out
        have HCH := Lib.hid hch
        have HBE := Lib.hid hbe
        clear hmore hch hbe
        by_cases hlt : k < m1
        · have e10 : decide ((k : Int) < 10) = true := by simp; omega
          have hkn : k < n1 := by omega
          obtain ⟨g, o, rfl, hg, hcell⟩ := HL1.out k hkn
          have hck : wr.cell? ⟨g, o + k, none⟩ = some (.int .i64 (f1 k)) := ((HB2.out.trans (HBE.out.mono HB2.out.size)).cell (p := ⟨g, o + k, none⟩) hg).trans hcell
          clear hcell
          have HM : Hid (More w2 f1 (k + 1) (revN f m) (.pointer (some ⟨wr.heap.size, 0, none⟩)) (wr.alloc (.cells #[.int .i64 (f1 k), .pointer p, .int .i64 (((revN f1 k).length : Int) + ((revN f m).length : Int) + 1)] 75))) :=
            ⟨_, rfl, by have := with_ch p _ (f1 k) _ wr HCH.out (Nat.le_refl _); simpa [revN] using this, HBE.out.alloc HBE.out.size _⟩
          go_wp2_with (go_at_call 24; refine (with_any p (revN f1 k ++ revN f m) (f1 k) _ _ HCH.out (by rw [List.length_append, revN_len, revN_len]; omega)).mono ?_; rintro e w' ⟨rfl, rfl⟩)
          go_roundw
          case rel => exact ⟨k + 1, by omega, by go_num, HM⟩
          case measure => simp [intOf]; omega
        · obtain rfl : k = m1 := by omega
          rcases (show (¬ k < n1) ∨ (k < n1 ∧ decide ((k : Int) < 10) = false) from by
            by_cases h : k < n1
            · exact .inr ⟨h, by have := M1.out; simp; omega⟩
            · exact .inl h) with h1 | ⟨h1, h2⟩
          all_goals
            go_wp2
            go_meet
            exact ⟨p, rfl, HCH.out, HBE.out⟩
    case rest =>
      obtain ⟨wa, hwa⟩ : ∃ wa : World, wa = wc := ⟨_, rfl⟩
      subst hwa
      obtain ⟨pp, rfl, hcp, hbp⟩ := hcut.out
      have HCP := Lib.hid hcp
      have HBP := Lib.hid hbp
      clear hcut hcp hbp
      go_upto_block 2 with fail
      go_cut [10] (fun v wc => Hid (More wa f2 m2 (revN f m) v wc))
      case first =>
        go_wp2
        go_loopw [10, 12] (fun v i wr => ∃ k : Nat, k ≤ m2 ∧ i = .int .i64 k ∧ Hid (More wa f2 k (revN f m) v wr)) (fun _ i _ => n2 - (intOf i).toNat)
        case atStart => exact ⟨0, by omega, rfl, pc, rfl, HC2.out.below HBP.out HBP.out.size, Below.refl _ _⟩
        case round =>
          obtain ⟨k, hk, rfl, hmore⟩ := hrel
          obtain ⟨p, rfl, hch, hbe⟩ := hmore.out
          have HCH := Lib.hid hch
          have HBE := Lib.hid hbe
          clear hmore hch hbe
          by_cases hlt : k < m2
          · have e10 : decide ((k : Int) < 10) = true := by simp; omega
            have hkn : k < n2 := by omega
            obtain ⟨g, o, rfl, hg, hcell⟩ := HL2.out k hkn
            have hck : wr.cell? ⟨g, o + k, none⟩ = some (.int .i64 (f2 k)) := (((HB2.out.trans (HBP.out.mono HB2.out.size)).trans (HBE.out.mono (Nat.le_trans HB2.out.size HBP.out.size))).cell (p := ⟨g, o + k, none⟩) hg).trans hcell
            clear hcell
            have HM : Hid (More wa f2 (k + 1) (revN f m) (.pointer (some ⟨wr.heap.size, 0, none⟩)) (wr.alloc (.cells #[.int .i64 (f2 k), .pointer p, .int .i64 (((revN f2 k).length : Int) + ((revN f m).length : Int) + 1)] 75))) :=
              ⟨_, rfl, by have := with_ch p _ (f2 k) _ wr HCH.out (Nat.le_refl _); simpa [revN] using this, HBE.out.alloc HBE.out.size _⟩
            go_wp2_with (go_at_call 24; refine (with_any p (revN f2 k ++ revN f m) (f2 k) _ _ HCH.out (by rw [List.length_append, revN_len, revN_len]; omega)).mono ?_; rintro e w' ⟨rfl, rfl⟩)
            go_roundw
            case rel => exact ⟨k + 1, by omega, by go_num, HM⟩
            case measure => simp [intOf]; omega
          · obtain rfl : k = m2 := by omega
            rcases (show (¬ k < n2) ∨ (k < n2 ∧ decide ((k : Int) < 10) = false) from by
              by_cases h : k < n2
              · exact .inr ⟨h, by have := M2.out; simp; omega⟩
              · exact .inl h) with h1 | ⟨h1, h2⟩
            all_goals
              go_wp2
              go_meet
              exact ⟨p, rfl, HCH.out, HBE.out⟩
      case rest =>
        obtain ⟨wb, hwb⟩ : ∃ wb : World, wb = wc := ⟨_, rfl⟩
        subst hwb
        obtain ⟨pq, rfl, hcq, hbq⟩ := hcut.out
        have HCQ := Lib.hid hcq
        have HCP2 := Lib.hid (HCP.out.below hbq hbq.size)
        have HCC2 := Lib.hid ((HC2.out.below HBP.out HBP.out.size).below hbq hbq.size)
        have hall := (HB2.out.trans (HBP.out.mono HB2.out.size)).trans (hbq.mono (Nat.le_trans HB2.out.size HBP.out.size))
        have HALL := Lib.hid hall
        have HX := Lib.hid (Lies.wide (Lies.less (HL.out.below hall) hmn) hall.size)
        have HX1 := Lib.hid (Lies.wide (Lies.less (HL1.out.below hall) hmn1) hall.size)
        have HX2 := Lib.hid (Lies.wide (Lies.less (HL2.out.below hall) hmn2) hall.size)
        clear hcut hcq hbq hall
        obtain ⟨i0, hi0, hz0, hz1, hz2⟩ := info_parts int_info3
        go_upto_region 14 with fail
        go_cut [13] (fun v wc => Hid (Want wb f f1 m m1 v wc))
        case first =>
          have hmin : (if (10 : Int) < (n1 : Int) then (10 : Int) else (n1 : Int)) = (m1 : Int) := by have := M1.out; split <;> omega
          have hmc : (m1 : Int) ≤ (c1 : Int) := by omega
          go_region_law (first
            | (refine step_append_lies _ rfl (.tmp 58) (.tmp 59) 22 rfl 3 i0 (.int .i64 0) 8 Try.underlying22 hi0 hz0 hz1 hz2 rfl _ 0 [] none rfl (seg_none _ _ _) wb.heap.size A m c (fun k => .int .i64 (f k)) rfl (HX.out.below (by go_grown)) (fun _ => rfl) (by unfold maxLen; omega) (by omega) ?_; intro v1 w1 ob1 hs1 ht1 ho1)
            | (refine step_append_lies _ rfl (.tmp 60) (.tmp 65) 22 rfl 3 i0 (.int .i64 0) 8 Try.underlying22 hi0 hz0 hz1 hz2 rfl _ _ _ _ rfl hs1 wb.heap.size A1 _ c1 (fun k => .int .i64 (f1 k)) rfl (HX1.out.below (below_turn (by go_grown) ht1)) (fun _ => rfl) (by unfold maxLen; omega) (by omega) ?_; intro v2 w2' ob2 hs2 ht2 ho2))
          all_goals
            go_wp2_with fail
            go_meet
            exact ⟨ob2, by simpa using hs2, below_two (by go_grown) (by simp) ht1 ho1 ht2⟩
        case rest =>
          obtain ⟨we, hwe⟩ : ∃ we : World, we = wc := ⟨_, rfl⟩
          subst hwe
          obtain ⟨oa, hsa, hba⟩ := hcut.out
          obtain ⟨Aa, ca, rfl, hla⟩ := lies_segN hsa
          have HXe := Lib.hid (Lies.wide (HX.out.below hba) hba.size)
          have HX2e := Lib.hid (Lies.wide (HX2.out.below hba) hba.size)
          have HCQe := Lib.hid (HCQ.out.below hba hba.size)
          have HCPe := Lib.hid (HCP2.out.below hba hba.size)
          have HCCe := Lib.hid (HCC2.out.below hba hba.size)
          have HALLe := Lib.hid (HALL.out.trans (hba.mono HALL.out.size))
          have HLA := Lib.hid hla
          clear hcut hsa hba hla
          go_upto_region 15 with fail
          go_cut [14] (fun v wc => Hid (Want we f f2 m m2 v wc))
          case first =>
            have hmin : (if (10 : Int) < (n2 : Int) then (10 : Int) else (n2 : Int)) = (m2 : Int) := by have := M2.out; split <;> omega
            have hmc : (m2 : Int) ≤ (c2 : Int) := by omega
            go_region_law (first
              | (refine step_append_lies _ rfl (.tmp 67) (.tmp 68) 22 rfl 3 i0 (.int .i64 0) 8 Try.underlying22 hi0 hz0 hz1 hz2 rfl _ 0 [] none rfl (seg_none _ _ _) we.heap.size A m c (fun k => .int .i64 (f k)) rfl (HXe.out.below (by go_grown)) (fun _ => rfl) (by unfold maxLen; omega) (by omega) ?_; intro v1 w1 ob1 hs1 ht1 ho1)
              | (refine step_append_lies _ rfl (.tmp 69) (.tmp 74) 22 rfl 3 i0 (.int .i64 0) 8 Try.underlying22 hi0 hz0 hz1 hz2 rfl _ _ _ _ rfl hs1 we.heap.size A2 _ c2 (fun k => .int .i64 (f2 k)) rfl (HX2e.out.below (below_turn (by go_grown) ht1)) (fun _ => rfl) (by unfold maxLen; omega) (by omega) ?_; intro v2 w2' ob2 hs2 ht2 ho2))
            all_goals
              go_wp2_with fail
              go_meet
              exact ⟨ob2, by simpa using hs2, below_two (by go_grown) (by simp) ht1 ho1 ht2⟩
          case rest =>
            obtain ⟨wg, hwg⟩ : ∃ wg : World, wg = wc := ⟨_, rfl⟩
            subst hwg
            obtain ⟨od, hsd, hbd⟩ := hcut.out
            obtain ⟨Ad, cd, rfl, hld⟩ := lies_segN hsd
            have K0 := Lib.hid (Lies.wide (HXe.out.below hbd) hbd.size)
            have KA := Lib.hid (Lies.wide (HLA.out.below hbd) hbd.size)
            have KD := Lib.hid hld
            have CQ := Lib.hid (HCQe.out.below hbd hbd.size)
            have CP := Lib.hid (HCPe.out.below hbd hbd.size)
            have CC := Lib.hid (HCCe.out.below hbd hbd.size)
            have BB := Lib.hid (HALLe.out.trans (hbd.mono HALLe.out.size))
            clear hcut hsd hbd hld
            go_wp2_with fail
            refine (awake_any _).mono ?_
            rintro e w3 ⟨rfl, hb3⟩
            have L0 := Lib.hid (Lies.below (Lies.wide K0.out (Nat.le_refl _)) hb3)
            have LA := Lib.hid (KA.out.below hb3)
            have LD := Lib.hid (KD.out.below hb3)
            have DQ := Lib.hid (CQ.out.below hb3 hb3.size)
            have DP := Lib.hid (CP.out.below hb3 hb3.size)
            have DC := Lib.hid (CC.out.below hb3 hb3.size)
            have B3 := Lib.hid (BB.out.trans (hb3.mono BB.out.size))
            have Z3 := Lib.hid hb3.size
            clear hb3
            go_wp2_with fail
            refine (list_is pc _ m f w3 DC.out (revN_rev f m) (by omega)).mono ?_
            rintro e w4 ⟨A4, c4, rfl, l4, b4⟩
            have L04 := Lib.hid (Lies.below (Lies.wide L0.out Z3.out) b4)
            have LA4 := Lib.hid (Lies.below (Lies.wide LA.out Z3.out) b4)
            have LD4 := Lib.hid (Lies.below (Lies.wide LD.out Z3.out) b4)
            have DQ4 := Lib.hid (DQ.out.below b4 b4.size)
            have DP4 := Lib.hid (DP.out.below b4 b4.size)
            have DC4 := Lib.hid (DC.out.below b4 b4.size)
            have B4 := Lib.hid (B3.out.trans (b4.mono B3.out.size))
            have Z4 := Lib.hid b4.size
            have L4 := Lib.hid l4
            clear b4 l4
            go_wp2_with fail
            refine (same_yes A4 A m c4 c _ _ f f w4 (by omega) L4.out L04.out (fun _ _ => rfl)).mono ?_
            rintro e w' ⟨rfl, d1, rfl⟩
            go_wp2_with fail
            refine (list_is pp _ (m + m1) (two f f1 m) (w4.drewN d1) (ch_drewN DP4.out d1) (revN_two f f1 m m1) (by omega)).mono ?_
            rintro e w5 ⟨A5, c5, rfl, l5, b5⟩
            have LA5 := Lib.hid (Lies.below (w := w4.drewN d1) (Lies.wide LA4.out Z4.out) b5)
            have LD5 := Lib.hid (Lies.below (w := w4.drewN d1) (Lies.wide LD4.out Z4.out) b5)
            have DQ5 := Lib.hid (Ch.below b5 b5.size (ch_drewN DQ4.out d1))
            have DP5 := Lib.hid (Ch.below b5 b5.size (ch_drewN DP4.out d1))
            have DC5 := Lib.hid (Ch.below b5 b5.size (ch_drewN DC4.out d1))
            have B5 := Lib.hid ((below_drewN B4.out d1).trans (b5.mono B4.out.size))
            have Z5 : Hid (w4.heap.size ≤ w5.heap.size) := b5.size
            have L5 := Lib.hid l5
            clear b5 l5
            go_wp2_with fail
            refine (same_yes A5 Aa (m + m1) c5 ca _ _ (two f f1 m) (two f f1 m) w5 (by omega) L5.out LA5.out (fun _ _ => rfl)).mono ?_
            rintro e w' ⟨rfl, d2, rfl⟩
            go_wp2_with fail
            refine (list_is pq _ (m + m2) (two f f2 m) (w5.drewN d2) (ch_drewN DQ5.out d2) (revN_two f f2 m m2) (by omega)).mono ?_
            rintro e w6 ⟨A6, c6, rfl, l6, b6⟩
            have LD6 := Lib.hid (Lies.below (w := w5.drewN d2) (Lies.wide LD5.out Z5.out) b6)
            have DP6 := Lib.hid (Ch.below b6 b6.size (ch_drewN DP5.out d2))
            have DC6 := Lib.hid (Ch.below b6 b6.size (ch_drewN DC5.out d2))
            have B6 := Lib.hid ((below_drewN B5.out d2).trans (b6.mono B5.out.size))
            have L6 := Lib.hid l6
            clear b6 l6
            go_wp2_with fail
            refine (same_yes A6 Ad (m + m2) c6 cd _ _ (two f f2 m) (two f f2 m) w6 (by omega) L6.out LD6.out (fun _ _ => rfl)).mono ?_
            rintro e w' ⟨rfl, d3, rfl⟩
            rcases Nat.eq_zero_or_pos m with hm0 | hm0
            · have hz : ((m : Int) == 0) = true := by rw [beq_iff_eq]; omega
              have hz2 : decide ((0 : Int) < (m : Int)) = false := by simp; omega
              have HM0 := Lib.hid hm0
              clear hm0
              go_wp2_with fail
              refine (len_is pp _ ((m : Int) + (m1 : Int)) _ (w6.drewN d3) (ch_drewN DP6.out d3) (by rw [List.length_append, revN_len, revN_len]; omega)).mono ?_
              rintro e w' ⟨rfl, rfl⟩
              go_wp2_with fail
              refine (len_is pc _ (m : Int) _ (w6.drewN d3) (ch_drewN DC6.out d3) (by rw [revN_len])).mono ?_
              rintro e w' ⟨rfl, rfl⟩
              go_wp2
              go_ret
              exact ⟨rfl, below_drewN B6.out d3⟩
            · have hz2 : decide ((0 : Int) < (m : Int)) = true := by simp; omega
              go_wp2_with fail
              refine (len_is pp _ ((m : Int) + (m1 : Int)) _ (w6.drewN d3) (ch_drewN DP6.out d3) (by rw [List.length_append, revN_len, revN_len]; omega)).mono ?_
              rintro e w' ⟨rfl, rfl⟩
              go_wp2_with fail
              refine (len_is pc _ (m : Int) _ (w6.drewN d3) (ch_drewN DC6.out d3) (by rw [revN_len])).mono ?_
              rintro e w' ⟨rfl, rfl⟩
              go_wp2
              go_ret
              exact ⟨rfl, below_drewN B6.out d3⟩
end Go.Proofs.Ytealihnopmhhaaa.Pers
