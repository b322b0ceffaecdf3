/- The kind of a variable's field: typing.field. -/
import Derived.Test.YtopbildpeojgoaaTyH
import Derived.Deep.RegionWith
import Derived.Deep.Cut
import Derived.Deep.DeepCutAuto
namespace Go.Proofs.Ytopbildpeojgoaa.Ty
open Go.RowKit Go.Proofs.Ytopbildpeojgoaa Go.Proofs.Ytopbildpeojgoaa.Sch
set_option linter.unusedVariables false
set_option maxRecDepth 100000
/-- The kind of a variable's field. -/
def fieldK (ts : List Ty) (bs : List Bd) (v f : ByteArray) : Int × Int :=
  match bs[(idx (bs.map Prod.fst) v).toNat]? with
  | none => (0, 3)
  | some b => if idx (bs.map Prod.fst) v < 0 then (0, 3) else match b.2 with
    | [] => (0, 10)
    | t :: r => ask (fieldS ts t f).2 (decide (0 ≤ (fieldS ts t f).1) && (t :: r).all (clF ts f (fieldS ts t f).2))
theorem fieldK_no {ts : List Ty} {bs : List Bd} {v f : ByteArray} (h : idx (bs.map Prod.fst) v < 0) : fieldK ts bs v f = (0, 3) := by
  unfold fieldK
  split
  · rfl
  · rw [if_pos h]
theorem fieldK_at {ts : List Ty} {bs : List Bd} {v f : ByteArray} {i : Nat} {b : Bd} (h : idx (bs.map Prod.fst) v = i) (hb : bs[i]? = some b) :
    fieldK ts bs v f = match b.2 with
    | [] => (0, 10)
    | t :: r => ask (fieldS ts t f).2 (decide (0 ≤ (fieldS ts t f).1) && (t :: r).all (clF ts f (fieldS ts t f).2)) := by
  unfold fieldK
  rw [h, Int.toNat_natCast, hb]
  dsimp only
  rw [if_neg (by omega)]
set_option maxHeartbeats 4000000 in
theorem field_any (p : Option Addr) (ts : List Ty) (sv : Value) (bs : List Bd) (v f : ByteArray) (w : World) (hs : Sc w w.heap.size p ts) (hb : Bs w w.heap.size sv bs) :
    Calls Try.prog 239 #[.pointer p, sv, .agg #[.int .i64 2, .int .i64 0, .int .i64 0, .string ⟨#[]⟩, .bool false, .string v, .string f]] w (KPost w (fieldK ts bs v f)) := by
  have HS := Lib.hid hs
  have HB := Lib.hid hb
  obtain ⟨A, c, rfl, hn, hcm, h3⟩ := hb
  obtain ⟨q, hq⟩ : ∃ q, idx (bs.map Prod.fst) v = q := ⟨_, rfl⟩
  obtain ⟨W0, hW0⟩ : ∃ W, W = (w.alloc (.cells #[.pointer p] 43)).alloc (.cells #[.int .i64 2, .int .i64 0, .int .i64 0, .string ⟨#[]⟩, .bool false, .string v, .string f] 86) := ⟨_, rfl⟩
  have hB0 : Below w.heap.size w W0 := by rw [hW0]; exact ((Below.refl _ w).alloc (Nat.le_refl _) _).alloc (by simp) _
  have hr3 : Row W0 w.heap.size 43 #[.pointer p] := by rw [hW0]; exact (Row.made _ _ _).alloc _
  have hr5 : Row W0 (w.heap.size + 1) 86 #[.int .i64 2, .int .i64 0, .int .i64 0, .string ⟨#[]⟩, .bool false, .string v, .string f] := by rw [hW0]; exact made_two _ _ _ _
  have HI := Lib.hid (indexBind_any (.slice A bs.length c) bs v (w.heap.size + 1) W0 (HB.out.below hB0 hB0.size) ((hr5.cell 5).trans rfl))
  rw [hq, hW0] at HI
  rw [hW0] at hB0 hr3 hr5
  have HB0 := Lib.hid hB0
  have HR3 := Lib.hid hr3
  have HR5 := Lib.hid hr5
  have HH3 := Lib.hid h3
  have HQ := Lib.hid hq
  clear hs h3 hq hB0 hr3 hr5 hW0
  go_enter Try.func239, Try.ntmps239
  go_wp2_with fail
  refine HI.out.mono ?_
  rintro e w1 ⟨rfl, hb1⟩
  have HB1 := Lib.hid (HB0.out.trans (hb1.mono HB0.out.size))
  have HR31 := Lib.hid (HR3.out.below hb1 HR3.out.lt)
  have HR51 := Lib.hid (HR5.out.below hb1 HR5.out.lt)
  clear hb1 HI HR3 HR5 HB0
  by_cases hq0 : q < 0
  · have hd : decide (q < 0) = true := decide_eq_true hq0
    have HK := Lib.hid (fieldK_no (ts := ts) (f := f) (by rw [HQ.out]; exact hq0))
    go_wp2
    go_ret2
    exact kpost_mk HK.out.symm HB1.out
  · obtain ⟨i, rfl⟩ : ∃ i : Nat, q = i := ⟨q.toNat, by omega⟩
    have hil : i < bs.length := by have := (idx_lt (l := bs.map Prod.fst) (nm := v)).1; rw [HQ.out, List.length_map] at this; omega
    have hd : decide ((i : Int) < 0) = false := decide_eq_false hq0
    obtain ⟨g, o, tv, rfl, hg, c0, c1, hsl⟩ := HH3.out i hil
    have HK := Lib.hid (fieldK_at (ts := ts) (f := f) HQ.out (List.getElem?_eq_getElem hil))
    obtain ⟨L, hL⟩ : ∃ L, bs[i].2 = L := ⟨_, rfl⟩
    rw [hL] at hsl HK
    have HSL := Lib.hid hsl
    obtain ⟨tA, tc, rfl, ht1, ht2, hx⟩ := hsl
    have d1 := (HB1.out.cell (p := ⟨g, o + i * 2 + 1, none⟩) hg).trans c1
    have hil2 : (i : Int) < (bs.length : Int) := by omega
    have hi63 : i ≤ 9223372036854775807 := by omega
    clear hL c0 c1
    cases L with
    | nil =>
      clear hx
      dsimp only at HK
      go_wp2
      go_ret2
      exact kpost_mk HK.out.symm HB1.out
    | cons t r =>
      obtain ⟨g2, o2, rfl, hg2, e0⟩ := hx 0 (by simp)
      simp only [Nat.add_zero, List.getElem_cons_zero] at e0
      dsimp only at HK
      have e1 := (HB1.out.cell (p := ⟨g2, o2, none⟩) hg2).trans e0
      have e3 : w1.cell? ⟨w.heap.size, 0, none⟩ = some (.pointer p) := (HR31.out.cell 0).trans rfl
      have e5 : w1.cell? ⟨w.heap.size + 1, 6, none⟩ = some (.string f) := (HR51.out.cell 6).trans rfl
      have hl1 : 0 < (t :: r).length := by simp
      obtain ⟨n, hn2⟩ : ∃ n, (t :: r).length = n := ⟨_, rfl⟩
      rw [hn2] at d1 ht1 hl1
      have HN2 := Lib.hid hn2
      have HSLn := Lib.hid (show SL w w.heap.size (.slice (some ⟨g2, o2, none⟩) n tc) (t :: r) by rw [← HN2.out]; exact HSL.out)
      obtain ⟨px, hpx⟩ : ∃ x, (fieldS ts t f).1 = x := ⟨_, rfl⟩
      obtain ⟨kx, hkx⟩ : ∃ x, (fieldS ts t f).2 = x := ⟨_, rfl⟩
      rw [hpx, hkx] at HK
      have HPX := Lib.hid hpx
      have HKX := Lib.hid hkx
      clear hx e0 hn2 hpx hkx
      have hgw1 : w.heap.size < w1.heap.size := HR31.out.lt
      have hgw2 : w.heap.size + 1 < w1.heap.size := HR51.out.lt
      have hg2w : g2 < w1.heap.size := Nat.lt_of_lt_of_le hg2 HB1.out.size
      go_upto_region 7 with fail
      go_cut [10, 11] (fun s10 s11 wx => ∃ b11 : Nat, s10 = .int .i64 px ∧ s11 = .pointer (some ⟨b11, 0, none⟩) ∧ Hid (Cl wx w.heap.size (w.heap.size + 1) b11 p ts f kx ∧ Below w.heap.size w wx))
      case first =>
        go_region_held3 (fun X => X.cell? ⟨w.heap.size, 0, none⟩ = some (.pointer p) ∧ X.cell? ⟨g2, o2, none⟩ = some (.string t) ∧ X.cell? ⟨w.heap.size + 1, 6, none⟩ = some (.string f))
          (first | exact ⟨e3, e1, e5⟩ | exact ⟨(HB2.out.cell (p := ⟨w.heap.size, 0, none⟩) hgw1).trans e3, (HB2.out.cell (p := ⟨g2, o2, none⟩) hg2w).trans e1, (HB2.out.cell (p := ⟨w.heap.size + 1, 6, none⟩) hgw2).trans e5⟩ | exact ⟨((HB2.out.alloc HB2.out.size _).cell (p := ⟨w.heap.size, 0, none⟩) hgw1).trans e3, ((HB2.out.alloc HB2.out.size _).cell (p := ⟨g2, o2, none⟩) hg2w).trans e1, ((HB2.out.alloc HB2.out.size _).cell (p := ⟨w.heap.size + 1, 6, none⟩) hgw2).trans e5⟩ | exact ⟨((HB2.out.setCell (p := ⟨w1.heap.size, 0, none⟩) (Nat.le_refl _) _).cell (p := ⟨w.heap.size, 0, none⟩) hgw1).trans e3, ((HB2.out.setCell (p := ⟨w1.heap.size, 0, none⟩) (Nat.le_refl _) _).cell (p := ⟨g2, o2, none⟩) hg2w).trans e1, ((HB2.out.setCell (p := ⟨w1.heap.size, 0, none⟩) (Nat.le_refl _) _).cell (p := ⟨w.heap.size + 1, 6, none⟩) hgw2).trans e5⟩ | go_keep | fail)
          ((
            go_at_call 216
            refine (fieldS_any p ts t f _ ((fun hX => HS.out.below hX hX.size) (HB1.out.trans ((show Below w1.heap.size w1 _ from by go_grown).mono HB1.out.size)))).mono ?_
            rintro e w2 ⟨rfl, hb2⟩
            rw [HPX.out, HKX.out]
            have hk := fun h => hb2.cell (p := ⟨w1.heap.size, 0, none⟩) h
            have hz := fun h => hb2.frozen (p := ⟨w1.heap.size, 0, none⟩) h
            have HB2 : Hid (Below w1.heap.size w1 w2) := Lib.hid ((show Below w1.heap.size w1 _ from by go_grown).trans (hb2.mono (show Below w1.heap.size w1 _ from by go_grown).size))
            clear hb2))
        all_goals
          go_wp2_with fail
          go_meet
          first
            | (
                refine ⟨w2.heap.size, rfl, rfl, Lib.hid ⟨⟨((HB2.out.alloc HB2.out.size _).cell (p := ⟨w.heap.size, 0, none⟩) hgw1).trans e3, ((HB2.out.alloc HB2.out.size _).cell (p := ⟨w.heap.size + 1, 6, none⟩) hgw2).trans e5, by simp, ?_⟩, HB1.out.trans ((HB2.out.alloc HB2.out.size _).mono HB1.out.size)⟩⟩
                exact (fun hX => HS.out.below hX hX.size) (HB1.out.trans ((HB2.out.alloc HB2.out.size _).mono HB1.out.size)))
            | (
                refine ⟨w1.heap.size, rfl, rfl, Lib.hid ⟨⟨((HB2.out.setCell (p := ⟨w1.heap.size, 0, none⟩) (Nat.le_refl _) _).cell (p := ⟨w.heap.size, 0, none⟩) hgw1).trans e3, ((HB2.out.setCell (p := ⟨w1.heap.size, 0, none⟩) (Nat.le_refl _) _).cell (p := ⟨w.heap.size + 1, 6, none⟩) hgw2).trans e5, World.cell?_setCell_same' _ _ _ (by rw [hk (by simp)]; simp), ?_⟩, HB1.out.trans ((HB2.out.setCell (p := ⟨w1.heap.size, 0, none⟩) (Nat.le_refl _) _).mono HB1.out.size)⟩⟩
                exact (fun hX => HS.out.below hX hX.size) (HB1.out.trans ((HB2.out.setCell (p := ⟨w1.heap.size, 0, none⟩) (Nat.le_refl _) _).mono HB1.out.size)))
      case rest =>
        clear e1 e3 e5 d1
        obtain ⟨b11, rfl, rfl, hcb⟩ := hcut
        have HCL := Lib.hid hcb.out.1
        have HBW := Lib.hid hcb.out.2
        have e11 : wc.cell? ⟨b11, 0, none⟩ = some (.int .i64 kx) := hcb.out.1.c11
        clear hcb
        obtain ⟨ra, hra⟩ : ∃ ra, (t :: r).all (clF ts f kx) = ra := ⟨_, rfl⟩
        have HRA := Lib.hid hra
        rw [hra] at HK
        clear hra
        by_cases hp0 : 0 ≤ px
        · have hpd : decide (0 ≤ px) = true := decide_eq_true hp0
          rw [hpd, Bool.true_and] at HK
          go_upto_region 8 with fail
          go_region_held3 (fun X => X.cell? ⟨b11, 0, none⟩ = some (.int .i64 kx))
            (first | exact e11 | exact (HB3.out.cell (p := ⟨b11, 0, none⟩) (World.block_lt_of_cell? wc ⟨b11, 0, none⟩ e11)).trans e11 | go_keep | fail)
            ((first
              | (
                  go_at_call 249
                  refine (all_s _ (t :: r) _ (HSLn.out.below (HBW.out.trans ((show Below wc.heap.size wc _ from by go_grown).mono HBW.out.size)) (Nat.le_trans HBW.out.size (show Below wc.heap.size wc _ from by go_grown).size)) (HCL.out.call (by go_grown)) ra HRA.out).mono ?_
                  rintro e w3 ⟨rfl, hb3⟩
                  have HB3 : Hid (Below wc.heap.size wc w3) := Lib.hid ((show Below wc.heap.size wc _ from by go_grown).trans (hb3.mono (show Below wc.heap.size wc _ from by go_grown).size))
                  clear hb3)
              | (
                  go_at_call 240
                  refine (asked_any kx ra _).mono ?_
                  rintro e w4 ⟨rfl, rfl⟩)))
          all_goals
            go_wp2
            go_ret2
            exact kpost_mk HK.out.symm (HBW.out.trans (HB3.out.mono HBW.out.size))
        · have hpd : decide (0 ≤ px) = false := decide_eq_false hp0
          rw [hpd, Bool.false_and] at HK
          go_upto_region 8 with fail
          go_quiet ((go_at_call 240; exact Calls.quiet_of_same (flip2 (asked_any kx false _))))
          go_wp2
          go_ret2
          exact kpost_mk HK.out.symm (below_dN HBW.out _)
end Go.Proofs.Ytopbildpeojgoaa.Ty
