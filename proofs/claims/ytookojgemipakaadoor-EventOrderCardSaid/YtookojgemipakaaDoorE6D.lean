/- Events sorted by swapping: insertionSortCmpFunc. -/
import Derived.Test.YtookojgemipakaaDoorE6C
import Derived.Deep.CutBlock
import Derived.BigQuiet
namespace Go.Proofs.YtookojgemipakaaDoor.E6
open Go.RowKit Go.Proofs.YtookojgemipakaaDoor Go.Proofs.YtookojgemipakaaDoor.Ev Go.Proofs.YtookojgemipakaaDoor.Evl Go.Proofs.YtookojgemipakaaDoor.E4
set_option linter.unusedVariables false
set_option maxRecDepth 100000
theorem putAt_hi {x y : Rc} {M R : List Rc} {j : Nat} (h : M[j]? = some y) : putAt x M (j + 1) ++ R = M.take j ++ y :: x :: (M.drop (j + 1) ++ R) := by
  obtain ⟨hj, hy⟩ := List.getElem?_eq_some_iff.1 h
  unfold putAt
  rw [List.take_succ_eq_append_getElem hj, hy]
  simp
theorem putAt_lo {x y : Rc} {M R : List Rc} {j : Nat} (h : M[j]? = some y) : putAt x M j ++ R = M.take j ++ x :: y :: (M.drop (j + 1) ++ R) := by
  obtain ⟨hj, hy⟩ := List.getElem?_eq_some_iff.1 h
  unfold putAt
  rw [List.drop_eq_getElem_cons hj, hy]
  simp
theorem set_two {P T : List Rc} {x y : Rc} {j : Nat} (hj : P.length = j) : ((P ++ y :: x :: T).set (j + 1) y).set j x = P ++ x :: y :: T ∧ ((P ++ y :: x :: T).set j x).set (j + 1) y = P ++ x :: y :: T := by
  subst hj
  constructor
  · rw [List.set_append_right _ _ (by omega), List.set_append_right _ _ (by omega)]
    simp [show P.length + 1 - P.length = 1 by omega]
  · rw [List.set_append_right _ _ (by omega), List.set_append_right _ _ (by omega)]
    simp [show P.length + 1 - P.length = 1 by omega]
/-- Two events that stand one behind the other, swapped. -/
theorem DL.swap {w : World} {g o : Nat} {M R : List Rc} {x y : Rc} {j : Nat} (h : DL w g o (putAt x M (j + 1) ++ R)) (hy : M[j]? = some y) :
    DL (set5 (set5 w g (o + (j + 1) * 5) (.string y.ty) (.string y.key) (.int .i64 y.t) (.int .i64 y.q) (.slice y.A y.n y.c)) g (o + j * 5) (.string x.ty) (.string x.key) (.int .i64 x.t) (.int .i64 x.q) (.slice x.A x.n x.c)) g o (putAt x M j ++ R) ∧
    DL (set5 (set5 w g (o + j * 5) (.string x.ty) (.string x.key) (.int .i64 x.t) (.int .i64 x.q) (.slice x.A x.n x.c)) g (o + (j + 1) * 5) (.string y.ty) (.string y.key) (.int .i64 y.t) (.int .i64 y.q) (.slice y.A y.n y.c)) g o (putAt x M j ++ R) := by
  obtain ⟨hj, _⟩ := List.getElem?_eq_some_iff.1 hy
  have hl : (M.take j).length = j := by rw [List.length_take]; omega
  rw [putAt_hi hy] at h
  rw [putAt_lo hy]
  have hlen : j + 1 < (M.take j ++ y :: x :: (M.drop (j + 1) ++ R)).length := by simp; omega
  obtain ⟨s1, s2⟩ := set_two (x := x) (y := y) (T := M.drop (j + 1) ++ R) hl
  constructor
  · have := (h.store hlen y).store (k := j) (by rw [List.length_set]; omega) x
    rw [s1] at this
    exact this
  · have := (h.store (k := j) (by omega) x).store (k := j + 1) (by rw [List.length_set]; exact hlen) y
    rw [s2] at this
    exact this
theorem DL.drew {w : World} {g o : Nat} {L : List Rc} (h : DL w g o L) : DL w.drew g o L := ⟨h.ce, h.fz⟩
theorem DL.call {w w' : World} {g o : Nat} {L : List Rc} (h : DL w g o L) (hb : Below w.heap.size w w') (hg : g < w.heap.size) : DL w' g o L :=
  ⟨fun k hk j u hu => (hb.cell (p := ⟨g, _, none⟩) hg).trans (h.ce k hk j u hu), fun j => (hb.frozen (p := ⟨g, j, none⟩) hg).trans (h.fz j)⟩
theorem tu5 {w X : World} {S : Nat → Prop} {g p : Nat} (h : Turns w X S) (hs : S g) (u0 u1 u2 u3 u4 : Value) : Turns w (set5 X g p u0 u1 u2 u3 u4) S :=
  ((((h.put g _ u0 (fun _ => hs)).put g _ u1 (fun _ => hs)).put g _ u2 (fun _ => hs)).put g _ u3 (fun _ => hs)).put g _ u4 (fun _ => hs)
theorem tu_drew {w X : World} {S : Nat → Prop} (h : Turns w X S) : Turns w X.drew S := h.drewN 1
theorem get_hi {x y : Rc} {M R : List Rc} {j : Nat} (h : M[j]? = some y) : (putAt x M (j + 1) ++ R)[j]? = some y ∧ (putAt x M (j + 1) ++ R)[j + 1]? = some x := by
  obtain ⟨hj, _⟩ := List.getElem?_eq_some_iff.1 h
  have hl : (M.take j).length = j := by rw [List.length_take]; omega
  rw [putAt_hi h]
  constructor
  · rw [List.getElem?_append_right (by omega), hl]; simp
  · rw [List.getElem?_append_right (by omega), hl]; simp [show j + 1 - j = 1 by omega]
theorem DL.at {w : World} {g o : Nat} {L : List Rc} (h : DL w g o L) {k : Nat} {r : Rc} (hr : L[k]? = some r) : w.cell? ⟨g, o + k * 5, none⟩ = some (.string r.ty) ∧ w.cell? ⟨g, o + k * 5 + 1, none⟩ = some (.string r.key) ∧ w.cell? ⟨g, o + k * 5 + 2, none⟩ = some (.int .i64 r.t) ∧ w.cell? ⟨g, o + k * 5 + 3, none⟩ = some (.int .i64 r.q) ∧ w.cell? ⟨g, o + k * 5 + 4, none⟩ = some (.slice r.A r.n r.c) := by
  obtain ⟨hk, e⟩ := List.getElem?_eq_some_iff.1 hr
  exact h.five hk e
theorem isort_step {L : List Rc} {i j : Nat} {x : Rc} (hi : L[i]? = some x) (hm : insAt x (isort (L.take i)) i = j) : putAt x (isort (L.take i)) j ++ L.drop (i + 1) = isort (L.take (i + 1)) ++ L.drop (i + 1) := by
  obtain ⟨h, rfl⟩ := List.getElem?_eq_some_iff.1 hi
  rw [isort_take h]
  unfold insR
  rw [isort_len, List.length_take, Nat.min_eq_left (by omega), hm]
theorem isort_start {L : List Rc} {i : Nat} {x : Rc} (hi : L[i]? = some x) : isort (L.take i) ++ L.drop i = putAt x (isort (L.take i)) i ++ L.drop (i + 1) := by
  obtain ⟨h, rfl⟩ := List.getElem?_eq_some_iff.1 hi
  unfold putAt
  have hl : (isort (L.take i)).length = i := by rw [isort_len, List.length_take]; omega
  generalize isort (L.take i) = M at hl
  have e1 : M.take i = M := List.take_of_length_le (by omega)
  have e2 : M.drop i = [] := List.drop_of_length_le (by omega)
  rw [e1, e2, List.drop_eq_getElem_cons h]
  simp
set_option maxHeartbeats 4000000 in
theorem ins_all (g o n cap : Nat) (L : List Rc) (w : World) (h : DL w g o L) (hg : g < w.heap.size) (hn : L.length = n) (hcap : n ≤ cap) (hn9 : n ≤ 1000) (hc9 : cap ≤ 9223372036854775807) :
    Calls Tryd.prog 87 #[.slice (some ⟨g, o, none⟩) n cap, .int .i64 0, .int .i64 n, .func (.func 38) #[] #[]] w fun e w' => e = .returned (.tuple #[]) ∧ Turns w w' (fun k => k = g) ∧ DL w' g o (isort L) := by
  have HN := Lib.hid hn
  have HG := Lib.hid hg
  have H0 := Lib.hid (show DL w g o (isort (L.take 1) ++ L.drop 1) from by
    rcases Nat.eq_zero_or_pos L.length with e | e
    · obtain rfl := List.length_eq_zero_iff.1 e
      exact h
    · rw [isort_one L e, List.take_append_drop]; exact h)
  clear h hn hg
  go_enter Tryd.func87, Tryd.ntmps87
  go_wp2
  go_loopw [8, 9] (fun v8 v9 wr => ∃ i : Nat, 1 ≤ i ∧ i ≤ n + 1 ∧ v8 = .int .i64 i ∧ Hid (Turns w wr (fun k => k = g)) ∧ Hid (DL wr g o (isort (L.take i) ++ L.drop i))) (fun v8 _ _ => n + 1 - (intOf v8).toNat)
  case atStart => exact ⟨1, by omega, by omega, rfl, Turns.refl _ _, H0⟩
  case round =>
    clear H0
    obtain ⟨i, hi1, hi2, rfl, hT, hD⟩ := hrel
    by_cases hlt : i < n
    · have hiz : (i : Int) < (n : Int) := by omega
      have hil : i < L.length := by rw [HN.out]; exact hlt
      obtain ⟨x, hx⟩ : ∃ x, L[i]? = some x := ⟨L[i], List.getElem?_eq_getElem hil⟩
      have HX := Lib.hid hx
      have hML : (isort (L.take i)).length = i := by rw [isort_len, List.length_take]; omega
      have hD0 := hD.out
      rw [isort_start hx] at hD0
      have HD0 := Lib.hid hD0
      obtain ⟨M, hM⟩ : ∃ M, isort (L.take i) = M := ⟨_, rfl⟩
      obtain ⟨R, hR⟩ : ∃ R, L.drop (i + 1) = R := ⟨_, rfl⟩
      have HMM := Lib.hid hM
      have HRR := Lib.hid hR
      rw [hM, hR] at HD0
      rw [hM] at hML
      have HML := Lib.hid hML
      have HT := Lib.hid hT.out
      clear hx hD0 hM hR hML hD hT hil
      go_wp2
      go_loopw [9] (fun v9 wx => ∃ j : Nat, j ≤ i ∧ v9 = .int .i64 j ∧ Hid (Turns w wx (fun k => k = g)) ∧ Hid (DL wx g o (putAt x M j ++ R)) ∧ Hid (insAt x M i = insAt x M j)) (fun v9 _ => (intOf v9).toNat)
      case atStart => exact ⟨i, Nat.le_refl _, rfl, HT, HD0, Lib.hid rfl⟩
      case round =>
        clear HD0 HT
        obtain ⟨J, hJ, rfl, hT, hD, hI⟩ := hrel
        rcases Nat.eq_zero_or_pos J with rfl | hJ0
        · have hz0 : decide ((0 : Int) < ((0 : Nat) : Int)) = false := by decide
          have HSTEP := Lib.hid (isort_step HX.out (show insAt x (isort (L.take i)) i = 0 from by rw [HMM.out]; exact hI.out))
          go_upto_region 4 with fail
          go_quiet (fail)
          go_wp2
          go_roundw
          case rel => exact ⟨i + 1, by omega, by omega, by go_num, hT.out.drewN nq, Lib.hid (by
            have h1 : DL (wr.drewN nq) g o (putAt x M 0 ++ R) := ⟨hD.out.ce, hD.out.fz⟩
            have h2 := HSTEP.out
            rw [HMM.out, HRR.out] at h2
            rw [h2] at h1
            rw [HRR.out]
            exact h1)⟩
          case measure => simp [intOf]; omega
        · obtain ⟨j, hJj⟩ : ∃ j, J = j + 1 := ⟨J - 1, by omega⟩
          rw [hJj] at hD hI
          have hjM : j < M.length := by rw [HML.out]; omega
          obtain ⟨y, hy⟩ : ∃ y, M[j]? = some y := ⟨M[j], List.getElem?_eq_getElem hjM⟩
          obtain ⟨hg1, hg2⟩ := get_hi (x := x) (R := R) hy
          obtain ⟨y0, y1, y2, y3, y4⟩ := hD.out.at hg1
          obtain ⟨x0, x1, x2, x3, x4⟩ := hD.out.at hg2
          rw [← hJj] at x0 x1 x2 x3 x4
          have HJJ := Lib.hid hJj
          have HY := Lib.hid hy
          have hgw : g < wr.heap.size := World.block_lt_of_cell? wr _ y0
          have HGW := Lib.hid hgw
          have hwr : IntKind.i64.wrap ((J : Int) - 1) = (j : Int) := by rw [IntKind.wrap_i64]; omega
          have hgt : decide ((0 : Int) < (J : Int)) = true := decide_eq_true (by omega)
          have hgt2 : decide (0 < J) = true := decide_eq_true hJ0
          have hJn : (J : Int) < (n : Int) := by omega
          have hj0 : (0 : Int) ≤ (j : Int) := by omega
          have hj3 : (j : Int) < (n : Int) := by omega
          obtain ⟨z, hz⟩ : ∃ z, cmpE x.t x.q y.t y.q = z := ⟨_, rfl⟩
          have HCM := Lib.hid (fun X => compare_any x.ty x.key y.ty y.key x.t x.q y.t y.q x.A y.A x.n y.n x.c y.c X)
          have hzb := cmpE_neg x.t x.q y.t y.q
          rw [hz] at HCM hzb
          have HZB := Lib.hid (show decide (z < 0) = x.bef y from hzb)
          have HD := Lib.hid hD.out
          have HT := Lib.hid hT.out
          have HI := Lib.hid hI.out
          clear hy hg1 hg2 hjM hz hzb hD hT hI hgw hJj
          obtain ⟨xty, xkey, xt, xq, xA, xn, xc⟩ := x
          obtain ⟨yty, ykey, yt, yq, yA, yn, yc⟩ := y
          dsimp only at x0 x1 x2 x3 x4 y0 y1 y2 y3 y4 HCM
          have hS : ∀ X, Below wr.heap.size wr X → X.cell? ⟨g, o + j * 5, none⟩ = some (.string yty) ∧ X.cell? ⟨g, o + j * 5 + 1, none⟩ = some (.string ykey) ∧ X.cell? ⟨g, o + j * 5 + 2, none⟩ = some (.int .i64 yt) ∧ X.cell? ⟨g, o + j * 5 + 3, none⟩ = some (.int .i64 yq) ∧ X.cell? ⟨g, o + j * 5 + 4, none⟩ = some (.slice yA yn yc) ∧ X.cell? ⟨g, o + J * 5, none⟩ = some (.string xty) ∧ X.cell? ⟨g, o + J * 5 + 1, none⟩ = some (.string xkey) ∧ X.cell? ⟨g, o + J * 5 + 2, none⟩ = some (.int .i64 xt) ∧ X.cell? ⟨g, o + J * 5 + 3, none⟩ = some (.int .i64 xq) ∧ X.cell? ⟨g, o + J * 5 + 4, none⟩ = some (.slice xA xn xc) := fun X h => by
            obtain ⟨a0, a1, a2, a3, a4⟩ := (HD.out.call h HGW.out).at (get_hi HY.out).1
            obtain ⟨b0, b1, b2, b3, b4⟩ := (HD.out.call h HGW.out).at (get_hi (x := ⟨xty, xkey, xt, xq, xA, xn, xc⟩) (R := R) HY.out).2
            rw [← HJJ.out] at b0 b1 b2 b3 b4
            exact ⟨a0, a1, a2, a3, a4, b0, b1, b2, b3, b4⟩
          have HS := Lib.hid hS
          have HB : Hid (Below wr.heap.size wr wr.drew) := (Below.refl _ wr).drew
          clear hS
          obtain ⟨b, hb⟩ : ∃ b, Rc.bef ⟨xty, xkey, xt, xq, xA, xn, xc⟩ ⟨yty, ykey, yt, yq, yA, yn, yc⟩ = b := ⟨_, rfl⟩
          have hzb : decide (z < 0) = b := by rw [← hb]; exact HZB.out
          have HBF := Lib.hid hb
          clear hb
          go_upto_region 4 with fail
          cases b with
          | false =>
            go_region_held3 (fun X => X.cell? ⟨g, o + j * 5, none⟩ = some (.string yty) ∧ X.cell? ⟨g, o + j * 5 + 1, none⟩ = some (.string ykey) ∧ X.cell? ⟨g, o + j * 5 + 2, none⟩ = some (.int .i64 yt) ∧ X.cell? ⟨g, o + j * 5 + 3, none⟩ = some (.int .i64 yq) ∧ X.cell? ⟨g, o + j * 5 + 4, none⟩ = some (.slice yA yn yc) ∧ X.cell? ⟨g, o + J * 5, none⟩ = some (.string xty) ∧ X.cell? ⟨g, o + J * 5 + 1, none⟩ = some (.string xkey) ∧ X.cell? ⟨g, o + J * 5 + 2, none⟩ = some (.int .i64 xt) ∧ X.cell? ⟨g, o + J * 5 + 3, none⟩ = some (.int .i64 xq) ∧ X.cell? ⟨g, o + J * 5 + 4, none⟩ = some (.slice xA xn xc))
              (first
                | with_reducible exact ⟨y0, y1, y2, y3, y4, x0, x1, x2, x3, x4⟩
                | with_reducible exact HS.out _ HB.out
                | fail)
              ((first
                | (go_at_call 38
                   (with_reducible refine (HCM.out _).mono ?_)
                   rintro e w3 ⟨rfl, hb⟩
                   have h3 := HB.out.trans (hb.mono HB.out.size)
                   have HB := Lib.hid h3
                   clear hb h3)
                | fail))
            have HT3 := Lib.hid (HT.out.trans (Turns.of_below HB.out) (fun _ _ e => e.elim))
            have HD3 := Lib.hid (HD.out.call HB.out HGW.out)
            have HSTEP := Lib.hid (isort_step HX.out (show insAt _ (isort (L.take i)) i = j + 1 from by rw [HMM.out, HI.out, insAt_no HY.out HBF.out]))
            go_wp2
            go_roundw
            case rel => exact ⟨i + 1, by omega, by omega, by go_num, HT3.out, Lib.hid (by
              have h1 := HD3.out
              have h2 := HSTEP.out
              rw [HMM.out, HRR.out] at h2
              rw [h2] at h1
              rw [HRR.out]
              exact h1)⟩
            case measure => simp [intOf]; omega
          | true =>
            go_region_held3 (fun X => X.cell? ⟨g, o + j * 5, none⟩ = some (.string yty) ∧ X.cell? ⟨g, o + j * 5 + 1, none⟩ = some (.string ykey) ∧ X.cell? ⟨g, o + j * 5 + 2, none⟩ = some (.int .i64 yt) ∧ X.cell? ⟨g, o + j * 5 + 3, none⟩ = some (.int .i64 yq) ∧ X.cell? ⟨g, o + j * 5 + 4, none⟩ = some (.slice yA yn yc) ∧ X.cell? ⟨g, o + J * 5, none⟩ = some (.string xty) ∧ X.cell? ⟨g, o + J * 5 + 1, none⟩ = some (.string xkey) ∧ X.cell? ⟨g, o + J * 5 + 2, none⟩ = some (.int .i64 xt) ∧ X.cell? ⟨g, o + J * 5 + 3, none⟩ = some (.int .i64 xq) ∧ X.cell? ⟨g, o + J * 5 + 4, none⟩ = some (.slice xA xn xc))
              (first
                | with_reducible exact ⟨y0, y1, y2, y3, y4, x0, x1, x2, x3, x4⟩
                | with_reducible exact HS.out _ HB.out
                | fail)
              ((first
                | (go_at_call 38
                   (with_reducible refine (HCM.out _).mono ?_)
                   rintro e w3 ⟨rfl, hb⟩
                   have h3 := HB.out.trans (hb.mono HB.out.size)
                   have HB := Lib.hid h3
                   clear hb h3)
                | fail))
            have HT3 := Lib.hid (HT.out.trans (Turns.of_below HB.out) (fun _ _ e => e.elim))
            have HD3 := Lib.hid (HD.out.call HB.out HGW.out)
            have HI3 := Lib.hid (HI.out.trans (insAt_yes HY.out HBF.out))
            obtain ⟨p, hp⟩ : ∃ p, o + j * 5 = p := ⟨_, rfl⟩
            have hP : o + J * 5 = p + 5 := by have := HJJ.out; rw [← hp, this]; omega
            have hP1 : o + (j + 1) * 5 = p + 5 := by rw [← hp]; omega
            obtain ⟨s1, s2⟩ := DL.swap (x := ⟨xty, xkey, xt, xq, xA, xn, xc⟩) HD3.out HY.out
            unfold set5 at s1 s2
            rw [hP1, hp] at s1 s2
            dsimp only at s1 s2
            have HS1 := Lib.hid (show DL ((((((((((w3.setCell ⟨g, p + 5, none⟩ (.string yty)).setCell ⟨g, p + 6, none⟩ (.string ykey)).setCell ⟨g, p + 7, none⟩ (.int .i64 yt)).setCell ⟨g, p + 8, none⟩ (.int .i64 yq)).setCell ⟨g, p + 9, none⟩ (.slice yA yn yc)).setCell ⟨g, p, none⟩ (.string xty)).setCell ⟨g, p + 1, none⟩ (.string xkey)).setCell ⟨g, p + 2, none⟩ (.int .i64 xt)).setCell ⟨g, p + 3, none⟩ (.int .i64 xq)).setCell ⟨g, p + 4, none⟩ (.slice xA xn xc)).drew g o (putAt ⟨xty, xkey, xt, xq, xA, xn, xc⟩ M j ++ R) from s1.drew)
            have HS2 := Lib.hid (show DL ((((((((((w3.setCell ⟨g, p, none⟩ (.string xty)).setCell ⟨g, p + 1, none⟩ (.string xkey)).setCell ⟨g, p + 2, none⟩ (.int .i64 xt)).setCell ⟨g, p + 3, none⟩ (.int .i64 xq)).setCell ⟨g, p + 4, none⟩ (.slice xA xn xc)).setCell ⟨g, p + 5, none⟩ (.string yty)).setCell ⟨g, p + 6, none⟩ (.string ykey)).setCell ⟨g, p + 7, none⟩ (.int .i64 yt)).setCell ⟨g, p + 8, none⟩ (.int .i64 yq)).setCell ⟨g, p + 9, none⟩ (.slice yA yn yc)).drew g o (putAt ⟨xty, xkey, xt, xq, xA, xn, xc⟩ M j ++ R) from s2.drew)
            have HU1 := Lib.hid (show Turns w ((((((((((w3.setCell ⟨g, p + 5, none⟩ (.string yty)).setCell ⟨g, p + 6, none⟩ (.string ykey)).setCell ⟨g, p + 7, none⟩ (.int .i64 yt)).setCell ⟨g, p + 8, none⟩ (.int .i64 yq)).setCell ⟨g, p + 9, none⟩ (.slice yA yn yc)).setCell ⟨g, p, none⟩ (.string xty)).setCell ⟨g, p + 1, none⟩ (.string xkey)).setCell ⟨g, p + 2, none⟩ (.int .i64 xt)).setCell ⟨g, p + 3, none⟩ (.int .i64 xq)).setCell ⟨g, p + 4, none⟩ (.slice xA xn xc)).drew (fun k => k = g) from tu_drew (tu5 (tu5 HT3.out rfl _ _ _ _ _) rfl _ _ _ _ _))
            have HU2 := Lib.hid (show Turns w ((((((((((w3.setCell ⟨g, p, none⟩ (.string xty)).setCell ⟨g, p + 1, none⟩ (.string xkey)).setCell ⟨g, p + 2, none⟩ (.int .i64 xt)).setCell ⟨g, p + 3, none⟩ (.int .i64 xq)).setCell ⟨g, p + 4, none⟩ (.slice xA xn xc)).setCell ⟨g, p + 5, none⟩ (.string yty)).setCell ⟨g, p + 6, none⟩ (.string ykey)).setCell ⟨g, p + 7, none⟩ (.int .i64 yt)).setCell ⟨g, p + 8, none⟩ (.int .i64 yq)).setCell ⟨g, p + 9, none⟩ (.slice yA yn yc)).drew (fun k => k = g) from tu_drew (tu5 (tu5 HT3.out rfl _ _ _ _ _) rfl _ _ _ _ _))
            obtain ⟨q0, q1, q2, q3, q4⟩ := HD3.out.at (get_hi (x := ⟨xty, xkey, xt, xq, xA, xn, xc⟩) (R := R) HY.out).1
            obtain ⟨r0, r1, r2, r3, r4⟩ := HD3.out.at (get_hi (x := ⟨xty, xkey, xt, xq, xA, xn, xc⟩) (R := R) HY.out).2
            rw [hp] at q0 q1 q2 q3 q4
            rw [hP1] at r0 r1 r2 r3 r4
            simp only [Nat.add_assoc, Nat.reduceAdd] at r1 r2 r3 r4
            dsimp only at q0 q1 q2 q3 q4 r0 r1 r2 r3 r4
            obtain ⟨z0, z1, z2, z3, z4, z5, z6, z7, z8, z9⟩ : w3.frozen? ⟨g, p, none⟩ = false ∧ w3.frozen? ⟨g, p + 1, none⟩ = false ∧ w3.frozen? ⟨g, p + 2, none⟩ = false ∧ w3.frozen? ⟨g, p + 3, none⟩ = false ∧ w3.frozen? ⟨g, p + 4, none⟩ = false ∧ w3.frozen? ⟨g, p + 5, none⟩ = false ∧ w3.frozen? ⟨g, p + 6, none⟩ = false ∧ w3.frozen? ⟨g, p + 7, none⟩ = false ∧ w3.frozen? ⟨g, p + 8, none⟩ = false ∧ w3.frozen? ⟨g, p + 9, none⟩ = false := ⟨HD3.out.fz _, HD3.out.fz _, HD3.out.fz _, HD3.out.fz _, HD3.out.fz _, HD3.out.fz _, HD3.out.fz _, HD3.out.fz _, HD3.out.fz _, HD3.out.fz _⟩
            clear s1 s2 hP1 y0 y1 y2 y3 y4 x0 x1 x2 x3 x4 HS HCM HD HT HI HT3 HD3
            go_upto_region 6 with fail
            go_region
            all_goals
              go_wp2
              go_roundw
              case rel => exact ⟨j, by omega, by go_num, by first | with_reducible exact HU1 | with_reducible exact HU2, by first | with_reducible exact HS1 | with_reducible exact HS2, HI3⟩
              case measure => simp [intOf]; omega
    · have hiz : ¬ (i : Int) < (n : Int) := by omega
      have HE := Lib.hid (show isort (L.take i) ++ L.drop i = isort L from by rw [List.take_of_length_le (by rw [HN.out]; omega), List.drop_of_length_le (by rw [HN.out]; omega), List.append_nil])
      clear hlt
      go_wp2
      go_end0
      exact ⟨rfl, hT.out, by have := hD.out; rw [HE.out] at this; exact this⟩
end Go.Proofs.YtookojgemipakaaDoor.E6
