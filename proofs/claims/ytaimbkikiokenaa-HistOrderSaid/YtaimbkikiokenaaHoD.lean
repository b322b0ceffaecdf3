/- Things sorted by swapping: insertionSortCmpFunc. -/
import Derived.Test.YtaimbkikiokenaaHoC
import Derived.Deep.CutBlock
import Derived.Deep.RegionHeld3
import Derived.BigRegion
import Derived.BigQuiet
import Derived.LoopN
namespace Go.Proofs.Ytaimbkikiokenaa.Hi
open Go.RowKit Go.Proofs.Ytaimbkikiokenaa Go.Maps
set_option linter.unusedVariables false
set_option maxRecDepth 100000
theorem putAt_hi {x y : Sp} {M R : List Sp} {j : Nat} (h : M[j]? = some y) : putAt x M (j + 1) ++ R = M.take j ++ y :: x :: (M.drop (j + 1) ++ R) := by
  obtain ⟨hj, hy⟩ := List.getElem?_eq_some_iff.1 h
  unfold putAt
  rw [List.take_succ_eq_append_getElem hj, hy]
  simp
theorem putAt_lo {x y : Sp} {M R : List Sp} {j : Nat} (h : M[j]? = some y) : putAt x M j ++ R = M.take j ++ x :: y :: (M.drop (j + 1) ++ R) := by
  obtain ⟨hj, hy⟩ := List.getElem?_eq_some_iff.1 h
  unfold putAt
  rw [List.drop_eq_getElem_cons hj, hy]
  simp
theorem set_two {P T : List Sp} {x y : Sp} {j : Nat} (hj : P.length = j) : ((P ++ y :: x :: T).set (j + 1) y).set j x = P ++ x :: y :: T ∧ ((P ++ y :: x :: T).set j x).set (j + 1) y = P ++ x :: y :: T := by
  subst hj
  constructor
  · rw [List.set_append_right _ _ (by omega), List.set_append_right _ _ (by omega)]
    simp [show P.length + 1 - P.length = 1 by omega]
  · rw [List.set_append_right _ _ (by omega), List.set_append_right _ _ (by omega)]
    simp [show P.length + 1 - P.length = 1 by omega]
theorem DL.swap {w : World} {g o : Nat} {M R : List Sp} {x y : Sp} {j : Nat} (h : DL w g o (putAt x M (j + 1) ++ R)) (hy : M[j]? = some y) :
    DL (setK (setK w g (o + (j + 1) * 13) (.int .i64 y.c) (.int .i64 y.n) (.int .i64 y.call) (.int .i64 y.turn) (.int .i64 y.reply) (.int .i64 y.err) (.int .i64 y.tick) (.int .i64 0) (.int .i64 0) (.int .i64 0) (.int .i64 0) (.int .i64 0) (.int .i64 0)) g (o + j * 13) (.int .i64 x.c) (.int .i64 x.n) (.int .i64 x.call) (.int .i64 x.turn) (.int .i64 x.reply) (.int .i64 x.err) (.int .i64 x.tick) (.int .i64 0) (.int .i64 0) (.int .i64 0) (.int .i64 0) (.int .i64 0) (.int .i64 0)) g o (putAt x M j ++ R) ∧
    DL (setK (setK w g (o + j * 13) (.int .i64 x.c) (.int .i64 x.n) (.int .i64 x.call) (.int .i64 x.turn) (.int .i64 x.reply) (.int .i64 x.err) (.int .i64 x.tick) (.int .i64 0) (.int .i64 0) (.int .i64 0) (.int .i64 0) (.int .i64 0) (.int .i64 0)) g (o + (j + 1) * 13) (.int .i64 y.c) (.int .i64 y.n) (.int .i64 y.call) (.int .i64 y.turn) (.int .i64 y.reply) (.int .i64 y.err) (.int .i64 y.tick) (.int .i64 0) (.int .i64 0) (.int .i64 0) (.int .i64 0) (.int .i64 0) (.int .i64 0)) g o (putAt x M j ++ R) := by
  obtain ⟨hj, _⟩ := List.getElem?_eq_some_iff.1 hy
  have hl : (M.take j).length = j := by rw [List.length_take]; omega
  rw [putAt_hi hy] at h
  rw [putAt_lo hy]
  have hlen : j + 1 < (M.take j ++ y :: x :: (M.drop (j + 1) ++ R)).length := by simp; omega
  obtain ⟨s1, s2⟩ := set_two (x := x) (y := y) (T := M.drop (j + 1) ++ R) hl
  constructor
  · have := (h.store hlen y).store (k := j) (by rw [List.length_set]; omega) x
    rw [s1] at this
    exact this
  · have := (h.store (k := j) (by omega) x).store (k := j + 1) (by rw [List.length_set]; exact hlen) y
    rw [s2] at this
    exact this
theorem DL.drew {w : World} {g o : Nat} {L : List Sp} (h : DL w g o L) : DL w.drew g o L := ⟨h.ce, h.fz⟩
theorem DL.call {w w' : World} {g o : Nat} {L : List Sp} (h : DL w g o L) (hb : Below w.heap.size w w') (hg : g < w.heap.size) : DL w' g o L :=
  ⟨fun k hk j u hu => (hb.cell (p := ⟨g, _, none⟩) hg).trans (h.ce k hk j u hu), fun j => (hb.frozen (p := ⟨g, j, none⟩) hg).trans (h.fz j)⟩
theorem tuK {w X : World} {S : Nat → Prop} {g p : Nat} (h : Turns w X S) (hs : S g) (u0 u1 u2 u3 u4 u5 u6 u7 u8 u9 u10 u11 u12 : Value) : Turns w (setK X g p u0 u1 u2 u3 u4 u5 u6 u7 u8 u9 u10 u11 u12) S :=
  (((((((((((((h.put g _ u0 (fun _ => hs)).put g _ u1 (fun _ => hs)).put g _ u2 (fun _ => hs)).put g _ u3 (fun _ => hs)).put g _ u4 (fun _ => hs)).put g _ u5 (fun _ => hs)).put g _ u6 (fun _ => hs)).put g _ u7 (fun _ => hs)).put g _ u8 (fun _ => hs)).put g _ u9 (fun _ => hs)).put g _ u10 (fun _ => hs)).put g _ u11 (fun _ => hs)).put g _ u12 (fun _ => hs))
theorem tu_drew {w X : World} {S : Nat → Prop} (h : Turns w X S) : Turns w X.drew S := h.drewN 1
theorem get_hi {x y : Sp} {M R : List Sp} {j : Nat} (h : M[j]? = some y) : (putAt x M (j + 1) ++ R)[j]? = some y ∧ (putAt x M (j + 1) ++ R)[j + 1]? = some x := by
  obtain ⟨hj, _⟩ := List.getElem?_eq_some_iff.1 h
  have hl : (M.take j).length = j := by rw [List.length_take]; omega
  rw [putAt_hi h]
  constructor
  · rw [List.getElem?_append_right (by omega), hl]; simp
  · rw [List.getElem?_append_right (by omega), hl]; simp [show j + 1 - j = 1 by omega]
theorem DL.at {w : World} {g o : Nat} {L : List Sp} (h : DL w g o L) {k : Nat} {r : Sp} (hr : L[k]? = some r) : w.cell? ⟨g, o + k * 13, none⟩ = some (.int .i64 r.c) ∧ w.cell? ⟨g, o + k * 13 + 1, none⟩ = some (.int .i64 r.n) ∧ w.cell? ⟨g, o + k * 13 + 2, none⟩ = some (.int .i64 r.call) ∧ w.cell? ⟨g, o + k * 13 + 3, none⟩ = some (.int .i64 r.turn) ∧ w.cell? ⟨g, o + k * 13 + 4, none⟩ = some (.int .i64 r.reply) ∧ w.cell? ⟨g, o + k * 13 + 5, none⟩ = some (.int .i64 r.err) ∧ w.cell? ⟨g, o + k * 13 + 6, none⟩ = some (.int .i64 r.tick) ∧ w.cell? ⟨g, o + k * 13 + 7, none⟩ = some (.int .i64 0) ∧ w.cell? ⟨g, o + k * 13 + 8, none⟩ = some (.int .i64 0) ∧ w.cell? ⟨g, o + k * 13 + 9, none⟩ = some (.int .i64 0) ∧ w.cell? ⟨g, o + k * 13 + 10, none⟩ = some (.int .i64 0) ∧ w.cell? ⟨g, o + k * 13 + 11, none⟩ = some (.int .i64 0) ∧ w.cell? ⟨g, o + k * 13 + 12, none⟩ = some (.int .i64 0) := by
  obtain ⟨hk, e⟩ := List.getElem?_eq_some_iff.1 hr
  exact h.all hk e
theorem isort_step {L : List Sp} {i j : Nat} {x : Sp} (hi : L[i]? = some x) (hm : insAt x (isort (L.take i)) i = j) : putAt x (isort (L.take i)) j ++ L.drop (i + 1) = isort (L.take (i + 1)) ++ L.drop (i + 1) := by
  obtain ⟨h, rfl⟩ := List.getElem?_eq_some_iff.1 hi
  rw [isort_take h]
  unfold insR
  rw [isort_len, List.length_take, Nat.min_eq_left (by omega), hm]
theorem isort_start {L : List Sp} {i : Nat} {x : Sp} (hi : L[i]? = some x) : isort (L.take i) ++ L.drop i = putAt x (isort (L.take i)) i ++ L.drop (i + 1) := by
  obtain ⟨h, rfl⟩ := List.getElem?_eq_some_iff.1 hi
  unfold putAt
  have hl : (isort (L.take i)).length = i := by rw [isort_len, List.length_take]; omega
  generalize isort (L.take i) = M at hl
  have e1 : M.take i = M := List.take_of_length_le (by omega)
  have e2 : M.drop i = [] := List.drop_of_length_le (by omega)
  rw [e1, e2, List.drop_eq_getElem_cons h]
  simp
set_option maxHeartbeats 8000000 in
theorem ins_all (g o n cap : Nat) (L : List Sp) (w : World) (h : DL w g o L) (hg : g < w.heap.size) (hn : L.length = n) (hcap : n ≤ cap) (hn9 : n ≤ 1000) (hc9 : cap ≤ 9223372036854775807) :
    Calls Try.prog 128 #[.slice (some ⟨g, o, none⟩) n cap, .int .i64 0, .int .i64 n, .func (.func 89) #[] #[]] w fun e w' => e = .returned (.tuple #[]) ∧ Turns w w' (fun k => k = g) ∧ DL w' g o (isort L) := by
  have HN := Lib.hid hn
  have HG := Lib.hid hg
  have H0 := Lib.hid (show DL w g o (isort (L.take 1) ++ L.drop 1) from by
    rcases Nat.eq_zero_or_pos L.length with e | e
    · obtain rfl := List.length_eq_zero_iff.1 e
      exact h
    · rw [isort_one L e, List.take_append_drop]; exact h)
  clear h hn hg
  go_enter Try.func128, Try.ntmps128
  go_wp2
  go_loopw [8, 9] (fun v8 v9 wr => ∃ i : Nat, 1 ≤ i ∧ i ≤ n + 1 ∧ v8 = .int .i64 i ∧ Hid (Turns w wr (fun k => k = g)) ∧ Hid (DL wr g o (isort (L.take i) ++ L.drop i))) (fun v8 _ _ => n + 1 - (intOf v8).toNat)
  case atStart => exact ⟨1, by omega, by omega, rfl, Turns.refl _ _, H0⟩
  case round =>
    clear H0
    obtain ⟨i, hi1, hi2, rfl, hT, hD⟩ := hrel
    by_cases hlt : i < n
    · have hiz : (i : Int) < (n : Int) := by omega
      have hil : i < L.length := by rw [HN.out]; exact hlt
      obtain ⟨x, hx⟩ : ∃ x, L[i]? = some x := ⟨L[i], List.getElem?_eq_getElem hil⟩
      have HX := Lib.hid hx
      have hML : (isort (L.take i)).length = i := by rw [isort_len, List.length_take]; omega
      have hD0 := hD.out
      rw [isort_start hx] at hD0
      have HD0 := Lib.hid hD0
      obtain ⟨M, hM⟩ : ∃ M, isort (L.take i) = M := ⟨_, rfl⟩
      obtain ⟨R, hR⟩ : ∃ R, L.drop (i + 1) = R := ⟨_, rfl⟩
      have HMM := Lib.hid hM
      have HRR := Lib.hid hR
      rw [hM, hR] at HD0
      rw [hM] at hML
      have HML := Lib.hid hML
      have HT := Lib.hid hT.out
      clear hx hD0 hM hR hML hD hT hil
      go_wp2
      go_loopw [9] (fun v9 wx => ∃ j : Nat, j ≤ i ∧ v9 = .int .i64 j ∧ Hid (Turns w wx (fun k => k = g)) ∧ Hid (DL wx g o (putAt x M j ++ R)) ∧ Hid (insAt x M i = insAt x M j)) (fun v9 _ => (intOf v9).toNat)
      case atStart => exact ⟨i, Nat.le_refl _, rfl, HT, HD0, Lib.hid rfl⟩
      case round =>
        clear HD0 HT
        obtain ⟨J, hJ, rfl, hT, hD, hI⟩ := hrel
        rcases Nat.eq_zero_or_pos J with rfl | hJ0
        · have hz0 : decide ((0 : Int) < ((0 : Nat) : Int)) = false := by decide
          have HSTEP := Lib.hid (isort_step HX.out (show insAt x (isort (L.take i)) i = 0 from by rw [HMM.out]; exact hI.out))
          go_upto_region 4 with fail
          go_quiet (fail)
          go_wp2
          go_roundw
          case rel => exact ⟨i + 1, by omega, by omega, by go_num, hT.out.drewN nq, Lib.hid (by
            have h1 : DL (wr.drewN nq) g o (putAt x M 0 ++ R) := ⟨hD.out.ce, hD.out.fz⟩
            have h2 := HSTEP.out
            rw [HMM.out, HRR.out] at h2
            rw [h2] at h1
            rw [HRR.out]
            exact h1)⟩
          case measure => simp [intOf]; omega
        · obtain ⟨j, hJj⟩ : ∃ j, J = j + 1 := ⟨J - 1, by omega⟩
          rw [hJj] at hD hI
          have hjM : j < M.length := by rw [HML.out]; omega
          obtain ⟨y, hy⟩ : ∃ y, M[j]? = some y := ⟨M[j], List.getElem?_eq_getElem hjM⟩
          obtain ⟨hg1, hg2⟩ := get_hi (x := x) (R := R) hy
          obtain ⟨y0, y1, y2, y3, y4, y5, y6, y7, y8, y9, y10, y11, y12⟩ := hD.out.at hg1
          obtain ⟨x0, x1, x2, x3, x4, x5, x6, x7, x8, x9, x10, x11, x12⟩ := hD.out.at hg2
          rw [← hJj] at x0 x1 x2 x3 x4 x5 x6 x7 x8 x9 x10 x11 x12
          have HJJ := Lib.hid hJj
          have HY := Lib.hid hy
          have hgw : g < wr.heap.size := World.block_lt_of_cell? wr _ y0
          have HGW := Lib.hid hgw
          have hwr : IntKind.i64.wrap ((J : Int) - 1) = (j : Int) := by rw [IntKind.wrap_i64]; omega
          have hgt : decide ((0 : Int) < (J : Int)) = true := decide_eq_true (by omega)
          have hgt2 : decide (0 < J) = true := decide_eq_true hJ0
          have hJn : (J : Int) < (n : Int) := by omega
          have hj0 : (0 : Int) ≤ (j : Int) := by omega
          have hj3 : (j : Int) < (n : Int) := by omega
          obtain ⟨z, hz⟩ : ∃ z, cmp3 x.turn y.turn = z := ⟨_, rfl⟩
          have HCM := Lib.hid (fun X => order1_any x y X)
          have hzb := cmp3_neg x.turn y.turn
          rw [hz] at HCM hzb
          have HZB := Lib.hid (show decide (z < 0) = x.bef y from hzb)
          have HD := Lib.hid hD.out
          have HT := Lib.hid hT.out
          have HI := Lib.hid hI.out
          clear hy hg1 hg2 hjM hz hzb hD hT hI hgw hJj
          have hS : ∀ X, Below wr.heap.size wr X → X.cell? ⟨g, o + j * 13, none⟩ = some (.int .i64 y.c) ∧ X.cell? ⟨g, o + j * 13 + 1, none⟩ = some (.int .i64 y.n) ∧ X.cell? ⟨g, o + j * 13 + 2, none⟩ = some (.int .i64 y.call) ∧ X.cell? ⟨g, o + j * 13 + 3, none⟩ = some (.int .i64 y.turn) ∧ X.cell? ⟨g, o + j * 13 + 4, none⟩ = some (.int .i64 y.reply) ∧ X.cell? ⟨g, o + j * 13 + 5, none⟩ = some (.int .i64 y.err) ∧ X.cell? ⟨g, o + j * 13 + 6, none⟩ = some (.int .i64 y.tick) ∧ X.cell? ⟨g, o + j * 13 + 7, none⟩ = some (.int .i64 0) ∧ X.cell? ⟨g, o + j * 13 + 8, none⟩ = some (.int .i64 0) ∧ X.cell? ⟨g, o + j * 13 + 9, none⟩ = some (.int .i64 0) ∧ X.cell? ⟨g, o + j * 13 + 10, none⟩ = some (.int .i64 0) ∧ X.cell? ⟨g, o + j * 13 + 11, none⟩ = some (.int .i64 0) ∧ X.cell? ⟨g, o + j * 13 + 12, none⟩ = some (.int .i64 0) ∧ X.cell? ⟨g, o + J * 13, none⟩ = some (.int .i64 x.c) ∧ X.cell? ⟨g, o + J * 13 + 1, none⟩ = some (.int .i64 x.n) ∧ X.cell? ⟨g, o + J * 13 + 2, none⟩ = some (.int .i64 x.call) ∧ X.cell? ⟨g, o + J * 13 + 3, none⟩ = some (.int .i64 x.turn) ∧ X.cell? ⟨g, o + J * 13 + 4, none⟩ = some (.int .i64 x.reply) ∧ X.cell? ⟨g, o + J * 13 + 5, none⟩ = some (.int .i64 x.err) ∧ X.cell? ⟨g, o + J * 13 + 6, none⟩ = some (.int .i64 x.tick) ∧ X.cell? ⟨g, o + J * 13 + 7, none⟩ = some (.int .i64 0) ∧ X.cell? ⟨g, o + J * 13 + 8, none⟩ = some (.int .i64 0) ∧ X.cell? ⟨g, o + J * 13 + 9, none⟩ = some (.int .i64 0) ∧ X.cell? ⟨g, o + J * 13 + 10, none⟩ = some (.int .i64 0) ∧ X.cell? ⟨g, o + J * 13 + 11, none⟩ = some (.int .i64 0) ∧ X.cell? ⟨g, o + J * 13 + 12, none⟩ = some (.int .i64 0) := fun X h => by
            obtain ⟨a0, a1, a2, a3, a4, a5, a6, a7, a8, a9, a10, a11, a12⟩ := (HD.out.call h HGW.out).at (get_hi HY.out).1
            obtain ⟨b0, b1, b2, b3, b4, b5, b6, b7, b8, b9, b10, b11, b12⟩ := (HD.out.call h HGW.out).at (get_hi (x := x) (R := R) HY.out).2
            rw [← HJJ.out] at b0 b1 b2 b3 b4 b5 b6 b7 b8 b9 b10 b11 b12
            exact ⟨a0, a1, a2, a3, a4, a5, a6, a7, a8, a9, a10, a11, a12, b0, b1, b2, b3, b4, b5, b6, b7, b8, b9, b10, b11, b12⟩
          have HS := Lib.hid hS
          have HB : Hid (Below wr.heap.size wr wr.drew) := (Below.refl _ wr).drew
          clear hS
          obtain ⟨b, hb⟩ : ∃ b, Sp.bef x y = b := ⟨_, rfl⟩
          have hzb : decide (z < 0) = b := by rw [← hb]; exact HZB.out
          have HBF := Lib.hid hb
          clear hb
          go_upto_region 4 with fail
          cases b with
          | false =>
            go_region_held3 (fun X => X.cell? ⟨g, o + j * 13, none⟩ = some (.int .i64 y.c) ∧ X.cell? ⟨g, o + j * 13 + 1, none⟩ = some (.int .i64 y.n) ∧ X.cell? ⟨g, o + j * 13 + 2, none⟩ = some (.int .i64 y.call) ∧ X.cell? ⟨g, o + j * 13 + 3, none⟩ = some (.int .i64 y.turn) ∧ X.cell? ⟨g, o + j * 13 + 4, none⟩ = some (.int .i64 y.reply) ∧ X.cell? ⟨g, o + j * 13 + 5, none⟩ = some (.int .i64 y.err) ∧ X.cell? ⟨g, o + j * 13 + 6, none⟩ = some (.int .i64 y.tick) ∧ X.cell? ⟨g, o + j * 13 + 7, none⟩ = some (.int .i64 0) ∧ X.cell? ⟨g, o + j * 13 + 8, none⟩ = some (.int .i64 0) ∧ X.cell? ⟨g, o + j * 13 + 9, none⟩ = some (.int .i64 0) ∧ X.cell? ⟨g, o + j * 13 + 10, none⟩ = some (.int .i64 0) ∧ X.cell? ⟨g, o + j * 13 + 11, none⟩ = some (.int .i64 0) ∧ X.cell? ⟨g, o + j * 13 + 12, none⟩ = some (.int .i64 0) ∧ X.cell? ⟨g, o + J * 13, none⟩ = some (.int .i64 x.c) ∧ X.cell? ⟨g, o + J * 13 + 1, none⟩ = some (.int .i64 x.n) ∧ X.cell? ⟨g, o + J * 13 + 2, none⟩ = some (.int .i64 x.call) ∧ X.cell? ⟨g, o + J * 13 + 3, none⟩ = some (.int .i64 x.turn) ∧ X.cell? ⟨g, o + J * 13 + 4, none⟩ = some (.int .i64 x.reply) ∧ X.cell? ⟨g, o + J * 13 + 5, none⟩ = some (.int .i64 x.err) ∧ X.cell? ⟨g, o + J * 13 + 6, none⟩ = some (.int .i64 x.tick) ∧ X.cell? ⟨g, o + J * 13 + 7, none⟩ = some (.int .i64 0) ∧ X.cell? ⟨g, o + J * 13 + 8, none⟩ = some (.int .i64 0) ∧ X.cell? ⟨g, o + J * 13 + 9, none⟩ = some (.int .i64 0) ∧ X.cell? ⟨g, o + J * 13 + 10, none⟩ = some (.int .i64 0) ∧ X.cell? ⟨g, o + J * 13 + 11, none⟩ = some (.int .i64 0) ∧ X.cell? ⟨g, o + J * 13 + 12, none⟩ = some (.int .i64 0))
              (first
                | with_reducible exact ⟨y0, y1, y2, y3, y4, y5, y6, y7, y8, y9, y10, y11, y12, x0, x1, x2, x3, x4, x5, x6, x7, x8, x9, x10, x11, x12⟩
                | with_reducible exact HS.out _ HB.out
                | fail)
              ((first
                | (go_at_call 89
                   (with_reducible refine (HCM.out _).mono ?_)
                   rintro e w3 ⟨rfl, hb⟩
                   have h3 := HB.out.trans (hb.mono HB.out.size)
                   have HB := Lib.hid h3
                   clear hb h3)
                | fail))
            have HT3 := Lib.hid (HT.out.trans (Turns.of_below HB.out) (fun _ _ e => e.elim))
            have HD3 := Lib.hid (HD.out.call HB.out HGW.out)
            have HSTEP := Lib.hid (isort_step HX.out (show insAt _ (isort (L.take i)) i = j + 1 from by rw [HMM.out, HI.out, insAt_no HY.out HBF.out]))
            go_wp2
            go_roundw
            case rel => exact ⟨i + 1, by omega, by omega, by go_num, HT3.out, Lib.hid (by
              have h1 := HD3.out
              have h2 := HSTEP.out
              rw [HMM.out, HRR.out] at h2
              rw [h2] at h1
              rw [HRR.out]
              exact h1)⟩
            case measure => simp [intOf]; omega
          | true =>
            go_region_held3 (fun X => X.cell? ⟨g, o + j * 13, none⟩ = some (.int .i64 y.c) ∧ X.cell? ⟨g, o + j * 13 + 1, none⟩ = some (.int .i64 y.n) ∧ X.cell? ⟨g, o + j * 13 + 2, none⟩ = some (.int .i64 y.call) ∧ X.cell? ⟨g, o + j * 13 + 3, none⟩ = some (.int .i64 y.turn) ∧ X.cell? ⟨g, o + j * 13 + 4, none⟩ = some (.int .i64 y.reply) ∧ X.cell? ⟨g, o + j * 13 + 5, none⟩ = some (.int .i64 y.err) ∧ X.cell? ⟨g, o + j * 13 + 6, none⟩ = some (.int .i64 y.tick) ∧ X.cell? ⟨g, o + j * 13 + 7, none⟩ = some (.int .i64 0) ∧ X.cell? ⟨g, o + j * 13 + 8, none⟩ = some (.int .i64 0) ∧ X.cell? ⟨g, o + j * 13 + 9, none⟩ = some (.int .i64 0) ∧ X.cell? ⟨g, o + j * 13 + 10, none⟩ = some (.int .i64 0) ∧ X.cell? ⟨g, o + j * 13 + 11, none⟩ = some (.int .i64 0) ∧ X.cell? ⟨g, o + j * 13 + 12, none⟩ = some (.int .i64 0) ∧ X.cell? ⟨g, o + J * 13, none⟩ = some (.int .i64 x.c) ∧ X.cell? ⟨g, o + J * 13 + 1, none⟩ = some (.int .i64 x.n) ∧ X.cell? ⟨g, o + J * 13 + 2, none⟩ = some (.int .i64 x.call) ∧ X.cell? ⟨g, o + J * 13 + 3, none⟩ = some (.int .i64 x.turn) ∧ X.cell? ⟨g, o + J * 13 + 4, none⟩ = some (.int .i64 x.reply) ∧ X.cell? ⟨g, o + J * 13 + 5, none⟩ = some (.int .i64 x.err) ∧ X.cell? ⟨g, o + J * 13 + 6, none⟩ = some (.int .i64 x.tick) ∧ X.cell? ⟨g, o + J * 13 + 7, none⟩ = some (.int .i64 0) ∧ X.cell? ⟨g, o + J * 13 + 8, none⟩ = some (.int .i64 0) ∧ X.cell? ⟨g, o + J * 13 + 9, none⟩ = some (.int .i64 0) ∧ X.cell? ⟨g, o + J * 13 + 10, none⟩ = some (.int .i64 0) ∧ X.cell? ⟨g, o + J * 13 + 11, none⟩ = some (.int .i64 0) ∧ X.cell? ⟨g, o + J * 13 + 12, none⟩ = some (.int .i64 0))
              (first
                | with_reducible exact ⟨y0, y1, y2, y3, y4, y5, y6, y7, y8, y9, y10, y11, y12, x0, x1, x2, x3, x4, x5, x6, x7, x8, x9, x10, x11, x12⟩
                | with_reducible exact HS.out _ HB.out
                | fail)
              ((first
                | (go_at_call 89
                   (with_reducible refine (HCM.out _).mono ?_)
                   rintro e w3 ⟨rfl, hb⟩
                   have h3 := HB.out.trans (hb.mono HB.out.size)
                   have HB := Lib.hid h3
                   clear hb h3)
                | fail))
            have HT3 := Lib.hid (HT.out.trans (Turns.of_below HB.out) (fun _ _ e => e.elim))
            have HD3 := Lib.hid (HD.out.call HB.out HGW.out)
            have HI3 := Lib.hid (HI.out.trans (insAt_yes HY.out HBF.out))
            obtain ⟨p, hp⟩ : ∃ p, o + j * 13 = p := ⟨_, rfl⟩
            have hP : o + J * 13 = p + 13 := by have := HJJ.out; rw [← hp, this]; omega
            have hP1 : o + (j + 1) * 13 = p + 13 := by rw [← hp]; omega
            obtain ⟨s1, s2⟩ := DL.swap (x := x) HD3.out HY.out
            unfold setK at s1 s2
            rw [hP1, hp] at s1 s2
            have HS1 := Lib.hid (show DL (((((((((((((((((((((((((((w3.setCell ⟨g, p + 13, none⟩ (.int .i64 y.c)).setCell ⟨g, p + 14, none⟩ (.int .i64 y.n)).setCell ⟨g, p + 15, none⟩ (.int .i64 y.call)).setCell ⟨g, p + 16, none⟩ (.int .i64 y.turn)).setCell ⟨g, p + 17, none⟩ (.int .i64 y.reply)).setCell ⟨g, p + 18, none⟩ (.int .i64 y.err)).setCell ⟨g, p + 19, none⟩ (.int .i64 y.tick)).setCell ⟨g, p + 20, none⟩ (.int .i64 0)).setCell ⟨g, p + 21, none⟩ (.int .i64 0)).setCell ⟨g, p + 22, none⟩ (.int .i64 0)).setCell ⟨g, p + 23, none⟩ (.int .i64 0)).setCell ⟨g, p + 24, none⟩ (.int .i64 0)).setCell ⟨g, p + 25, none⟩ (.int .i64 0)).setCell ⟨g, p, none⟩ (.int .i64 x.c)).setCell ⟨g, p + 1, none⟩ (.int .i64 x.n)).setCell ⟨g, p + 2, none⟩ (.int .i64 x.call)).setCell ⟨g, p + 3, none⟩ (.int .i64 x.turn)).setCell ⟨g, p + 4, none⟩ (.int .i64 x.reply)).setCell ⟨g, p + 5, none⟩ (.int .i64 x.err)).setCell ⟨g, p + 6, none⟩ (.int .i64 x.tick)).setCell ⟨g, p + 7, none⟩ (.int .i64 0)).setCell ⟨g, p + 8, none⟩ (.int .i64 0)).setCell ⟨g, p + 9, none⟩ (.int .i64 0)).setCell ⟨g, p + 10, none⟩ (.int .i64 0)).setCell ⟨g, p + 11, none⟩ (.int .i64 0)).setCell ⟨g, p + 12, none⟩ (.int .i64 0))).drew g o (putAt x M j ++ R) from s1.drew)
            have HS2 := Lib.hid (show DL (((((((((((((((((((((((((((w3.setCell ⟨g, p, none⟩ (.int .i64 x.c)).setCell ⟨g, p + 1, none⟩ (.int .i64 x.n)).setCell ⟨g, p + 2, none⟩ (.int .i64 x.call)).setCell ⟨g, p + 3, none⟩ (.int .i64 x.turn)).setCell ⟨g, p + 4, none⟩ (.int .i64 x.reply)).setCell ⟨g, p + 5, none⟩ (.int .i64 x.err)).setCell ⟨g, p + 6, none⟩ (.int .i64 x.tick)).setCell ⟨g, p + 7, none⟩ (.int .i64 0)).setCell ⟨g, p + 8, none⟩ (.int .i64 0)).setCell ⟨g, p + 9, none⟩ (.int .i64 0)).setCell ⟨g, p + 10, none⟩ (.int .i64 0)).setCell ⟨g, p + 11, none⟩ (.int .i64 0)).setCell ⟨g, p + 12, none⟩ (.int .i64 0)).setCell ⟨g, p + 13, none⟩ (.int .i64 y.c)).setCell ⟨g, p + 14, none⟩ (.int .i64 y.n)).setCell ⟨g, p + 15, none⟩ (.int .i64 y.call)).setCell ⟨g, p + 16, none⟩ (.int .i64 y.turn)).setCell ⟨g, p + 17, none⟩ (.int .i64 y.reply)).setCell ⟨g, p + 18, none⟩ (.int .i64 y.err)).setCell ⟨g, p + 19, none⟩ (.int .i64 y.tick)).setCell ⟨g, p + 20, none⟩ (.int .i64 0)).setCell ⟨g, p + 21, none⟩ (.int .i64 0)).setCell ⟨g, p + 22, none⟩ (.int .i64 0)).setCell ⟨g, p + 23, none⟩ (.int .i64 0)).setCell ⟨g, p + 24, none⟩ (.int .i64 0)).setCell ⟨g, p + 25, none⟩ (.int .i64 0))).drew g o (putAt x M j ++ R) from s2.drew)
            have HU1 := Lib.hid (show Turns w (((((((((((((((((((((((((((w3.setCell ⟨g, p + 13, none⟩ (.int .i64 y.c)).setCell ⟨g, p + 14, none⟩ (.int .i64 y.n)).setCell ⟨g, p + 15, none⟩ (.int .i64 y.call)).setCell ⟨g, p + 16, none⟩ (.int .i64 y.turn)).setCell ⟨g, p + 17, none⟩ (.int .i64 y.reply)).setCell ⟨g, p + 18, none⟩ (.int .i64 y.err)).setCell ⟨g, p + 19, none⟩ (.int .i64 y.tick)).setCell ⟨g, p + 20, none⟩ (.int .i64 0)).setCell ⟨g, p + 21, none⟩ (.int .i64 0)).setCell ⟨g, p + 22, none⟩ (.int .i64 0)).setCell ⟨g, p + 23, none⟩ (.int .i64 0)).setCell ⟨g, p + 24, none⟩ (.int .i64 0)).setCell ⟨g, p + 25, none⟩ (.int .i64 0)).setCell ⟨g, p, none⟩ (.int .i64 x.c)).setCell ⟨g, p + 1, none⟩ (.int .i64 x.n)).setCell ⟨g, p + 2, none⟩ (.int .i64 x.call)).setCell ⟨g, p + 3, none⟩ (.int .i64 x.turn)).setCell ⟨g, p + 4, none⟩ (.int .i64 x.reply)).setCell ⟨g, p + 5, none⟩ (.int .i64 x.err)).setCell ⟨g, p + 6, none⟩ (.int .i64 x.tick)).setCell ⟨g, p + 7, none⟩ (.int .i64 0)).setCell ⟨g, p + 8, none⟩ (.int .i64 0)).setCell ⟨g, p + 9, none⟩ (.int .i64 0)).setCell ⟨g, p + 10, none⟩ (.int .i64 0)).setCell ⟨g, p + 11, none⟩ (.int .i64 0)).setCell ⟨g, p + 12, none⟩ (.int .i64 0))).drew (fun k => k = g) from tu_drew (tuK (tuK HT3.out rfl _ _ _ _ _ _ _ _ _ _ _ _ _) rfl _ _ _ _ _ _ _ _ _ _ _ _ _))
            have HU2 := Lib.hid (show Turns w (((((((((((((((((((((((((((w3.setCell ⟨g, p, none⟩ (.int .i64 x.c)).setCell ⟨g, p + 1, none⟩ (.int .i64 x.n)).setCell ⟨g, p + 2, none⟩ (.int .i64 x.call)).setCell ⟨g, p + 3, none⟩ (.int .i64 x.turn)).setCell ⟨g, p + 4, none⟩ (.int .i64 x.reply)).setCell ⟨g, p + 5, none⟩ (.int .i64 x.err)).setCell ⟨g, p + 6, none⟩ (.int .i64 x.tick)).setCell ⟨g, p + 7, none⟩ (.int .i64 0)).setCell ⟨g, p + 8, none⟩ (.int .i64 0)).setCell ⟨g, p + 9, none⟩ (.int .i64 0)).setCell ⟨g, p + 10, none⟩ (.int .i64 0)).setCell ⟨g, p + 11, none⟩ (.int .i64 0)).setCell ⟨g, p + 12, none⟩ (.int .i64 0)).setCell ⟨g, p + 13, none⟩ (.int .i64 y.c)).setCell ⟨g, p + 14, none⟩ (.int .i64 y.n)).setCell ⟨g, p + 15, none⟩ (.int .i64 y.call)).setCell ⟨g, p + 16, none⟩ (.int .i64 y.turn)).setCell ⟨g, p + 17, none⟩ (.int .i64 y.reply)).setCell ⟨g, p + 18, none⟩ (.int .i64 y.err)).setCell ⟨g, p + 19, none⟩ (.int .i64 y.tick)).setCell ⟨g, p + 20, none⟩ (.int .i64 0)).setCell ⟨g, p + 21, none⟩ (.int .i64 0)).setCell ⟨g, p + 22, none⟩ (.int .i64 0)).setCell ⟨g, p + 23, none⟩ (.int .i64 0)).setCell ⟨g, p + 24, none⟩ (.int .i64 0)).setCell ⟨g, p + 25, none⟩ (.int .i64 0))).drew (fun k => k = g) from tu_drew (tuK (tuK HT3.out rfl _ _ _ _ _ _ _ _ _ _ _ _ _) rfl _ _ _ _ _ _ _ _ _ _ _ _ _))
            obtain ⟨q0, q1, q2, q3, q4, q5, q6, q7, q8, q9, q10, q11, q12⟩ := HD3.out.at (get_hi (x := x) (R := R) HY.out).1
            obtain ⟨r0, r1, r2, r3, r4, r5, r6, r7, r8, r9, r10, r11, r12⟩ := HD3.out.at (get_hi (x := x) (R := R) HY.out).2
            rw [hp] at q0 q1 q2 q3 q4 q5 q6 q7 q8 q9 q10 q11 q12
            rw [hP1] at r0 r1 r2 r3 r4 r5 r6 r7 r8 r9 r10 r11 r12
            simp only [Nat.add_assoc, Nat.reduceAdd] at r1 r2 r3 r4 r5 r6 r7 r8 r9 r10 r11 r12
            obtain ⟨z0, z1, z2, z3, z4, z5, z6, z7, z8, z9, z10, z11, z12, z13, z14, z15, z16, z17, z18, z19, z20, z21, z22, z23, z24, z25⟩ : w3.frozen? ⟨g, p, none⟩ = false ∧ w3.frozen? ⟨g, p + 1, none⟩ = false ∧ w3.frozen? ⟨g, p + 2, none⟩ = false ∧ w3.frozen? ⟨g, p + 3, none⟩ = false ∧ w3.frozen? ⟨g, p + 4, none⟩ = false ∧ w3.frozen? ⟨g, p + 5, none⟩ = false ∧ w3.frozen? ⟨g, p + 6, none⟩ = false ∧ w3.frozen? ⟨g, p + 7, none⟩ = false ∧ w3.frozen? ⟨g, p + 8, none⟩ = false ∧ w3.frozen? ⟨g, p + 9, none⟩ = false ∧ w3.frozen? ⟨g, p + 10, none⟩ = false ∧ w3.frozen? ⟨g, p + 11, none⟩ = false ∧ w3.frozen? ⟨g, p + 12, none⟩ = false ∧ w3.frozen? ⟨g, p + 13, none⟩ = false ∧ w3.frozen? ⟨g, p + 14, none⟩ = false ∧ w3.frozen? ⟨g, p + 15, none⟩ = false ∧ w3.frozen? ⟨g, p + 16, none⟩ = false ∧ w3.frozen? ⟨g, p + 17, none⟩ = false ∧ w3.frozen? ⟨g, p + 18, none⟩ = false ∧ w3.frozen? ⟨g, p + 19, none⟩ = false ∧ w3.frozen? ⟨g, p + 20, none⟩ = false ∧ w3.frozen? ⟨g, p + 21, none⟩ = false ∧ w3.frozen? ⟨g, p + 22, none⟩ = false ∧ w3.frozen? ⟨g, p + 23, none⟩ = false ∧ w3.frozen? ⟨g, p + 24, none⟩ = false ∧ w3.frozen? ⟨g, p + 25, none⟩ = false := ⟨HD3.out.fz _, HD3.out.fz _, HD3.out.fz _, HD3.out.fz _, HD3.out.fz _, HD3.out.fz _, HD3.out.fz _, HD3.out.fz _, HD3.out.fz _, HD3.out.fz _, HD3.out.fz _, HD3.out.fz _, HD3.out.fz _, HD3.out.fz _, HD3.out.fz _, HD3.out.fz _, HD3.out.fz _, HD3.out.fz _, HD3.out.fz _, HD3.out.fz _, HD3.out.fz _, HD3.out.fz _, HD3.out.fz _, HD3.out.fz _, HD3.out.fz _, HD3.out.fz _⟩
            clear s1 s2 hP1 y0 y1 y2 y3 y4 y5 y6 y7 y8 y9 y10 y11 y12 x0 x1 x2 x3 x4 x5 x6 x7 x8 x9 x10 x11 x12 HS HCM HD HT HI HT3 HD3
            go_upto_region 6 with fail
            go_region
            all_goals
              go_wp2
              go_roundw
              case rel => exact ⟨j, by omega, by go_num, by first | with_reducible exact HU1 | with_reducible exact HU2, by first | with_reducible exact HS1 | with_reducible exact HS2, HI3⟩
              case measure => simp [intOf]; omega
    · have hiz : ¬ (i : Int) < (n : Int) := by omega
      have HE := Lib.hid (show isort (L.take i) ++ L.drop i = isort L from by rw [List.take_of_length_le (by rw [HN.out]; omega), List.drop_of_length_le (by rw [HN.out]; omega), List.append_nil])
      clear hlt
      go_wp2
      go_end0
      exact ⟨rfl, hT.out, by have := hD.out; rw [HE.out] at this; exact this⟩
end Go.Proofs.Ytaimbkikiokenaa.Hi
