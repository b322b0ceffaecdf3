/- When two events are alike, of whatever contents. -/
import Derived.Test.YtookojgemipakaaDoorE6J
import Derived.Laws.StructEq
import Derived.BigQuiet
namespace Go.Proofs.YtookojgemipakaaDoor.E6
open Go.RowKit Go.Proofs.YtookojgemipakaaDoor Go.Proofs.YtookojgemipakaaDoor.Ev Go.Proofs.YtookojgemipakaaDoor.Evl Go.Proofs.YtookojgemipakaaDoor.E4
set_option linter.unusedVariables false
set_option maxRecDepth 100000
def eqV (x y : VV) : Bool := (x.k == y.k) && ((x.i == y.i) && ((x.s.toList == y.s.toList) && (x.b == y.b)))
def eqVs : List VV → List VV → Bool
  | [], [] => true
  | x :: r, y :: s => eqV x y && eqVs r s
  | _, _ => false
theorem eqVs_len : ∀ {L M : List VV}, L.length ≠ M.length → eqVs L M = false
  | [], [], h => absurd rfl h
  | [], _ :: _, _ => rfl
  | _ :: _, [], _ => rfl
  | x :: r, y :: s, h => by
    unfold eqVs
    rw [eqVs_len (L := r) (M := s) (by simpa using h), Bool.and_false]
theorem eqVs_step {L M : List VV} {k : Nat} {x y : VV} (hx : L[k]? = some x) (hy : M[k]? = some y) : eqVs (L.drop k) (M.drop k) = (eqV x y && eqVs (L.drop (k + 1)) (M.drop (k + 1))) := by
  obtain ⟨h1, rfl⟩ := List.getElem?_eq_some_iff.1 hx
  obtain ⟨h2, rfl⟩ := List.getElem?_eq_some_iff.1 hy
  rw [List.drop_eq_getElem_cons h1, List.drop_eq_getElem_cons h2]
  rfl
theorem eqVs_end {L M : List VV} {k : Nat} (h1 : L.length ≤ k) (h2 : M.length ≤ k) : eqVs (L.drop k) (M.drop k) = true := by
  rw [List.drop_of_length_le h1, List.drop_of_length_le h2]
  rfl
theorem vl_at {w : World} {B : Nat} {A : Option Addr} {n c : Nat} {L : List VV} (h : VL w B (.slice A n c) L) {k : Nat} {x : VV} (hx : L[k]? = some x) : ∃ g o, A = some ⟨g, o, none⟩ ∧ g < B ∧ w.cell? ⟨g, o + k * 4, none⟩ = some (.int .i64 x.k) ∧ w.cell? ⟨g, o + k * 4 + 1, none⟩ = some (.int .i64 x.i) ∧ w.cell? ⟨g, o + k * 4 + 2, none⟩ = some (.string x.s) ∧ w.cell? ⟨g, o + k * 4 + 3, none⟩ = some (.bool x.b) := by
  obtain ⟨A', c', e, _, _, h3⟩ := h
  injection e with e1 _ e3
  subst e1 e3
  obtain ⟨hk, rfl⟩ := List.getElem?_eq_some_iff.1 hx
  obtain ⟨g, o, e, hg, hc⟩ := h3 k hk
  exact ⟨g, o, e, hg, hc 0 _ rfl, hc 1 _ rfl, hc 2 _ rfl, hc 3 _ rfl⟩
theorem vl_n {w : World} {B : Nat} {A : Option Addr} {n c : Nat} {L : List VV} (h : VL w B (.slice A n c) L) : L.length = n ∧ n ≤ c ∧ c ≤ 9223372036854775807 := by
  obtain ⟨A', c', e, h1, h2, _⟩ := h
  injection e with _ e2 e3
  subst e2 e3
  exact ⟨rfl, h1, h2⟩
set_option maxHeartbeats 4000000 in
theorem eq_gen (A B : Option Addr) (n m c d : Nat) (L M : List VV) (w : World) (h : VL w w.heap.size (.slice A n c) L) (g : VL w w.heap.size (.slice B m d) M) :
    Calls Tryd.prog 39 #[.slice A n c, .slice B m d] w fun e w' => e = .returned (.bool (eqVs L M)) ∧ Below w.heap.size w w' := by
  have H := Lib.hid h
  have G := Lib.hid g
  obtain ⟨hn, hnc, hc9⟩ := vl_n h
  obtain ⟨hm, hmd, hd9⟩ := vl_n g
  have HN := Lib.hid hn
  have HM := Lib.hid hm
  clear h g
  by_cases hnm : n = m
  · subst hnm
    clear hn hm
    go_enter Tryd.func39, Tryd.ntmps39
    go_wp2
    go_loopw [13] (fun v wr => ∃ k : Nat, k ≤ n ∧ v = .int .i64 k ∧ Hid (Below w.heap.size w wr) ∧ Hid (eqVs L M = eqVs (L.drop k) (M.drop k))) (fun v _ => n - (intOf v).toNat)
    case atStart => exact ⟨0, by omega, rfl, Below.refl _ _, Lib.hid rfl⟩
    case round =>
      obtain ⟨k, hk, rfl, hb, HI⟩ := hrel
      by_cases hlt : k < n
      · have hki : (k : Int) < (n : Int) := by omega
        have hkL : k < L.length := by rw [HN.out]; exact hlt
        have hkM : k < M.length := by rw [HM.out]; exact hlt
        obtain ⟨x, hx⟩ : ∃ x, L[k]? = some x := ⟨L[k], List.getElem?_eq_getElem hkL⟩
        obtain ⟨y, hy⟩ : ∃ y, M[k]? = some y := ⟨M[k], List.getElem?_eq_getElem hkM⟩
        obtain ⟨g1, o1, rfl, _, p0, p1, p2, p3⟩ := vl_at (H.out.below hb.out hb.out.size) hx
        obtain ⟨g2, o2, rfl, _, q0, q1, q2, q3⟩ := vl_at (G.out.below hb.out hb.out.size) hy
        have HX := Lib.hid hx
        have HY := Lib.hid hy
        obtain ⟨xk, xi, xs, xb⟩ := x
        obtain ⟨yk, yi, ys, yb⟩ := y
        dsimp only at p0 p1 p2 p3 q0 q1 q2 q3
        obtain ⟨b0, h0⟩ : ∃ b, (xk == yk) = b := ⟨_, rfl⟩
        obtain ⟨b1, h1⟩ : ∃ b, (xi == yi) = b := ⟨_, rfl⟩
        obtain ⟨b2, h2⟩ : ∃ b, (xs.toList == ys.toList) = b := ⟨_, rfl⟩
        obtain ⟨b3, h3⟩ : ∃ b, (xb == yb) = b := ⟨_, rfl⟩
        clear hx hy hkL hkM
        cases b0 with
        | false =>
          have HNO := Lib.hid (show eqVs L M = false from by rw [HI.out, eqVs_step HX.out HY.out]; simp [eqV, h0])
          go_upto_region 6 with fail
          go_quiet (fail)
          go_wp2
          go_ret
          exact ⟨by rw [HNO.out]; rfl, by first | exact hb.out | exact below_drewN hb.out _⟩
        | true =>
          cases b1 with
          | false =>
            have HNO := Lib.hid (show eqVs L M = false from by rw [HI.out, eqVs_step HX.out HY.out]; simp [eqV, h0, h1])
            go_upto_region 6 with fail
            go_quiet (fail)
            go_wp2
            go_ret
            exact ⟨by rw [HNO.out]; rfl, by first | exact hb.out | exact below_drewN hb.out _⟩
          | true =>
            cases b2 with
            | false =>
              have HNO := Lib.hid (show eqVs L M = false from by rw [HI.out, eqVs_step HX.out HY.out]; simp [eqV, h0, h1, h2])
              go_upto_region 6 with fail
              go_quiet (fail)
              go_wp2
              go_ret
              exact ⟨by rw [HNO.out]; rfl, by first | exact hb.out | exact below_drewN hb.out _⟩
            | true =>
              cases b3 with
              | false =>
                have HNO := Lib.hid (show eqVs L M = false from by rw [HI.out, eqVs_step HX.out HY.out]; simp [eqV, h0, h1, h2, h3])
                go_upto_region 6 with fail
                go_quiet (fail)
                go_wp2
                go_ret
                exact ⟨by rw [HNO.out]; rfl, by first | exact hb.out | exact below_drewN hb.out _⟩
              | true =>
                have HYES := Lib.hid (show eqVs L M = eqVs (L.drop (k + 1)) (M.drop (k + 1)) from by rw [HI.out, eqVs_step HX.out HY.out]; simp [eqV, h0, h1, h2, h3])
                
                go_upto_region 6 with fail
                go_quiet (fail)
                go_wp2
                go_roundw
                case rel => exact ⟨k + 1, by omega, by go_num, by first | exact hb.out | exact below_drewN hb.out _, Lib.hid HYES.out⟩
                case measure => simp [intOf]; omega
      · have hki : ¬ (k : Int) < (n : Int) := by omega
        have HE := Lib.hid (HI.out.trans (eqVs_end (by rw [HN.out]; omega) (by rw [HM.out]; omega)))
        go_wp2
        go_ret
        exact ⟨by rw [HE.out]; rfl, hb.out⟩
  · have hni : ((n : Int) == (m : Int)) = false := by simp; omega
    have hnn : decide ((n : Int) = (m : Int)) = false := by simp; omega
    have HE := Lib.hid (eqVs_len (L := L) (M := M) (by rw [HN.out, HM.out]; exact hnm))
    clear hnm hn hm
    go_enter Tryd.func39, Tryd.ntmps39
    go_wp2
    go_ret
    exact ⟨by rw [HE.out]; rfl, Below.refl _ _⟩
end Go.Proofs.YtookojgemipakaaDoor.E6
