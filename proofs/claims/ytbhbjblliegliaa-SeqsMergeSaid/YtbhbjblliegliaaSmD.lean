/- Does a list of stamps rise? (written by gen_smd) -/
import Derived.Test.YtbhbjblliegliaaSmC
namespace Go.Proofs.Ytbhbjblliegliaa.Sm
open Go.RowKit Go.Proofs.Ytbhbjblliegliaa Go.Proofs.Ytbhbjblliegliaa.Hp
set_option linter.unusedVariables false
set_option maxRecDepth 100000
/-- No thing is ahead of the one ahead of it. -/
def Up (L : List St) : Prop := ∀ (i : Nat) (x y : St), L[i + 1]? = some x → L[i]? = some y → ¬ lt x y
set_option maxHeartbeats 4000000 in
theorem rises_any (v : Value) (L : List St) (w : World) (h : LS w w.heap.size v L) (hl : L.length ≤ 100) :
    Calls Try.prog 23 #[v] w fun e w' => ∃ b : Bool, e = .returned (.bool b) ∧ (b = true ↔ Up L) ∧ Below w.heap.size w w' := by
  obtain ⟨A, c, rfl, hc, hc9, h3⟩ := h
  obtain ⟨n, hn⟩ : ∃ n, L.length = n := ⟨_, rfl⟩
  have H3 := Lib.hid h3
  have HN := Lib.hid hn
  rw [hn] at hc hl ⊢
  clear h3 hn
  go_enter Try.func23, Try.ntmps23
  go_wp2
  go_loopw [3] (fun s wr => ∃ i : Nat, 1 ≤ i ∧ i ≤ n + 1 ∧ s = .int .i64 i ∧ Hid ((∀ (j : Nat) (x y : St), j + 1 < i → L[j + 1]? = some x → L[j]? = some y → ¬ lt x y) ∧ Below w.heap.size w wr)) (fun s _ => n + 1 - (intOf s).toNat)
  case atStart => exact ⟨1, by omega, by omega, rfl, Lib.hid ⟨fun j x y h _ _ => by omega, Below.refl _ _⟩⟩
  case round =>
    obtain ⟨i, hi1, hin, rfl, hrel⟩ := hrel
    by_cases hlt : i < n
    · have hiz : (i : Int) < (n : Int) := by omega
      obtain ⟨p, hp⟩ : ∃ p, p + 1 = i := ⟨i - 1, by omega⟩
      have hpn : p < n := by omega
      have hpz : (p : Int) < (n : Int) := by omega
      have hpw : IntKind.i64.wrap ((i : Int) - 1) = (p : Int) := by rw [IntKind.wrap_i64]; omega
      have hiw : IntKind.i64.wrap ((i : Int) + 1) = (i : Int) + 1 := by rw [IntKind.wrap_i64]; omega
      have hiL : i < L.length := by rw [HN.out]; exact hlt
      have hpL : p < L.length := by rw [HN.out]; exact hpn
      obtain ⟨x, hx⟩ : ∃ x, L[i] = x := ⟨_, rfl⟩
      obtain ⟨y, hy⟩ : ∃ y, L[p] = y := ⟨_, rfl⟩
      obtain ⟨g, o, e, hg, i0, i1, i2⟩ := H3.out i hiL
      subst e
      obtain ⟨g', o', e, _, j0, j1, j2⟩ := H3.out p hpL
      injection e with e
      injection e with e1 e2
      subst e1 e2
      rw [hx] at i0 i1 i2
      rw [hy] at j0 j1 j2
      have HX : Hid (L[p + 1]? = some x) := Lib.hid (by rw [hp, ← hx]; exact List.getElem?_eq_getElem hiL)
      have HY : Hid (L[p]? = some y) := Lib.hid (by rw [← hy]; exact List.getElem?_eq_getElem hpL)
      have HP := Lib.hid hp
      have HW := hrel.out.2
      have k0 := (HW.cell (p := ⟨g, o + i * 3, none⟩) hg).trans i0
      have k1 := (HW.cell (p := ⟨g, o + i * 3 + 1, none⟩) hg).trans i1
      have k2 := (HW.cell (p := ⟨g, o + i * 3 + 2, none⟩) hg).trans i2
      have l0 := (HW.cell (p := ⟨g, o + p * 3, none⟩) hg).trans j0
      have l1 := (HW.cell (p := ⟨g, o + p * 3 + 1, none⟩) hg).trans j1
      have l2 := (HW.cell (p := ⟨g, o + p * 3 + 2, none⟩) hg).trans j2
      have hgr : g < wr.heap.size := Nat.lt_of_lt_of_le hg HW.size
      have HS6 : Hid (∀ V : World, Below wr.heap.size wr V → V.cell? ⟨g, o + i * 3, none⟩ = some (.int .i64 x.t) ∧ V.cell? ⟨g, o + i * 3 + 1, none⟩ = some (.int .i64 x.q) ∧ V.cell? ⟨g, o + i * 3 + 2, none⟩ = some (.int .i64 x.a) ∧ V.cell? ⟨g, o + p * 3, none⟩ = some (.int .i64 y.t) ∧ V.cell? ⟨g, o + p * 3 + 1, none⟩ = some (.int .i64 y.q) ∧ V.cell? ⟨g, o + p * 3 + 2, none⟩ = some (.int .i64 y.a)) := Lib.hid (fun V hV => ⟨(hV.cell (p := ⟨g, o + i * 3, none⟩) hgr).trans k0, (hV.cell (p := ⟨g, o + i * 3 + 1, none⟩) hgr).trans k1, (hV.cell (p := ⟨g, o + i * 3 + 2, none⟩) hgr).trans k2, (hV.cell (p := ⟨g, o + p * 3, none⟩) hgr).trans l0, (hV.cell (p := ⟨g, o + p * 3 + 1, none⟩) hgr).trans l1, (hV.cell (p := ⟨g, o + p * 3 + 2, none⟩) hgr).trans l2⟩)
      have HBW : Hid (Below wr.heap.size wr wr.drew) := Lib.hid (Below.refl _ wr).drew
      obtain ⟨lb, hlb⟩ : ∃ lb, decide (lt x y) = lb := ⟨_, rfl⟩
      have HLB := Lib.hid hlb
      clear hx hy hiL hpL hp HW i0 i1 i2 j0 j1 j2 hlb
      go_upto_region 4 with fail
      go_region_held3 (fun X => X.cell? ⟨g, o + i * 3, none⟩ = some (.int .i64 x.t) ∧ X.cell? ⟨g, o + i * 3 + 1, none⟩ = some (.int .i64 x.q) ∧ X.cell? ⟨g, o + i * 3 + 2, none⟩ = some (.int .i64 x.a) ∧ X.cell? ⟨g, o + p * 3, none⟩ = some (.int .i64 y.t) ∧ X.cell? ⟨g, o + p * 3 + 1, none⟩ = some (.int .i64 y.q) ∧ X.cell? ⟨g, o + p * 3 + 2, none⟩ = some (.int .i64 y.a))
        (first
          | with_reducible exact ⟨k0, k1, k2, l0, l1, l2⟩
          | with_reducible exact HS6.out _ HBW.out
          | fail)
        ((first
          | (go_at_call 59
             (with_reducible refine (less_any x y _).mono ?_)
             rintro e w3 ⟨rfl, hb⟩
             rw [HLB.out]
             have h3 := HBW.out.trans (hb.mono HBW.out.size)
             have HBW := Lib.hid h3
             clear hb h3)
          | fail))
      have HB3 := Lib.hid (hrel.out.2.trans (HBW.out.mono hrel.out.2.size))
      cases lb with
      | true =>
        go_wp2
        go_ret
        refine ⟨false, rfl, ⟨fun h => (Bool.false_ne_true h).elim, fun h => ?_⟩, HB3.out⟩
        exact absurd (of_decide_eq_true HLB.out) (h p x y HX.out HY.out)
      | false =>
        go_wp2
        go_roundw
        case rel => exact ⟨i + 1, by omega, by omega, by go_num, Lib.hid ⟨fun j x' y' h h1 h2 => by
          by_cases e : j = p
          · subst e
            rw [HX.out] at h1
            rw [HY.out] at h2
            injection h1 with h1
            injection h2 with h2
            subst h1 h2
            exact of_decide_eq_false HLB.out
          · exact hrel.out.1 j x' y' (by have := HP.out; omega) h1 h2, HB3.out⟩⟩
        case measure => simp [intOf]; omega
    · go_wp2
      go_ret
      exact ⟨true, rfl, ⟨fun _ j x y h1 h2 => hrel.out.1 j x y (by have := HN.out; have := (List.getElem?_eq_some_iff.1 h1).1; omega) h1 h2, fun _ => rfl⟩, hrel.out.2⟩
end Go.Proofs.Ytbhbjblliegliaa.Sm
