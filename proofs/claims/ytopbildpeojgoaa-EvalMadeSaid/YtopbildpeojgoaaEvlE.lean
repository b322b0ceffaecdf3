/- A part that compares two values. -/
import Derived.Test.YtopbildpeojgoaaEvlD
import Derived.Deep.RegionLaw
namespace Go.Proofs.Ytopbildpeojgoaa.Evl
open Go.RowKit Go.Proofs.Ytopbildpeojgoaa Go.Proofs.Ytopbildpeojgoaa.Ev Go.Proofs.Ytopbildpeojgoaa.Sch Go.Proofs.Ytopbildpeojgoaa.Ty Go.Proofs.Ytopbildpeojgoaa.Num
set_option linter.unusedVariables false
set_option maxRecDepth 100000
set_option maxHeartbeats 4000000 in
theorem part_cmp (s en v : Value) (o : Int) (h1 : 7 ≤ o) (h2 : o ≤ 12) (a b : VV) (w : World) (hv : VL w w.heap.size v [a, b]) : Calls Try.prog 93 #[s, en, .agg #[.int .i64 o, .int .i64 0, .int .i64 0, .string ⟨#[]⟩, .bool false, .string ⟨#[]⟩, .string ⟨#[]⟩], v] w (RPost w (opM o [a, b])) := by
  have hX : Below w.heap.size w ((w.alloc (.cells #[.int .i64 o, .int .i64 0, .int .i64 0, .string ⟨#[]⟩, .bool false, .string ⟨#[]⟩, .string ⟨#[]⟩] 86)).alloc (.cells #[.int .i64 0, .int .i64 0, .string ⟨#[]⟩, .bool false] 57)) := ((Below.refl _ w).alloc (Nat.le_refl _) _).alloc (by simp) _
  have HX := Lib.hid hX
  have HC := Lib.hid (fun X => compared_any o h1 h2 a b X)
  have HZ : Hid (∀ X, Below ((w.alloc (.cells #[.int .i64 o, .int .i64 0, .int .i64 0, .string ⟨#[]⟩, .bool false, .string ⟨#[]⟩, .string ⟨#[]⟩] 86)).alloc (.cells #[.int .i64 0, .int .i64 0, .string ⟨#[]⟩, .bool false] 57)).heap.size ((w.alloc (.cells #[.int .i64 o, .int .i64 0, .int .i64 0, .string ⟨#[]⟩, .bool false, .string ⟨#[]⟩, .string ⟨#[]⟩] 86)).alloc (.cells #[.int .i64 0, .int .i64 0, .string ⟨#[]⟩, .bool false] 57)) X → Rz X (w.heap.size + 1)) := Lib.hid (fun X h => res_any (h.mono (by simp)))
  have hrow : Row ((w.alloc (.cells #[.int .i64 o, .int .i64 0, .int .i64 0, .string ⟨#[]⟩, .bool false, .string ⟨#[]⟩, .string ⟨#[]⟩] 86)).alloc (.cells #[.int .i64 0, .int .i64 0, .string ⟨#[]⟩, .bool false] 57)) w.heap.size 86 #[.int .i64 o, .int .i64 0, .int .i64 0, .string ⟨#[]⟩, .bool false, .string ⟨#[]⟩, .string ⟨#[]⟩] := (Row.made w _ _).alloc _
  obtain ⟨r, hr⟩ : ∃ r, opM o [a, b] = r := ⟨_, rfl⟩
  rw [hr] at HC ⊢
  obtain ⟨⟨rk, ri, rs, rb⟩, hq⟩ : ∃ x, r.getD zeroV = x := ⟨_, rfl⟩
  obtain ⟨ro, hro⟩ : ∃ x, r.isSome = x := ⟨_, rfl⟩
  have HR : Hid (∀ X, Below w.heap.size w X → RPost w r (.returned (.tuple #[.agg #[.int .i64 rk, .int .i64 ri, .string rs, .bool rb], .bool ro])) X) := Lib.hid (fun X h => ⟨by rw [hq, hro]; rfl, h⟩)
  unfold RPost at HC
  rw [hq, hro] at HC
  obtain ⟨g, og, c, rfl, hc1, hc2, hg, c0, c1, c2, c3, d0, d1, d2, d3⟩ := hv.two
  have HRow := Lib.hid hrow
  obtain ⟨ak, ai, sa, ab⟩ := a
  obtain ⟨bk, bi, sb, bb⟩ := b
  dsimp only at c0 c1 c2 c3 d0 d1 d2 d3 HC
  have k0 := (HX.out.cell (p := ⟨g, og, none⟩) hg).trans c0
  have k1 := (HX.out.cell (p := ⟨g, og + 1, none⟩) hg).trans c1
  have k2 := (HX.out.cell (p := ⟨g, og + 2, none⟩) hg).trans c2
  have k3 := (HX.out.cell (p := ⟨g, og + 3, none⟩) hg).trans c3
  have j0 := (HX.out.cell (p := ⟨g, og + 4, none⟩) hg).trans d0
  have j1 := (HX.out.cell (p := ⟨g, og + 4 + 1, none⟩) hg).trans d1
  have j2 := (HX.out.cell (p := ⟨g, og + 4 + 2, none⟩) hg).trans d2
  have j3 := (HX.out.cell (p := ⟨g, og + 4 + 3, none⟩) hg).trans d3
  have K0 := Lib.hid k0
  have K1 := Lib.hid k1
  have K2 := Lib.hid k2
  have K3 := Lib.hid k3
  have J0 := Lib.hid j0
  have J1 := Lib.hid j1
  have J2 := Lib.hid j2
  have J3 := Lib.hid j3
  have t1 : (o == 1) = false := by simp; omega
  have t2 : (o == 2) = false := by simp; omega
  have t3 : (o == 3) = false := by simp; omega
  have t4 : (o == 4) = false := by simp; omega
  have t5 : (o == 5) = false := by simp; omega
  have t6 : (o == 6) = false := by simp; omega
  have t13 : (o == 13) = false := by simp; omega
  have t14 : (o == 14) = false := by simp; omega
  have t15 : (o == 15) = false := by simp; omega
  clear hX hr hq hro hv c0 c1 c2 c3 d0 d1 d2 d3 k0 k1 k2 k3 j0 j1 j2 j3 h1 h2 hrow
  go_enter Try.func93, Try.ntmps93
  go_upto_region 15 with fail
  generalize hW : (w.alloc (.cells _ 86)).alloc (.cells _ 57) = W at HX HZ HRow K0 K1 K2 K3 J0 J1 J2 J3 ⊢
  have e0 : W.cell? ⟨w.heap.size, 0, none⟩ = some (.int .i64 _) := (HRow.out.cell 0).trans rfl
  have k0 := K0.out
  have k1 := K1.out
  have k2 := K2.out
  have k3 := K3.out
  have j0 := J0.out
  have j1 := J1.out
  have j2 := J2.out
  have j3 := J3.out
  clear hW
  go_region_law (
    (go_simp
     go_at_call 155
     refine (HC.out _).mono ?_
     rintro e w1 ⟨rfl, hb1⟩
     have HB := Lib.hid (HX.out.trans ((show Below W.heap.size W _ from by go_grown).trans (hb1.mono (show Below W.heap.size W _ from by go_grown).size) |>.mono HX.out.size))
     have HZ1 : Hid (Rz w1 (w.heap.size + 1)) := Lib.hid (HZ.out _ ((show Below W.heap.size W _ from by go_grown).trans (hb1.mono (show Below W.heap.size W _ from by go_grown).size)))
     obtain ⟨hlt1, p10, p11, p12, p13, f10, f11, f12, f13⟩ := HZ1.out.facts
     unfold VV.agg
     dsimp only
     clear hb1))
  all_goals
    go_wp2
    obtain ⟨k0, k1, k2, k3⟩ := four (put4 HZ1.out (.int .i64 rk) (.int .i64 ri) (.string rs) (.bool rb))
    exact bodyPost_ret (v := .tuple #[.agg #[.int .i64 rk, .int .i64 ri, .string rs, .bool rb], .bool ro]) (by simp [results, Try.results93, go_sem, k0, k1, k2, k3]; try rfl) rfl (HR.out _ (below4 HB.out (w.heap.size + 1) (by omega) _ _ _ _))
end Go.Proofs.Ytopbildpeojgoaa.Evl
