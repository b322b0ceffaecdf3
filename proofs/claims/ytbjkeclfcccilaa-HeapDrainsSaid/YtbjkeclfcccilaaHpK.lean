/- A heap in memory: the least is taken away. -/
import Derived.Test.YtbjkeclfcccilaaHpG
import Derived.Test.YtbjkeclfcccilaaHpI
import Derived.Test.YtbjkeclfcccilaaApp2
import Derived.Deep.RegionLaw
import Derived.Lib.SliceRun
namespace Go.Proofs.Ytbjkeclfcccilaa.Hp
open Go.RowKit Go.Proofs.Ytbjkeclfcccilaa
set_option linter.unusedVariables false
set_option maxRecDepth 100000
theorem clear3 {P : Program} (w : World) (t e ty : TypeId) (z : Value) (ht : P.underlying t = some (.slice e)) (hv : ∀ w, (zeroValue e).run P w = .ok z w) (x y u : Value) (hz : z.cells = #[x, y, u]) (h1 : x.oneCell' = true ∧ y.oneCell' = true ∧ u.oneCell' = true)
    (b o c : Nat) (hc : ∀ j, j < 3 → (w.cell? ⟨b, o + j, none⟩).isSome = true) (hf : ∀ j, j < 3 → w.frozen? ⟨b, o + j, none⟩ = false) :
    (Builtin.clear_ #[t] ty #[.slice (some ⟨b, o, none⟩) 1 c]).run P w = .ok (.tuple #[]) (((w.setCell ⟨b, o, none⟩ x).setCell ⟨b, o + 1, none⟩ y).setCell ⟨b, o + 1 + 1, none⟩ u) := by
  have hzc : (Builtin.zeroCells z.cells 1).toList = [x, y, u] := by
    rw [hz]
    apply List.ext_getElem
    · simp [Builtin.zeroCells]
    · intro i h1 h2
      have hi : i < 3 := by simpa using h2
      match i, hi with
      | 0, _ => simp [Builtin.zeroCells]
      | 1, _ => simp [Builtin.zeroCells]
      | 2, _ => simp [Builtin.zeroCells]
  have hst := run_storeCells_cells (P := P) b o [x, y, u] 0 w (by simpa using hc) (by simpa using hf) (by intro v hv'; simp at hv'; rcases hv' with rfl | rfl | rfl; exact h1.1; exact h1.2.1; exact h1.2.2)
  simp only [Nat.add_zero] at hst
  have e : w.setCells b o [x, y, u] = ((w.setCell ⟨b, o, none⟩ x).setCell ⟨b, o + 1, none⟩ y).setCell ⟨b, o + 1 + 1, none⟩ u := rfl
  rw [e] at hst
  simp [Builtin.clear_, run_underlying ht, hv, hzc, hst]
theorem hcells_take : ∀ (n : Nat) (xs : List St), (hcells xs).take (n * 3) = hcells (xs.take n)
  | 0, xs => by simp [hcells]
  | n + 1, [] => by simp [hcells]
  | n + 1, x :: r => by
    show (x.cells ++ hcells r).take ((n + 1) * 3) = x.cells ++ hcells (r.take n)
    have hl : x.cells.length = 3 := rfl
    rw [← hcells_take n r, show (n + 1) * 3 = x.cells.length + n * 3 from by omega, List.take_length_add_append]
theorem Hm.cutTo {w : World} {b g o cap n : Nat} {xs : List St} (h : Hm w b (.slice (some ⟨g, o, none⟩) (n + 1 : Nat) cap) (some g) xs) (hl : xs.length = n + 1) :
    Hm (w.setCell ⟨b, 0, none⟩ (.slice (some ⟨g, o, none⟩) n cap)) b (.slice (some ⟨g, o, none⟩) n cap) (some g) (xs.take n) := by
  obtain ⟨c, hr⟩ := seg_row h.seg
  have hne : b ≠ g := row_ne h.row hr (by decide)
  have hs := h.seg
  rw [hl] at hs
  have h1 := Seg.head hs (k := n) (by omega)
  rw [hcells_take] at h1
  have hlt : (xs.take n).length = n := by rw [List.length_take]; omega
  refine ⟨by simpa using h.row.put 0 (.slice (some ⟨g, o, none⟩) n cap), ?_⟩
  rw [hlt]
  exact h1.past (p := ⟨b, 0, none⟩) (fun e => by injection e with e; exact hne e.symm) _
theorem lesser_zero (b : Nat) (v : Value) (ob : Option Nat) (w : World) (h : Hm w b v ob []) :
    Calls Try.prog 23 #[.pointer (some ⟨b, 0, none⟩), .int .i64 0] w fun e w' => e = .returned (.int .i64 (-1)) ∧ w = w' := by
  have c0 : w.cell? ⟨b, 0, none⟩ = some v := (h.row.cell 0).trans rfl
  obtain ⟨A, c, rfl, h1, h2⟩ := h.seg.form
  have h3 : c ≤ 9223372036854775807 := by unfold maxLen at h2; omega
  have e0 : ([] : List St).length = 0 := rfl
  rw [e0] at c0
  clear h h2
  go_enter Try.func23, Try.ntmps23
  go_wp2
  go_ret
  exact ⟨rfl, rfl⟩
set_option maxHeartbeats 1000000 in
theorem sink0_any (b g o cap n : Nat) (xs : List St) (w : World) (h : Hm w b (.slice (some ⟨g, o, none⟩) n cap) (some g) xs) (hn : xs.length = n) (h64 : n ≤ 65536) :
    Calls Try.prog 22 #[.pointer (some ⟨b, 0, none⟩), .int .i64 0] w fun e w' => e = .returned (.tuple #[]) ∧ Rz w w' b g o cap n (sink xs 0) := by
  rcases Nat.eq_zero_or_pos n with rfl | hp
  · obtain rfl : xs = [] := List.eq_nil_of_length_eq_zero hn
    have HM := Lib.hid h
    clear h
    go_enter Try.func22, Try.ntmps22
    go_wp2
    go_loopw [1, 4] (fun v1 s4 wx => v1 = .int .i64 0 ∧ w = wx) (fun v1 _ _ => 0)
    case atStart => exact ⟨rfl, rfl⟩
    case round =>
      obtain ⟨rfl, rfl⟩ := hrel
      go_wp2_with fail
      refine (lesser_zero b _ _ _ HM.out).mono ?_
      rintro e w1 ⟨rfl, rfl⟩
      go_upto_region 1 with fail
      go_quiet (fail)
      go_wp2
      refine bodyPost_ret (results_none rfl _ _ _) rfl ?_
      have e : sink [] 0 = [] := by unfold sink; rfl
      rw [e]
      exact ⟨rfl, HM.out.call (below_drewN (Below.refl _ _) _), rfl, (Turns.refl w _).drewN _⟩
  · exact sink_any b g o cap n xs 0 w h hn hp h64
theorem zero_stamp (w : World) : (zeroValue 28).run Try.prog w = .ok (.agg #[.int .i64 0, .int .i64 0, .int .i64 0]) w := by
  kernel_rfl
set_option maxHeartbeats 2000000 in
theorem drop_any (b g o cap n : Nat) (xs : List St) (w : World) (h : Hm w b (.slice (some ⟨g, o, none⟩) (n + 1) cap) (some g) xs) (hn : xs.length = n + 1) (h64 : n + 1 ≤ 65536) :
    Calls Try.prog 17 #[.pointer (some ⟨b, 0, none⟩)] w fun e w' => e = .returned (.tuple #[]) ∧ Hm w' b (.slice (some ⟨g, o, none⟩) n cap) (some g) (drop1 xs) ∧ Turns w w' (fun k => k = b ∨ k = g) := by
  have hm := h
  rw [← hn] at hm
  obtain ⟨g', o', cap', e, hob, hg, h1, h2, hcl, hfz⟩ := hm.at (i := 0) (by omega)
  injection e with e1 e2 e3
  injection e1 with e1
  injection e1 with e1 e4
  subst e1 e4 e3
  clear e2 hob
  rw [hn] at h1
  have c0 : w.cell? ⟨b, 0, none⟩ = some (.slice (some ⟨g, o, none⟩) (n + 1 : Nat) cap) := (h.row.cell 0).trans rfl
  have b0 : w.frozen? ⟨b, 0, none⟩ = false := h.row.free 0
  have hbV : b < w.heap.size := h.row.lt
  obtain ⟨c, hr⟩ := seg_row h.seg
  have hne : b ≠ g := row_ne h.row hr (by decide)
  have hne2 : g ≠ b := fun e => hne e.symm
  obtain ⟨i0, i1, i2⟩ := hcl 0 (by omega)
  obtain ⟨j0, j1, j2⟩ := hcl n (by omega)
  obtain ⟨y, hy⟩ : ∃ y, gt xs n = y := ⟨_, rfl⟩
  rw [hy] at j0 j1 j2
  have z0 := hfz o
  have z1 := hfz (o + 1)
  have z2 := hfz (o + 2)
  simp only [Nat.zero_mul, Nat.add_zero] at i0 i1 i2
  have hw1 : ((n + 1 : Nat) : Int) - 1 = (n : Int) := by omega
  have hni : (n : Int) < ((n + 1 : Nat) : Int) := by omega
  have h0i : (0 : Int) < ((n + 1 : Nat) : Int) := by omega
  have HH := Lib.hid h
  have HN := Lib.hid hn
  have HY := Lib.hid hy
  have HC := Lib.hid hcl
  have HF := Lib.hid hfz
  clear h hm hn hy hcl hfz hr
  go_enter Try.func17, Try.ntmps17
  go_upto_region 1 with fail
  go_region
  all_goals
    go_wp2_with fail
    have hp := HH.out
    rw [← HN.out] at hp
    have hm1 := Hm.put hp 0 (by rw [HN.out]; omega) y
    simp only [Nat.zero_mul, Nat.add_zero] at hm1
    have HM1 := Lib.hid (hm1.call (below_drewN (Below.refl _ _) 1))
    have HT1 : Hid (Turns w _ (fun k => k = b ∨ k = g)) := Lib.hid (((((Turns.refl w (fun k => k = b ∨ k = g)).put g o (.int .i64 y.t) (fun _ => Or.inr rfl)).put g (o + 1) (.int .i64 y.q) (fun _ => Or.inr rfl)).put g (o + 2) (.int .i64 y.a) (fun _ => Or.inr rfl)).drewN 1)
    clear hp hm1 i0 i1 i2 j0 j1 j2 z0 z1 z2 c0 b0
    have hdr : ∀ X : World, X.drew = X.drewN 1 := fun _ => rfl
    rw [hdr]
    generalize World.drewN (((w.setCell ⟨g, o, none⟩ (.int .i64 y.t)).setCell ⟨g, o + 1, none⟩ (.int .i64 y.q)).setCell ⟨g, o + 2, none⟩ (.int .i64 y.a)) 1 = W1 at HM1 HT1 ⊢
    have hl1 : (xs.set 0 y).length = n + 1 := by rw [List.length_set]; exact HN.out
    have hm1 := HM1.out
    obtain ⟨g', o', cap', e, hob, hg1, h11, h12, hcl, hfz⟩ := hm1.at (i := 0) (by omega)
    injection e with e1 e2 e3
    injection e1 with e1
    injection e1 with e1 e4
    subst e1 e4 e3
    clear e2 hob
    have hcr := clear3 (P := Try.prog) W1 24 28 0 _ Try.underlying24 zero_stamp _ _ _ rfl ⟨rfl, rfl, rfl⟩ g (o + n * 3) (cap - n)
      (fun j hj => by
        obtain ⟨a0, a1, a2⟩ := hcl n (by omega)
        match j, hj with
        | 0, _ => exact Option.isSome_iff_exists.2 ⟨_, a0⟩
        | 1, _ => exact Option.isSome_iff_exists.2 ⟨_, a1⟩
        | 2, _ => exact Option.isSome_iff_exists.2 ⟨_, a2⟩)
      (fun j _ => by rw [Nat.add_assoc]; exact hfz _)
    rw [hcr]
    have hm2 := hm1.put n (by omega) z
    have e2 : o + n * 3 + 1 + 1 = o + n * 3 + 2 := rfl
    rw [e2]
    have ez : (Value.int .i64 z.t, Value.int .i64 z.q, Value.int .i64 z.a) = (Value.int .i64 0, Value.int .i64 0, Value.int .i64 0) := rfl
    have ez1 : Value.int .i64 z.t = Value.int .i64 0 := rfl
    have ez2 : Value.int .i64 z.q = Value.int .i64 0 := rfl
    have ez3 : Value.int .i64 z.a = Value.int .i64 0 := rfl
    rw [ez1, ez2, ez3] at hm2
    have HT2 : Hid (Turns w (((W1.setCell ⟨g, o + n * 3, none⟩ (.int .i64 0)).setCell ⟨g, o + n * 3 + 1, none⟩ (.int .i64 0)).setCell ⟨g, o + n * 3 + 2, none⟩ (.int .i64 0)) (fun k => k = b ∨ k = g)) :=
      Lib.hid (((HT1.out.put g _ _ (fun _ => Or.inr rfl)).put g _ _ (fun _ => Or.inr rfl)).put g _ _ (fun _ => Or.inr rfl))
    have hl2 : ((xs.set 0 y).set n z).length = n + 1 := by rw [List.length_set]; exact hl1
    rw [hl2] at hm2
    have HM2 := Lib.hid hm2
    clear hm1 hm2 hcr hcl hfz HM1 HT1 ez ez1 ez2 ez3 hg1 h11 h12
    generalize ((W1.setCell ⟨g, o + n * 3, none⟩ (.int .i64 0)).setCell ⟨g, o + n * 3 + 1, none⟩ (.int .i64 0)).setCell ⟨g, o + n * 3 + 2, none⟩ (.int .i64 0) = W2 at HM2 HT2 ⊢
    have c2 : W2.cell? ⟨b, 0, none⟩ = some (.slice (some ⟨g, o, none⟩) (n + 1 : Nat) cap) := (HM2.out.row.cell 0).trans rfl
    have b2 : W2.frozen? ⟨b, 0, none⟩ = false := HM2.out.row.free 0
    have hcut : ((xs.set 0 y).set n z).take n = cutTop xs := by
      unfold cutTop
      have e : xs.length - 1 = n := by rw [HN.out]; rfl
      rw [e, HY.out, List.take_set_of_le (Nat.le_refl n)]
    have HCUT := Lib.hid hcut
    clear hcut hl1 hl2
    go_wp2_with fail
    have hm3 := HM2.out.cutTo (by rw [List.length_set, List.length_set]; exact HN.out)
    rw [HCUT.out] at hm3
    refine (sink0_any b g o cap n (cutTop xs) _ hm3 (by rw [cutTop_len, HN.out]; rfl) (by omega)).mono ?_
    rintro e w4 ⟨rfl, hz4⟩
    have HZ4 := Lib.hid hz4
    clear hz4 hm3 c2 b2
    go_wp2
    go_end0
    exact ⟨rfl, HZ4.out.hm, (HT2.out.put b 0 _ (fun _ => Or.inl rfl)).trans HZ4.out.tr (fun k _ e => Or.inr e)⟩
end Go.Proofs.Ytbjkeclfcccilaa.Hp
