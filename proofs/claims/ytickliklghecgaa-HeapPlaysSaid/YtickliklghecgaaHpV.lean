/- A heap in memory: All; a list of stamps copied; acts opened. -/
import Derived.Test.YtickliklghecgaaHpR
import Derived.Test.YtickliklghecgaaHpS
import Derived.Test.YtickliklghecgaaOpen2
import Derived.Test.YtickliklghecgaaOpen4
namespace Go.Proofs.Ytickliklghecgaa.Hp
open Go.RowKit Go.Proofs.Ytickliklghecgaa Go.Proofs.Ytickliklghecgaa.Mut Go.ChangeShapes Go.WideShapes
set_option linter.unusedVariables false
set_option maxRecDepth 100000
set_option maxHeartbeats 2000000 in
theorem clone_any (v : Value) (ob : Option Nat) (m : List St) (w : World) (h : Sl w v ob m) (h64 : m.length ≤ 65536) :
    Calls Try.prog 20 #[v] w fun e w' => ∃ v' ob', e = .returned v' ∧ Ml w w' v' ob' m := by
  have q22 : ∀ (w : World) (a : Option Addr) (n c n' c' : Nat), (binOp .eql 24 (.slice a n c) (.slice none n' c')).run Try.prog w = .ok (.bool a.isNone) w := fun w a n c n' c' => Lib.run_eql_slice_nil w _ _ a n c n' c' Try.underlying24
  obtain ⟨i0, hi0, hz0, hz1, hz2⟩ := info_parts stamp_info
  obtain ⟨A, cap, rfl, h1, h2⟩ := h.form
  have H := Lib.hid h
  have HE : Hid (A = none → m = []) := Lib.hid fun e => by
    subst e
    rcases Nat.eq_zero_or_pos m.length with h0 | h0
    · exact List.eq_nil_of_length_eq_zero h0
    · obtain ⟨g, o, c, e, _⟩ := h.at h0
      cases e
  obtain ⟨n, hn⟩ : ∃ n, m.length = n := ⟨_, rfl⟩
  have HN := Lib.hid hn
  have HS : Hid (Seg w 30 3 (.slice A n cap) n (hcells m) ob) := Lib.hid (by have := h; unfold Sl at this; rw [hn] at this; exact this)
  rw [hn] at h64 h1 ⊢
  clear h h2 hn
  cases A with
  | none =>
    have hm := HE.out rfl
    subst hm
    go_enter Try.func20, Try.ntmps20
    go_wp2
    go_ret
    exact ⟨_, rfl, none, empty_sl _ _, (fun _ e => by cases e), Below.refl _ _⟩
  | some a =>
    go_enter Try.func20, Try.ntmps20
    go_wp2_with (at_builtin; refine wpList_append_both (n := 0) (m := n) (xs := []) (ys := hcells m) rfl _ _ 24 rfl i0 _ 24 Try.underlying24 hi0 hz0 hz1 hz2 rfl (by decide) rfl (empty_sl _ _) rfl (HS.out.alloc _) (hcells_one _) (by unfold maxLen; omega) (by omega) ?_; intro v1 w1 ob1 hs1 ht1 ho1; obtain ⟨A1, c1, rfl, _⟩ := hs1.form; go_frame)
    go_ret
    refine ⟨_, ob1, rfl, by have := hs1; unfold Sl; rw [HN.out]; simpa using this, fun g e => ?_, ht1.below ((Below.refl _ w).alloc (Nat.le_refl _) _) (by simp) (fun _ _ e => by cases e)⟩
    rcases ho1 with h | ⟨g', h, hg'⟩
    · rw [h] at e; cases e
    · rw [h] at e; injection e with e; subst e; simp at hg'; omega
set_option maxHeartbeats 2000000 in
theorem all_any (b : Nat) (v : Value) (ob : Option Nat) (xs : List St) (w : World) (h : Hm w b v ob xs) (h64 : xs.length ≤ 65536) :
    Calls Try.prog 13 #[.pointer (some ⟨b, 0, none⟩)] w fun e w' => ∃ v' ob', e = .returned v' ∧ Ml w w' v' ob' (outs xs.length xs) := by
  have c0 : w.cell? ⟨b, 0, none⟩ = some v := (h.row.cell 0).trans rfl
  have HSL : Hid (Sl w v ob xs) := Lib.hid h.seg
  clear h
  go_enter Try.func13, Try.ntmps13
  go_wp2_with fail
  refine (clone_any v ob xs _ HSL.out h64).mono ?_
  rintro e w1 ⟨v1, o1, rfl, hm1⟩
  have HM1 := Lib.hid hm1
  obtain ⟨A1, c1, rfl, _⟩ := hm1.sl.form
  clear hm1 c0
  go_wp2_with fail
  refine (drain_any _ _).mono ?_
  rintro e w2 ⟨rfl, rfl⟩
  go_wp2_with fail
  have hbw := HM1.out.be.size
  have hob := HM1.out.sl.lt
  have hown := HM1.out.own
  have r1 : Hm (((w1.alloc (.cells #[.slice A1 xs.length c1] 26)).alloc (.cells #[.pointer (some ⟨w1.heap.size, 0, none⟩)] 41)).alloc (.cells #[.func (.func 25) #[] #[]] 31)) w1.heap.size (.slice A1 xs.length c1) o1 xs := ⟨((Row.made w1 _ _).alloc _).alloc _, ((HM1.out.sl.alloc _).alloc _).alloc _⟩
  have r2 := (Row.made (w1.alloc (.cells #[.slice A1 xs.length c1] 26)) 41 #[.pointer (some ⟨w1.heap.size, 0, none⟩)]).alloc (.cells #[.func (.func 25) #[] #[]] 31)
  have r3 := Row.made ((w1.alloc (.cells #[.slice A1 xs.length c1] 26)).alloc (.cells #[.pointer (some ⟨w1.heap.size, 0, none⟩)] 41)) 31 #[.func (.func 25) #[] #[]]
  have hB : Below w1.heap.size w1 (((w1.alloc (.cells #[.slice A1 xs.length c1] 26)).alloc (.cells #[.pointer (some ⟨w1.heap.size, 0, none⟩)] 41)).alloc (.cells #[.func (.func 25) #[] #[]] 31)) := by go_grown
  have hs3 : (((w1.alloc (.cells #[.slice A1 xs.length c1] 26)).alloc (.cells #[.pointer (some ⟨w1.heap.size, 0, none⟩)] 41)).alloc (.cells #[.func (.func 25) #[] #[]] 31)).heap.size = w1.heap.size + 3 := by simp
  simp only [World.size_alloc] at r2 r3
  generalize ((w1.alloc (.cells #[.slice A1 xs.length c1] 26)).alloc (.cells #[.pointer (some ⟨w1.heap.size, 0, none⟩)] 41)).alloc (.cells #[.func (.func 25) #[] #[]] 31) = W at r1 r2 r3 hB hs3 ⊢
  have hob2 : ∀ k, w1.heap.size + 1 ≤ k → ¬ (k = w1.heap.size ∨ o1 = some k) := fun k hk => by
    rintro (e | e)
    · omega
    · have := hob k e; omega
  refine (listed_any (w1.heap.size + 1) (w1.heap.size + 1 + 1) _ _ xs.length h64 (Nx xs) (fun _ _ h => h.1) W (walks_drain 5 _ _ w1.heap.size o1 _ xs h64 W.heap.size W.heap.size W ⟨by omega, by omega, fun g hg => by have := hob g hg; omega⟩ (by omega) (by omega)
    (hob2 _ (by omega)) (hob2 _ (by omega)) r2 r3 r1) (fun k hk => by rcases hk with e | e; omega; have := hob k e; omega) (fun c => pulled_own _ _ _ _ _ _)).mono ?_
  rintro e w5 ⟨v', ob', ys, rfl, hsg, how5, ⟨k, v9, hys, hkl, _, _, hend⟩, htr⟩
  have hkx : k = xs.length := by rcases hend rfl with h | h; exact h; cases h
  subst hkx
  subst hys
  have HT : Hid (Below w.heap.size w w5) := Lib.hid (htr.below (HM1.out.be.trans (hB.mono hbw)) (by omega) (fun k hk e => by rcases e with e | e; omega; have := hown k e; omega))
  have HG : Hid (Sl w5 v' ob' (outs xs.length xs)) := Lib.hid hsg
  have HO : Hid (∀ g, ob' = some g → w.heap.size ≤ g) := Lib.hid fun g hg => by have := how5 g hg; omega
  obtain ⟨A', c', rfl, _⟩ := hsg.form
  clear hsg how5 htr r1 r2 r3 hB hend
  go_wp2
  go_ret
  exact ⟨_, ob', rfl, HG.out, HO.out, HT.out⟩
section
variable {H : Type} {enc : TypeId × Value → H} {P : Program} {w : World} {base : Nat}
/-- Triples of integers lie in a slice. -/
def LiesThree (w : World) (B : Nat) (A : Option Addr) (n : Nat) (v u t : Nat → Value) : Prop := ∀ k, k < n → ∃ g o, A = some ⟨g, o, none⟩ ∧ g < B ∧ w.cell? ⟨g, o + k * 3, none⟩ = some (v k) ∧ w.cell? ⟨g, o + k * 3 + 1, none⟩ = some (u k) ∧ w.cell? ⟨g, o + k * 3 + 2, none⟩ = some (t k)
theorem open_three {t e i1 i2 i3 : TypeId} {v : Value} {d : DataW H} {p : List MemPlace} (ht : P.underlying t = some (.slice e)) (he1 : fieldAt P e 0 = some (i1, 0)) (he2 : fieldAt P e 1 = some (i2, 1)) (he3 : fieldAt P e 2 = some (i3, 2))
    (hi1 : P.underlying i1 = some (.int .i64)) (hi2 : P.underlying i2 = some (.int .i64)) (hi3 : P.underlying i3 = some (.int .i64)) (hc : P.cellsOf e = 3) (hc1 : P.cellsOf i1 = 1) (hc2 : P.cellsOf i2 = 1) (hc3 : P.cellsOf i3 = 1)
    (hv : Value.okWide P w .any base t v) (h : DataW.Trod enc P w 0 (fun _ => true) true t v d p) :
    ∃ (A : Option Addr) (n c : Nat) (f g h : Nat → Int), v = .slice A n c ∧ n ≤ c ∧ c ≤ 9223372036854775807 ∧ LiesThree w w.heap.size A n (fun k => .int .i64 (f k)) (fun k => .int .i64 (g k)) (fun k => .int .i64 (h k)) := by
  obtain ⟨a, l, c, rfl⟩ := okWide_slice ht hv
  obtain ⟨fuel, hf⟩ := h
  obtain ⟨A, n, c', hcs, h1, h2, hel⟩ := trod_slice_rows ht (by omega) hf
  simp [Value.cells] at hcs
  obtain ⟨rfl, rfl, rfl⟩ := hcs
  have each : ∀ k, k < l → ∃ (z y u : Int), ∃ g o, a = some ⟨g, o, none⟩ ∧ g < w.heap.size ∧ w.cell? ⟨g, o + k * 3, none⟩ = some (.int .i64 z) ∧ w.cell? ⟨g, o + k * 3 + 1, none⟩ = some (.int .i64 y) ∧ w.cell? ⟨g, o + k * 3 + 2, none⟩ = some (.int .i64 u) := by
    intro k hk
    obtain ⟨g, o, es, m, y, hA, hg, hlen, hcell, hy⟩ := hel k hk
    rw [hc] at hcell hlen
    obtain ⟨a0, a1, a2, rfl⟩ := list3 hlen
    obtain ⟨_, _, f1⟩ := trod_field 0 he1 hy
    obtain ⟨_, _, f2⟩ := trod_field 1 he2 hy
    obtain ⟨_, _, f3⟩ := trod_field 2 he3 hy
    rw [hc1] at f1
    rw [hc2] at f2
    rw [hc3] at f3
    simp at f1 f2 f3
    obtain ⟨z1, rfl, _⟩ := one_int hi1 f1
    obtain ⟨z2, rfl, _⟩ := one_int hi2 f2
    obtain ⟨z3, rfl, _⟩ := one_int hi3 f3
    exact ⟨z1, z2, z3, g, o, hA, hg, hcell 0 _ rfl, hcell 1 _ rfl, hcell 2 _ rfl⟩
  refine ⟨a, l, c, fun k => if hk : k < l then Classical.choose (each k hk) else 0, fun k => if hk : k < l then Classical.choose (Classical.choose_spec (each k hk)) else 0, fun k => if hk : k < l then Classical.choose (Classical.choose_spec (Classical.choose_spec (each k hk))) else 0, rfl, h1, h2, fun k hk => ?_⟩
  simp only [dif_pos hk]
  exact Classical.choose_spec (Classical.choose_spec (Classical.choose_spec (each k hk)))
end
end Go.Proofs.Ytickliklghecgaa.Hp
