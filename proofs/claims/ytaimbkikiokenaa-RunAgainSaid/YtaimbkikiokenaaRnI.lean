/- awake of layer 22. -/
import Derived.Test.YtaimbkikiokenaaRnH
import Derived.Test.YtaimbkikiokenaaRnD
namespace Go.Proofs.Ytaimbkikiokenaa.Rn
open Go.RowKit Go.Proofs.Ytaimbkikiokenaa Go.Proofs.Ytaimbkikiokenaa.Ev Go.Proofs.Ytaimbkikiokenaa.Pa
set_option linter.unusedVariables false
set_option maxRecDepth 100000
theorem first_any (pp pe : Option Addr) (st f lt lq la : Int) (b : Bool) (w : World) :
    Calls Try.prog 32 #[.agg #[.int .i64 st, .pointer pp, .pointer pe, .int .i64 f, .int .i64 lt, .int .i64 lq, .int .i64 la, .bool b]] w fun e w' => e = .returned (.int .i64 f) ∧ Below w.heap.size w w' := by
  go_enter Try.func32, Try.ntmps32
  go_wp2
  go_ret
  exact ⟨rfl, (Below.refl _ w).alloc (Nat.le_refl _) _⟩
def litE : Nat → ElV := fun _ => ⟨⟨#[97]⟩, none, 0, 0, false, 1, 1, none, 0, 0⟩
/-- Where awake's run lies. -/
structure Aw (w W : World) (qb rb : Nat) (pp pe : Option Addr) : Prop where
  q : Row W qb 44 #[.slice (some ⟨w.heap.size, 0, none⟩) 1 1, .int .i64 5, .int .i64 0]
  r : Row W rb 52 #[.int .i64 1, .pointer pp, .pointer pe, .int .i64 3, .int .i64 3, .int .i64 7, .int .i64 0, .bool false]
  p : Ch 2 W W.heap.size pp [[.int .i64 0, .int .i64 7]]
  e : Ch 6 W W.heap.size pe [Bd.cells ⟨⟨#[97]⟩, ⟨#[]⟩, ⟨#[]⟩, 3, 7, none, 0, 0⟩]
  be : Below w.heap.size w W
theorem Aw.call {w W W' : World} {qb rb : Nat} {pp pe : Option Addr} (h : Aw w W qb rb pp pe) (g : Below W.heap.size W W') : Aw w W' qb rb pp pe :=
  ⟨h.q.below g h.q.lt, h.r.below g h.r.lt, h.p.below g g.size, h.e.below g g.size, h.be.trans (g.mono h.be.size)⟩
theorem Aw.cells {w W : World} {qb rb : Nat} {pp pe : Option Addr} (h : Aw w W qb rb pp pe) : W.cell? ⟨qb, 0, none⟩ = some (.slice (some ⟨w.heap.size, 0, none⟩) 1 1) ∧ W.cell? ⟨qb, 1, none⟩ = some (.int .i64 5) ∧ W.cell? ⟨qb, 2, none⟩ = some (.int .i64 0) ∧
    W.cell? ⟨rb, 0, none⟩ = some (.int .i64 1) ∧ W.cell? ⟨rb, 1, none⟩ = some (.pointer pp) ∧ W.cell? ⟨rb, 2, none⟩ = some (.pointer pe) ∧ W.cell? ⟨rb, 3, none⟩ = some (.int .i64 3) ∧ W.cell? ⟨rb, 4, none⟩ = some (.int .i64 3) ∧ W.cell? ⟨rb, 5, none⟩ = some (.int .i64 7) ∧ W.cell? ⟨rb, 6, none⟩ = some (.int .i64 0) ∧ W.cell? ⟨rb, 7, none⟩ = some (.bool false) :=
  ⟨h.q.is 0 rfl, h.q.is 1 rfl, h.q.is 2 rfl, h.r.is 0 rfl, h.r.is 1 rfl, h.r.is 2 rfl, h.r.is 3 rfl, h.r.is 4 rfl, h.r.is 5 rfl, h.r.is 6 rfl, h.r.is 7 rfl⟩
def WL (w : World) (e : Ending) (w' : World) : Prop := ∃ pp pe, e = .returned (.agg #[.int .i64 1, .pointer pp, .pointer pe, .int .i64 3, .int .i64 3, .int .i64 7, .int .i64 0, .bool false]) ∧ Ch 2 w' w'.heap.size pp [[.int .i64 0, .int .i64 7]] ∧ Ch 6 w' w'.heap.size pe [Bd.cells ⟨⟨#[97]⟩, ⟨#[]⟩, ⟨#[]⟩, 3, 7, none, 0, 0⟩] ∧ Below w.heap.size w w'
theorem with_lit (g : Nat) (w : World) (h : LE w g 0 1 litE) :
    Calls Try.prog 26 #[.agg #[.int .i64 0, .pointer none, .pointer none, .int .i64 0, .int .i64 0, .int .i64 0, .int .i64 0, .bool false], .agg #[.slice (some ⟨g, 0, none⟩) 1 1, .int .i64 5, .int .i64 0], .int .i64 1, .int .i64 0, .agg #[.string ⟨#[]⟩, .string ⟨#[]⟩, .int .i64 3, .int .i64 7, .slice none 0 0]] w (WL w) :=
  (with_any none none 0 0 0 0 0 3 7 5 0 1 false ⟨#[]⟩ ⟨#[]⟩ none 0 [] g 0 1 1 0 litE [] [] w rfl rfl h (.inl ⟨rfl, rfl, rfl⟩) (by omega) (by omega) (by simp) (by simp)).mono (fun e w' ⟨pp, pe, he, hW⟩ => by
    refine ⟨pp, pe, he, hW.ch, ?_, hW.be⟩
    rcases hW.en with ⟨h1, _⟩ | ⟨_, yA, yc, hn, hc⟩
    · exact absurd rfl h1
    · obtain ⟨rfl, rfl⟩ := hn rfl
      exact hc)
set_option maxHeartbeats 2000000 in
theorem awake_any (w : World) : Calls Try.prog 25 #[] w fun e w' => e = .returned (.bool true) ∧ Below w.heap.size w w' := by
  go_enter Try.func25, Try.ntmps25
  go_upto_region 2 with fail
  have HLE : Hid (LE ((w.alloc (.cells #[.string ⟨#[97]⟩, .slice none 0 0, .bool false, .int .i64 1, .int .i64 1, .slice none 0 0] 62)).alloc (.cells #[.slice (some ⟨w.heap.size, 0, none⟩) 1 1, .int .i64 5, .int .i64 0] 44)) w.heap.size 0 1 litE) := by
    refine ⟨⟨_, (Row.made w _ _).alloc _, fun k hk j hj => ?_⟩⟩
    obtain rfl : k = 0 := by omega
    rcases (show j = 0 ∨ j = 1 ∨ j = 2 ∨ j = 3 ∨ j = 4 ∨ j = 5 by omega) with rfl | rfl | rfl | rfl | rfl | rfl <;> rfl
  have HQ : Hid (Row ((w.alloc (.cells #[.string ⟨#[97]⟩, .slice none 0 0, .bool false, .int .i64 1, .int .i64 1, .slice none 0 0] 62)).alloc (.cells #[.slice (some ⟨w.heap.size, 0, none⟩) 1 1, .int .i64 5, .int .i64 0] 44)) (w.heap.size + 1) 44 #[.slice (some ⟨w.heap.size, 0, none⟩) 1 1, .int .i64 5, .int .i64 0]) := by
    have := Row.made (w.alloc (.cells #[.string ⟨#[97]⟩, .slice none 0 0, .bool false, .int .i64 1, .int .i64 1, .slice none 0 0] 62)) 44 #[.slice (some ⟨w.heap.size, 0, none⟩) 1 1, .int .i64 5, .int .i64 0]
    unfold Hid
    simpa using this
  have HB : Hid (Below w.heap.size w ((w.alloc (.cells #[.string ⟨#[97]⟩, .slice none 0 0, .bool false, .int .i64 1, .int .i64 1, .slice none 0 0] 62)).alloc (.cells #[.slice (some ⟨w.heap.size, 0, none⟩) 1 1, .int .i64 5, .int .i64 0] 44))) := ((Below.refl _ w).alloc (Nat.le_refl _) _).alloc (by simp) _
  generalize (w.alloc (.cells #[.string ⟨#[97]⟩, .slice none 0 0, .bool false, .int .i64 1, .int .i64 1, .slice none 0 0] 62)).alloc (.cells #[.slice (some ⟨w.heap.size, 0, none⟩) 1 1, .int .i64 5, .int .i64 0] 44) = W1 at HLE HQ HB ⊢
  generalize w.heap.size + 1 = qb at HQ ⊢
  have q0 := HQ.out.is 0 rfl
  have q1 := HQ.out.is 1 rfl
  have q2 := HQ.out.is 2 rfl
  go_wp2_with fail
  refine (with_lit _ _ HLE.out).mono ?_
  rintro e w2 ⟨pp, pe, rfl, hp, he, hb⟩
  have HA : Hid (Aw w (w2.alloc (.cells #[.int .i64 1, .pointer pp, .pointer pe, .int .i64 3, .int .i64 3, .int .i64 7, .int .i64 0, .bool false] 52)) qb w2.heap.size pp pe) := by
    have hb2 : Below w2.heap.size w2 (w2.alloc (.cells #[.int .i64 1, .pointer pp, .pointer pe, .int .i64 3, .int .i64 3, .int .i64 7, .int .i64 0, .bool false] 52)) := (Below.refl _ _).alloc (Nat.le_refl _) _
    exact ⟨(HQ.out.below hb HQ.out.lt).alloc _, Row.made _ _ _, hp.below hb2 hb2.size, he.below hb2 hb2.size, (HB.out.trans (hb.mono HB.out.size)).trans (hb2.mono (HB.out.trans (hb.mono HB.out.size)).size)⟩
  clear hp he hb q0 q1 q2
  go_upto_region 3 with fail
  generalize w2.alloc (.cells #[.int .i64 1, .pointer pp, .pointer pe, .int .i64 3, .int .i64 3, .int .i64 7, .int .i64 0, .bool false] 52) = W2 at HA ⊢
  generalize w2.heap.size = rb at HA ⊢
  obtain ⟨a0, a1, a2, r0, r1, r2, r3, r4, r5, r6, r7⟩ := HA.out.cells
  go_wp2_with fail
  refine (rlen_any pp pe 1 3 3 7 0 false [[.int .i64 0, .int .i64 7]] _ HA.out.p).mono ?_
  rintro e w3 ⟨rfl, hb⟩
  have HA3 := Lib.hid (HA.out.call hb)
  obtain ⟨a0, a1, a2, r0, r1, r2, r3, r4, r5, r6, r7⟩ := HA3.out.cells
  clear hb
  go_wp2_with fail
  refine (elem_yes pp pe 1 3 3 7 0 0 7 false [] _ HA3.out.p).mono ?_
  rintro e w4 ⟨rfl, hb⟩
  have HA4 := Lib.hid (HA3.out.call hb)
  obtain ⟨a0, a1, a2, r0, r1, r2, r3, r4, r5, r6, r7⟩ := HA4.out.cells
  clear hb
  go_wp2_with fail
  refine (first_any pp pe 1 3 3 7 0 false _).mono ?_
  rintro e w5 ⟨rfl, hb⟩
  have HA5 := Lib.hid (HA4.out.call hb)
  obtain ⟨a0, a1, a2, r0, r1, r2, r3, r4, r5, r6, r7⟩ := HA5.out.cells
  clear hb
  go_wp2_with fail
  refine (env1_any pp pe 1 3 3 7 0 false ⟨#[97]⟩ ⟨#[]⟩ ⟨#[]⟩ 3 7 _ HA5.out.e).mono ?_
  rintro e w6 ⟨A6, c6, rfl, hb⟩
  have HA6 := Lib.hid (HA5.out.call hb)
  obtain ⟨a0, a1, a2, r0, r1, r2, r3, r4, r5, r6, r7⟩ := HA6.out.cells
  clear hb
  go_wp2_with fail
  refine (over_yes pp pe 1 3 3 7 0 9 5 0 false (some ⟨w.heap.size, 0, none⟩) 1 1 _ _ _ HA6.out.p ⟨by omega, by omega⟩ ⟨by omega, by omega⟩).mono ?_
  rintro e w7 ⟨rfl, hb⟩
  have HA7 := Lib.hid (HA6.out.call hb)
  obtain ⟨a0, a1, a2, r0, r1, r2, r3, r4, r5, r6, r7⟩ := HA7.out.cells
  clear hb
  go_wp2_with fail
  refine (over_yes pp pe 1 3 3 7 0 8 5 0 false (some ⟨w.heap.size, 0, none⟩) 1 1 _ _ _ HA7.out.p ⟨by omega, by omega⟩ ⟨by omega, by omega⟩).mono ?_
  rintro e w8 ⟨rfl, hb⟩
  have HA8 := Lib.hid (HA7.out.call hb)
  clear hb
  go_wp2_with fail
  refine (elem_no none 0 0 0 0 0 false _).mono ?_
  rintro e w9 ⟨rfl, hb⟩
  have HB9 := Lib.hid (HA8.out.be.trans (hb.mono HA8.out.be.size))
  clear hb
  go_wp2
  go_ret
  exact ⟨rfl, HB9.out⟩
end Go.Proofs.Ytaimbkikiokenaa.Rn
