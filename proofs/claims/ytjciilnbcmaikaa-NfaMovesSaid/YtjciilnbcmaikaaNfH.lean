/- Two moves. -/
import Derived.Test.YtjciilnbcmaikaaNfG
namespace Go.Proofs.Ytjciilnbcmaikaa.Nf
open Go.RowKit Go.Proofs.Ytjciilnbcmaikaa Go.Proofs.Ytjciilnbcmaikaa.Pa Go.Proofs.Ytjciilnbcmaikaa.Pc
set_option linter.unusedVariables false
set_option maxRecDepth 100000

def a2 (k : Nat) : ElV := match k with
  | 0 => ⟨⟨#[97]⟩, none, 0, 0, false, 1, 2, none, 0, 0⟩
  | _ => ⟨⟨#[98]⟩, none, 0, 0, false, 1, 1, none, 0, 0⟩
def a2C : Array Value := #[.string ⟨#[97]⟩, .slice none 0 0, .bool false, .int .i64 1, .int .i64 2, .slice none 0 0, .string ⟨#[98]⟩, .slice none 0 0, .bool false, .int .i64 1, .int .i64 1, .slice none 0 0]
theorem a2C_at : ∀ k, k < 2 → ∀ j, j < 6 → a2C[0 + k * 6 + j]? = some ((a2 k).val j) := by
  intro k hk j hj
  rcases (show k = 0 ∨ k = 1 from by omega) with rfl | rfl <;> rcases (show j = 0 ∨ j = 1 ∨ j = 2 ∨ j = 3 ∨ j = 4 ∨ j = 5 from by omega) with rfl | rfl | rfl | rfl | rfl | rfl <;> rfl
theorem a2_sts : sts a2 2 = [(0, 0), (0, 1), (0, 2), (1, 1)] := by decide
theorem a2_nums {R : List Int} (h : Nums [(0, 0), (0, 1), (0, 2), (1, 1)] R [(0, 2), (1, 1)]) : R = [2, 3] := by
  obtain ⟨hl, h⟩ := h
  match R, hl with
  | [a, b], _ =>
    obtain ⟨q, e1, e2⟩ := h 0 (by simp)
    obtain ⟨r, e3, e4⟩ := h 1 (by simp)
    simp at e1 e3
    subst e1 e3
    have hq : q < 4 := by
      rcases Nat.lt_or_ge q 4 with h | h
      · exact h
      · rw [List.getElem?_eq_none (by simpa using h)] at e2; simp at e2
    have hr : r < 4 := by
      rcases Nat.lt_or_ge r 4 with h | h
      · exact h
      · rw [List.getElem?_eq_none (by simpa using h)] at e4; simp at e4
    rcases (show q = 0 ∨ q = 1 ∨ q = 2 ∨ q = 3 from by omega) with rfl | rfl | rfl | rfl <;> simp at e2
    rcases (show r = 0 ∨ r = 1 ∨ r = 2 ∨ r = 3 from by omega) with rfl | rfl | rfl | rfl <;> simp at e4
    rfl
def Lik (E : Nat → ElV) : Prop := ∀ k, k < 2 → Pc.Alike (E k) (a2 k)
def TwoR (w : World) (e : Ending) (w' : World) : Prop := ∃ ga oa c, e = .returned (.slice (some ⟨ga, oa, none⟩) 2 c) ∧ w'.cell? ⟨ga, oa, none⟩ = some (.int .i64 2) ∧ w'.cell? ⟨ga, oa + 1, none⟩ = some (.int .i64 3) ∧ ga < w'.heap.size ∧ Below w.heap.size w w'
section
variable (nb g o c sg so sc : Nat) (E : Nat → ElV) (w : World) (h : NR w nb g o 2 c 0 0 E sg so sc [(0, 0), (0, 1), (0, 2), (1, 1)]) (hE : Lik E)
include h hE
theorem moves_a2 : Calls Try.prog 53 #[.pointer (some ⟨nb, 0, none⟩), .int .i64 1] w (TwoR w) := by
  have n0 : (E 0).neg = false := (hE 0 (by omega)).2.1
  have n1 : (E 1).neg = false := (hE 1 (by omega)).2.1
  have m0 : (E 0).mn = 1 := (hE 0 (by omega)).2.2.1
  have hx : nxt (negs E) ((0 : Nat) : Int) 2 = 1 := by simp [nxt, negs, n0, n1]
  have := moves_more nb g o 2 c sg so sc 0 0 E _ w h (by omega) 1 0 1 rfl (by omega) (by omega) true (by rw [m0]; rfl)
  rw [hx] at this
  refine Calls.mono this ?_
  rintro e w' ⟨v, R, rfl, hb, hn⟩
  obtain rfl := a2_nums hn
  obtain ⟨A, c', rfl, hl⟩ := BI.lies hb
  obtain ⟨ga, oa, rfl, hg, c0⟩ := hl 0 (by simp)
  obtain ⟨ga', oa', e', _, c1⟩ := hl 1 (by simp)
  cases e'
  exact ⟨ga, oa, c', rfl, c0, c1, hg, hb.be⟩
theorem ends_a2_yes : Calls Try.prog 56 #[.pointer (some ⟨nb, 0, none⟩), .int .i64 3] w fun e w' => e = .returned (.bool true) ∧ Below w.heap.size w w' := by
  have n1 : (E 1).neg = false := (hE 1 (by omega)).2.1
  have m1 : (E 1).mn = 1 := (hE 1 (by omega)).2.2.1
  exact ends_yes nb g o 2 c sg so sc 0 0 E _ w h (by omega) 3 1 1 1 rfl rfl (by omega) (by omega) (by rw [m1]; rfl) (by simp [lst, negs, n1])
theorem ends_a2_no : Calls Try.prog 56 #[.pointer (some ⟨nb, 0, none⟩), .int .i64 2] w fun e w' => e = .returned (.bool false) ∧ Below w.heap.size w w' := by
  have n1 : (E 1).neg = false := (hE 1 (by omega)).2.1
  exact ends_no nb g o 2 c sg so sc 0 0 E _ w h (by omega) 2 rfl (by simp [lst, negs, n1])
end
theorem new_a2 (w : World) (b c0 : Nat) (h : LE w b 0 2 a2) : Calls Try.prog 50 #[.agg #[.slice (some ⟨b, 0, none⟩) 2 c0, .int .i64 0, .int .i64 0]] w fun e w' => ∃ nb g o c E' sg so sc, e = .returned (.pointer (some ⟨nb, 0, none⟩)) ∧ NR w' nb g o 2 c 0 0 E' sg so sc [(0, 0), (0, 1), (0, 2), (1, 1)] ∧ Lik E' ∧ Below w.heap.size w w' := by
  refine (new_any b 0 2 c0 0 0 a2 (fun _ _ => .bool false) (fun _ _ => .bool false) w h ?_ (fun _ _ => ⟨rfl, rfl⟩) (by omega) (by omega) ?_).mono ?_
  · intro k hk
    rcases (show k = 0 ∨ k = 1 from by omega) with rfl | rfl <;> exact ⟨.inl ⟨rfl, rfl, rfl⟩, .inl ⟨rfl, rfl, rfl⟩⟩
  · intro k hk
    rcases (show k = 0 ∨ k = 1 from by omega) with rfl | rfl <;> decide
  · rintro e w' ⟨nb, g, o, c, E', v, rfl, hn, ha⟩
    rw [a2_sts] at hn
    obtain ⟨sg, so, sc, hr⟩ := NF.read hn (by decide)
    exact ⟨nb, g, o, c, E', sg, so, sc, rfl, hr, ha, hn.be⟩
structure A2W (w wr : World) : Prop where
  le : LE wr w.heap.size 0 2 a2
  row : Row wr (w.heap.size + 1) 43 #[.slice (some ⟨w.heap.size, 0, none⟩) 2 2, .int .i64 0, .int .i64 0]
  be : Below w.heap.size w wr
set_option maxHeartbeats 4000000 in
theorem awake_any (w : World) : Calls Try.prog 54 #[] w fun e w' => e = .returned (.bool true) ∧ Below w.heap.size w w' := by
  have hM : A2W w ((w.alloc (.cells a2C 48)).alloc (.cells #[.slice (some ⟨w.heap.size, 0, none⟩) 2 2, .int .i64 0, .int .i64 0] 43)) := by
    refine ⟨LE.alloc ⟨a2C, Row.made _ _ _, a2C_at⟩ _, ?_, by go_grown⟩
    have := Row.made (w.alloc (.cells a2C 48)) 43 #[.slice (some ⟨w.heap.size, 0, none⟩) 2 2, .int .i64 0, .int .i64 0]
    rw [World.size_alloc] at this
    exact this
  have HM0 := Lib.hid hM
  clear hM
  go_enter Try.func54, Try.ntmps54
  go_upto_region 2 with fail
  have HM0 : Hid (A2W w ((w.alloc (.cells #[.string ⟨#[97]⟩, .slice none 0 0, .bool false, .int .i64 1, .int .i64 2, .slice none 0 0, .string ⟨#[98]⟩, .slice none 0 0, .bool false, .int .i64 1, .int .i64 1, .slice none 0 0] 48)).alloc (.cells #[.slice (some ⟨w.heap.size, 0, none⟩) 2 2, .int .i64 0, .int .i64 0] 43))) := HM0.out
  generalize (w.alloc (.cells #[.string ⟨#[97]⟩, .slice none 0 0, .bool false, .int .i64 1, .int .i64 2, .slice none 0 0, .string ⟨#[98]⟩, .slice none 0 0, .bool false, .int .i64 1, .int .i64 1, .slice none 0 0] 48)).alloc (.cells #[.slice (some ⟨w.heap.size, 0, none⟩) 2 2, .int .i64 0, .int .i64 0] 43) = w0 at HM0 ⊢
  have c0 : w0.cell? ⟨w.heap.size + 1, 0, none⟩ = some (.slice (some ⟨w.heap.size, 0, none⟩) 2 2) := HM0.out.row.cell 0
  have c1 : w0.cell? ⟨w.heap.size + 1, 1, none⟩ = some (.int .i64 0) := HM0.out.row.cell 1
  have c2 : w0.cell? ⟨w.heap.size + 1, 2, none⟩ = some (.int .i64 0) := HM0.out.row.cell 2
  go_wp2_with fail
  refine (new_a2 _ _ _ HM0.out.le).mono ?_
  rintro e w1 ⟨nb, g, o, c, E', sg, so, sc, rfl, hr, hE, hb⟩
  have HR := Lib.hid hr
  have HE := Lib.hid hE
  have HB1 := Lib.hid (HM0.out.be.trans (hb.mono HM0.out.be.size))
  clear hr hE hb c0 c1 c2 HM0
  go_wp2_with fail
  refine (moves_a2 nb g o c sg so sc E' _ HR.out HE.out).mono ?_
  rintro e w2 ⟨ga, oa, ca, rfl, c0, c1, gl, hb⟩
  have HR2 := Lib.hid (HR.out.call hb)
  have HB2 := Lib.hid (HB1.out.trans (hb.mono HB1.out.size))
  clear hb
  go_wp2_with fail
  refine (len_any nb g o 2 c sg so sc 0 0 E' _ _ HR2.out).mono ?_
  rintro e w' ⟨rfl, rfl⟩
  go_wp2_with fail
  refine (ends_a2_yes nb g o c sg so sc E' _ HR2.out HE.out).mono ?_
  rintro e w3 ⟨rfl, hb3⟩
  have HR3 := Lib.hid (HR2.out.call hb3)
  have HB3 := Lib.hid (HB2.out.trans (hb3.mono HB2.out.size))
  clear hb3
  go_wp2_with fail
  refine (ends_a2_no nb g o c sg so sc E' _ HR3.out HE.out).mono ?_
  rintro e w4 ⟨rfl, hb4⟩
  have HB4 := Lib.hid (HB3.out.trans (hb4.mono HB3.out.size))
  clear hb4
  go_wp2
  go_ret
  exact ⟨rfl, HB4.out⟩
end Go.Proofs.Ytjciilnbcmaikaa.Nf
