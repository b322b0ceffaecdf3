/- Where it may be behind one event more. -/
import Derived.Test.YtjciilnbcmaikaaNfD
import Derived.Test.YtjciilnbcmaikaaPaD
namespace Go.Proofs.Ytjciilnbcmaikaa.Nf
open Go.RowKit Go.Proofs.Ytjciilnbcmaikaa Go.Proofs.Ytjciilnbcmaikaa.Pa Go.Proofs.Ytjciilnbcmaikaa.Pc
set_option linter.unusedVariables false
set_option maxRecDepth 100000

theorem sts_mem (E : Nat → ElV) : ∀ n s, s ∈ sts E n → s = (0, 0) ∨ ∃ e : Nat, e < n ∧ s.1 = e ∧ (E e).neg = false ∧ 1 ≤ s.2 ∧ s.2 ≤ (E e).mx
  | 0, s, h => by simp [sts] at h; exact .inl h
  | n + 1, s, h => by
    simp only [sts, List.mem_append] at h
    rcases h with h | h
    · rcases sts_mem E n s h with h | ⟨e, a, b⟩
      · exact .inl h
      · exact .inr ⟨e, by omega, b⟩
    · cases hn : (E n).neg with
      | true => simp [hn] at h
      | false =>
        simp only [hn, Bool.false_eq_true, if_false, elemS, List.mem_map, List.mem_range] at h
        obtain ⟨c, hc, rfl⟩ := h
        exact .inr ⟨n, by omega, rfl, hn, by simp; omega, by simp; omega⟩
theorem mem_sts (E : Nat → ElV) (e : Nat) (c : Int) (hn : (E e).neg = false) (h1 : 1 ≤ c) (h2 : c ≤ (E e).mx) : ∀ n, e < n → ((e : Int), c) ∈ sts E n
  | 0, h => by omega
  | n + 1, h => by
    simp only [sts, List.mem_append]
    by_cases he : e = n
    · subst he
      right
      simp only [hn, Bool.false_eq_true, if_false, elemS, List.mem_map, List.mem_range]
      exact ⟨(c - 1).toNat, by omega, by simp; omega⟩
    · exact .inl (mem_sts E e c hn h1 h2 n (by omega))
theorem at_of_mem {L : List (Int × Int)} {s : Int × Int} (h : s ∈ L) : ∃ k : Nat, L[k]? = some s := by
  obtain ⟨k, hk, e⟩ := List.getElem_of_mem h
  exact ⟨k, by rw [List.getElem?_eq_getElem hk, e]⟩
/-- The state's numbers, told one by one. -/
def Nums (L : List (Int × Int)) (R : List Int) (W : List (Int × Int)) : Prop := R.length = W.length ∧ ∀ j : Nat, j < R.length → ∃ q : Nat, R[j]? = some (q : Int) ∧ L[q]? = W[j]?
theorem Nums.nil (L : List (Int × Int)) : Nums L [] [] := ⟨rfl, fun j h => by simp at h⟩
theorem Nums.one {L : List (Int × Int)} {k : Nat} {s : Int × Int} (h : L[k]? = some s) : Nums L [(k : Int)] [s] := ⟨rfl, fun j hj => by
  have : j = 0 := by simpa using hj
  subst this
  exact ⟨k, rfl, h⟩⟩
theorem Nums.two {L : List (Int × Int)} {k m : Nat} {s u : Int × Int} (h : L[k]? = some s) (h2 : L[m]? = some u) : Nums L [(k : Int), (m : Int)] [s, u] := ⟨rfl, fun j hj => by
  have : j < 2 := by simpa using hj
  rcases (show j = 0 ∨ j = 1 from by omega) with rfl | rfl
  · exact ⟨k, rfl, h⟩
  · exact ⟨m, rfl, h2⟩⟩
def MvR (L W : List (Int × Int)) (w : World) (e : Ending) (w' : World) : Prop := ∃ v R, e = .returned v ∧ BI w w' v R ∧ Nums L R W
def one0 (b : Nat) : Value := .slice (some ⟨b, 0, none⟩) 1 1
theorem BI.nil {w w' : World} (h : Below w.heap.size w w') : BI w w' (.slice none 0 0) [] := ⟨⟨none, Seg.nil _ _ _, (fun g hg => by cases hg)⟩, h⟩
theorem BI.one {w w' : World} {b : Nat} {x : Int} (h : Below w.heap.size w w') (hr : Row w' b 3 #[.int .i64 x]) (hb : w.heap.size ≤ b) : BI w w' (.slice (some ⟨b, 0, none⟩) 1 1) [x] :=
  ⟨⟨some b, ⟨rfl, _, 1, rfl, Nat.le_refl _, by unfold maxLen; omega, .inr ⟨b, 0, _, rfl, rfl, hr, by simp, rfl⟩⟩, fun g hg => by injection hg with hg; omega⟩, h⟩
section
variable (nb g o n c sg so sc : Nat) (win cap : Int) (E : Nat → ElV) (L : List (Int × Int)) (w : World) (h : NR w nb g o n c win cap E sg so sc L)
include h
theorem there_no (a b : Int) (hn : ∀ k : Nat, L[k]? ≠ some (a, b)) : Calls Try.prog 105 #[.pointer (some ⟨nb, 0, none⟩), .agg #[.int .i64 a, .int .i64 b]] w fun e w' => e = .returned (.slice none 0 0) ∧ Below w.heap.size w w' := by
  refine (there_any nb g o n c sg so sc win cap E L w h (a, b)).mono ?_
  rintro e w' ⟨⟨v, rfl, ⟨rfl, _⟩ | ⟨q, k, _, hk, _⟩⟩, hb⟩
  · exact ⟨rfl, hb⟩
  · exact absurd hk (hn k)
theorem there_yes (a b : Int) (hy : ∃ k : Nat, L[k]? = some (a, b)) : Calls Try.prog 105 #[.pointer (some ⟨nb, 0, none⟩), .agg #[.int .i64 a, .int .i64 b]] w fun e w' => ∃ q k : Nat, e = .returned (.slice (some ⟨q, 0, none⟩) 1 1) ∧ L[k]? = some (a, b) ∧ Row w' q 3 #[.int .i64 k] ∧ w.heap.size ≤ q ∧ Below w.heap.size w w' := by
  refine (there_any nb g o n c sg so sc win cap E L w h (a, b)).mono ?_
  rintro e w' ⟨⟨v, rfl, ⟨rfl, hn⟩ | ⟨q, k, rfl, hk, hr, hq⟩⟩, hb⟩
  · obtain ⟨k, hk⟩ := hy; exact absurd hk (hn k)
  · exact ⟨q, k, rfl, hk, hr, hq, hb⟩
end
/-- Which states are behind a state. -/
def mvW (E : Nat → ElV) (n : Nat) (s : Int × Int) (e : Nat) : List (Int × Int) :=
  (if s.2 < (E e).mx then [((e : Int), s.2 + 1)] else []) ++ (if (E e).mn ≤ s.2 ∧ 0 ≤ nxt (negs E) e n then [(nxt (negs E) e n, 1)] else [])
set_option maxHeartbeats 4000000 in
theorem moves_first (nb g o n c sg so sc : Nat) (win cap : Int) (E : Nat → ElV) (w : World) (h : NR w nb g o n c win cap E sg so sc (sts E n)) (hn : n ≤ 100) (h0 : (E 0).neg = false) (h00 : 0 < n) (hx : 1 ≤ (E 0).mx) (k : Nat) (b : Int) (hk : (sts E n)[k]? = some (b, 0)) :
    Calls Try.prog 53 #[.pointer (some ⟨nb, 0, none⟩), .int .i64 k] w (MvR (sts E n) [(0, 1)] w) := by
  have H := Lib.hid h
  have HK := Lib.hid hk
  have HX : Hid (nxt (negs E) (-1) n = 0) := by
    show _ = _
    rcases nxt_spec (negs E) (-1) n with ⟨_, hj⟩ | ⟨r, hr, _, _, _, hj⟩
    · have := hj 0 h00 (by omega); rw [show negs E 0 = false from h0] at this; cases this
    · by_cases e : r = 0
      · rw [hr, e]; rfl
      · have := hj 0 (by omega) (by omega); rw [show negs E 0 = false from h0] at this; cases this
  have HM : Hid (∃ k : Nat, (sts E n)[k]? = some (0, 1)) := at_of_mem (mem_sts E 0 1 h0 (by omega) hx n h00)
  clear h hk
  go_enter Try.func53, Try.ntmps53
  go_wp2_with fail
  refine (at_yes nb g o n c sg so sc win cap E _ _ H.out k (b, 0) HK.out).mono ?_
  rintro e w1 ⟨rfl, hb⟩
  have H1 := Lib.hid (H.out.call (hb.alloc hb.size (.cells #[.int .i64 b, .int .i64 0] 90)))
  have HB1 := Lib.hid (hb.alloc hb.size (.cells #[.int .i64 b, .int .i64 0] 90))
  have e0 : w1.cell? ⟨nb, 0, none⟩ = some (.slice (some ⟨g, o, none⟩) n c) := (H.out.call hb).row.cell 0
  have e1 : w1.cell? ⟨nb, 1, none⟩ = some (.int .i64 win) := (H.out.call hb).row.cell 1
  have e2 : w1.cell? ⟨nb, 2, none⟩ = some (.int .i64 cap) := (H.out.call hb).row.cell 2
  have el := (H.out.call hb).row.lt
  clear hb
  go_wp2_with fail
  refine (next_is g o n c win cap (-1) E _ H1.out.le (by omega) (by omega) 0 HX.out).mono ?_
  rintro e w2 ⟨rfl, hb⟩
  have H2 := Lib.hid (H1.out.call hb)
  have HB2 := Lib.hid (HB1.out.trans (hb.mono HB1.out.size))
  clear hb e0 e1 e2 el
  go_wp2_with fail
  refine (there_yes nb g o n c sg so sc win cap E _ _ H2.out 0 1 HM.out).mono ?_
  rintro e w3 ⟨q, m, rfl, hm, hr, hq, hb⟩
  have HF : Hid (BI w w3 (.slice (some ⟨q, 0, none⟩) 1 1) [(m : Int)]) := BI.one (HB2.out.trans (hb.mono HB2.out.size)) hr (Nat.le_trans HB2.out.size hq)
  have HN : Hid (Nums (sts E n) [(m : Int)] [(0, 1)]) := Nums.one hm
  clear hm hr hq hb
  go_wp2
  go_ret
  exact ⟨_, _, rfl, HF.out, HN.out⟩
end Go.Proofs.Ytjciilnbcmaikaa.Nf
