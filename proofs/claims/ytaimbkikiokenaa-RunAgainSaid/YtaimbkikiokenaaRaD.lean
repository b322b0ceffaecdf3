/- ref03.SamePairs of alike ones; what a run tells: its pairs, its state, when it began, where its last event stands. -/
import Derived.Test.YtaimbkikiokenaaRaC
import Derived.Laws.StructEq
import Derived.BigQuiet
namespace Go.Proofs.Ytaimbkikiokenaa.Rn
open Go.RowKit Go.Proofs.Ytaimbkikiokenaa Go.Proofs.Ytaimbkikiokenaa.Ev Go.Proofs.Ytaimbkikiokenaa.Pa Go.Proofs.Ytaimbkikiokenaa.Pq
set_option linter.unusedVariables false
set_option maxRecDepth 100000
theorem flat2_at (xs : List Pr) (k : Nat) (e : Pr) (h : xs[k]? = some e) (j : Nat) (hj : j < 2) : (xs.flatMap Pr.cells)[k * 2 + j]? = e.cells[j]? := by
  induction xs generalizing k with
  | nil => simp at h
  | cons x es ih =>
    have hx : x.cells.length = 2 := rfl
    cases k with
    | zero =>
      simp at h
      subst h
      simp only [List.flatMap_cons, Nat.zero_mul, Nat.zero_add]
      rw [List.getElem?_append_left (by rw [hx]; exact hj)]
    | succ k =>
      simp only [List.flatMap_cons]
      rw [List.getElem?_append_right (by rw [hx]; omega), hx, show (k + 1) * 2 + j - 2 = k * 2 + j from by omega]
      exact ih k (by simpa using h)
theorem pl_row {w : World} {g n : Nat} {ms : List Pr} (h : Row w g 68 (ms.flatMap Pr.cells).toArray) (hn : ms.length = n) (h9 : n ≤ 1000000) : PL w w.heap.size (.slice (some ⟨g, 0, none⟩) n n) ms := by
  refine ⟨_, n, by rw [hn], by omega, by omega, fun k x hx => ⟨g, 0, rfl, h.lt, ?_, ?_⟩⟩
  · rw [Nat.zero_add]
    have e : (ms.flatMap Pr.cells)[k * 2]? = some (.int .i64 x.k) := (flat2_at ms k x hx 0 (by omega)).trans rfl
    exact h.is _ (by rw [List.getElem?_toArray]; exact e)
  · rw [Nat.zero_add]
    have e : (ms.flatMap Pr.cells)[k * 2 + 1]? = some (.int .i64 x.q) := (flat2_at ms k x hx 1 (by omega)).trans rfl
    exact h.is _ (by rw [List.getElem?_toArray]; exact e)
set_option maxHeartbeats 1000000 in
theorem samep_yes (v1 v2 : Value) (ms : List Pr) (w : World) (h : PL w w.heap.size v1 ms) (g : PL w w.heap.size v2 ms) :
    Calls Try.prog 29 #[v1, v2] w fun e w' => e = .returned (.bool true) ∧ Below w.heap.size w w' := by
  have H := Lib.hid h
  have G := Lib.hid g
  obtain ⟨A, c, rfl, h1, h2, _⟩ := h
  obtain ⟨B, d, rfl, g1, g2, _⟩ := g
  obtain ⟨n, hn⟩ : ∃ n, ms.length = n := ⟨_, rfl⟩
  rw [hn] at H G h1 g1 ⊢
  have HN := Lib.hid hn
  have hnn2 : ((n : Int) != (n : Int)) = false := by simp
  clear hn
  go_enter Try.func29, Try.ntmps29
  go_wp2
  go_loopw [4, 5] (fun s4 v wr => ∃ k : Nat, k ≤ n ∧ v = .int .i64 k ∧ Hid (∃ m, wr = w.drewN m)) (fun _ v _ => n - (intOf v).toNat)
  case atStart => exact ⟨0, by omega, rfl, Lib.hid ⟨0, rfl⟩⟩
  case round =>
    obtain ⟨k, hk, rfl, hw⟩ := hrel
    obtain ⟨m, rfl⟩ := hw.out
    by_cases hlt : k < n
    · have hki : (k : Int) < (n : Int) := by omega
      obtain ⟨x, hx⟩ : ∃ x, ms[k]? = some x := ⟨ms[k]'(by rw [HN.out]; exact hlt), List.getElem?_eq_getElem _⟩
      obtain ⟨A', c', e1, _, _, h3⟩ := H.out
      injection e1 with e1 em e1'
      subst e1 e1'
      clear em
      obtain ⟨B', d', e2, _, _, g3⟩ := G.out
      injection e2 with e2 em e2'
      subst e2 e2'
      clear em
      obtain ⟨ga, oa, rfl, _, p0, p1⟩ := h3 k x hx
      obtain ⟨gb, ob, rfl, _, q0, q1⟩ := g3 k x hx
      clear h3 g3 hx
      go_upto_region 6 with fail
      go_quiet (fail)
      go_wp2
      go_roundw
      case measure => simp [intOf]; omega
      case rel => exact ⟨k + 1, by omega, by go_num, Lib.hid ⟨m + nq, rfl⟩⟩
    · have hki : ¬ (k : Int) < (n : Int) := by omega
      go_wp2
      go_ret
      exact ⟨rfl, below_drewN (Below.refl _ w) m⟩
theorem rpairs_any (pp pe : Option Addr) (st f lt lq la : Int) (b : Bool) (ps : List Pr) (w : World) (h : Ch 2 w w.heap.size pp (ps.map Pr.cells)) (hl : ps.length ≤ 1000000) :
    Calls Try.prog 30 #[.agg #[.int .i64 st, .pointer pp, .pointer pe, .int .i64 f, .int .i64 lt, .int .i64 lq, .int .i64 la, .bool b]] w fun e w' => ∃ v, e = .returned v ∧ PL w' w'.heap.size v ps.reverse ∧ Below w.heap.size w w' := by
  have HB := Lib.hid ((Below.refl _ w).alloc (Nat.le_refl _) (.cells #[.int .i64 st, .pointer pp, .pointer pe, .int .i64 f, .int .i64 lt, .int .i64 lq, .int .i64 la, .bool b] 52))
  have H := Lib.hid (h.below HB.out HB.out.size)
  clear h
  go_enter Try.func30, Try.ntmps30
  go_wp2_with fail
  refine (listp_any pp ps _ H.out hl).mono ?_
  rintro e w1 ⟨g, rfl, hr, hg, hb⟩
  have HR := Lib.hid (pl_row hr (n := ps.length) (by rw [List.length_reverse]) hl)
  have HB1 := Lib.hid (HB.out.trans (hb.mono HB.out.size))
  clear hr hg hb
  go_wp2
  go_ret
  exact ⟨_, rfl, HR.out, HB1.out⟩
theorem rfirst_any (pp pe : Option Addr) (st f lt lq la : Int) (b : Bool) (w : World) :
    Calls Try.prog 32 #[.agg #[.int .i64 st, .pointer pp, .pointer pe, .int .i64 f, .int .i64 lt, .int .i64 lq, .int .i64 la, .bool b]] w fun e w' => e = .returned (.int .i64 f) ∧ Below w.heap.size w w' := by
  go_enter Try.func32, Try.ntmps32
  go_wp2
  go_ret
  exact ⟨rfl, (Below.refl _ w).alloc (Nat.le_refl _) _⟩
theorem rstate_any (pp pe : Option Addr) (st f lt lq la : Int) (b : Bool) (w : World) :
    Calls Try.prog 31 #[.agg #[.int .i64 st, .pointer pp, .pointer pe, .int .i64 f, .int .i64 lt, .int .i64 lq, .int .i64 la, .bool b]] w fun e w' => e = .returned (.int .i64 st) ∧ Below w.heap.size w w' := by
  go_enter Try.func31, Try.ntmps31
  go_wp2
  go_ret
  exact ⟨rfl, (Below.refl _ w).alloc (Nat.le_refl _) _⟩
theorem rlast_any (pp pe : Option Addr) (st f lt lq la : Int) (b : Bool) (w : World) :
    Calls Try.prog 33 #[.agg #[.int .i64 st, .pointer pp, .pointer pe, .int .i64 f, .int .i64 lt, .int .i64 lq, .int .i64 la, .bool b]] w fun e w' => e = .returned (.agg #[.int .i64 lt, .int .i64 lq, .int .i64 la]) ∧ Below w.heap.size w w' := by
  go_enter Try.func33, Try.ntmps33
  go_wp2
  exact bodyPost_ret (v := .agg #[.int .i64 lt, .int .i64 lq, .int .i64 la]) (by simp [results, Try.results33, go_sem]; try rfl) rfl ⟨rfl, ((Below.refl _ w).alloc (Nat.le_refl _) _).alloc (by simp) _⟩
end Go.Proofs.Ytaimbkikiokenaa.Rn
