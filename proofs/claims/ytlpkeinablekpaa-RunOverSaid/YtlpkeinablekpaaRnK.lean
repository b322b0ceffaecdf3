/- The law RunOver. -/
import Derived.Test.YtlpkeinablekpaaRnJ
import Derived.Deep.RegionHeld3
namespace Go.Proofs.Ytlpkeinablekpaa.Rn
open Go.RowKit Go.Proofs.Ytlpkeinablekpaa Go.Proofs.Ytlpkeinablekpaa.Ev Go.Proofs.Ytlpkeinablekpaa.Pa Go.Proofs.Ytlpkeinablekpaa.Pq
set_option linter.unusedVariables false
set_option maxRecDepth 100000
theorem take_at {P : Program} {ops : Array Oper} {Q : Exit → Act → World → Prop} {md : Region.Mode} {S : World → Prop} {fuel : Nat} {listed : Array Bool} {a : Act} {w : World} (i : Nat) (d : Tmp) (oi : Oper) {v : Value} (hi : ops[i]? = some oi) (hd : oi.dst = some d)
    (hs : Region.noSelect ops = true) (hf : Region.free md ops listed i = true) (hr : (Region.ready md ops listed).contains i = true)
    (hQ : ∀ c a w, Q (.panic c) (a.put oi.dst v) w → Q (.panic c) a w) (hy : YieldsIf P ops S oi v a) (hS : S w)
    (h : wpAnyH P md ops Q S fuel (listed.setIfInBounds i true) (a.put (some d) v) w) : wpAnyH P md ops Q S (fuel + 1) listed a w :=
  wpAnyH_take hi hs hf hr hQ hy hS (by rw [hd]; exact h)
/-- The run, once i events are taken. -/
def RI (W : World) (rb k : Nat) (t0 : Int) (i : Nat) : Prop := ∃ (st : Int) (pp pe : Option Addr) (f lt lq la : Int) (b : Bool) (ps ys : List (List Value)), Row W rb 35 #[.int .i64 st, .pointer pp, .pointer pe, .int .i64 f, .int .i64 lt, .int .i64 lq, .int .i64 la, .bool b] ∧ Ch 2 W W.heap.size pp ps ∧ Ch 6 W W.heap.size pe ys ∧
  (∀ x ∈ ps, ∃ a b : Int, x = [.int .i64 a, .int .i64 b]) ∧ (∀ x ∈ ys, ∃ (s : ByteArray) (r : List Value), x = .string s :: r) ∧ ps.length = i ∧ ys.length ≤ i ∧ (0 < i → f = t0 ∧ b = false ∧ ∃ (y : Int) (r : List (List Value)), ps = [.int .i64 k, .int .i64 y] :: r)
theorem RI.next {W w5 W6 : World} {rb k i : Nat} {t0 t q mx f' st f lt lq la : Int} {b : Bool} {pp pe pp' pe' : Option Addr} {ps ys : List (List Value)} {var s1 s2 : ByteArray} {vs : List VV} (hW : Wth W w5 pp' pe' ps ys k q mx var s1 s2 t vs)
    (hrow : Row w5 rb 35 #[.int .i64 st, .pointer pp, .pointer pe, .int .i64 f, .int .i64 lt, .int .i64 lq, .int .i64 la, .bool b]) (h4 : ∀ x ∈ ps, ∃ a b : Int, x = [.int .i64 a, .int .i64 b]) (h5 : ∀ x ∈ ys, ∃ (s : ByteArray) (r : List Value), x = .string s :: r) (h6 : ps.length = i) (h7 : ys.length ≤ i)
    (T : Turns w5 W6 (fun j => j = rb)) (hrow6 : Row W6 rb 35 #[.int .i64 1, .pointer pp', .pointer pe', .int .i64 f', .int .i64 t, .int .i64 q, .int .i64 0, .bool false]) (hf : f' = t0) : RI W6 rb k t0 (i + 1) := by
  have hp : ∀ x ∈ ([.int .i64 k, .int .i64 q] :: ps : List (List Value)), ∃ a b : Int, x = [.int .i64 a, .int .i64 b] := fun x hx => by
    rcases List.mem_cons.1 hx with rfl | hx
    · exact ⟨_, _, rfl⟩
    · exact h4 x hx
  have c1 : w5.cell? ⟨rb, 1, none⟩ = some (.pointer pp) := hrow.is 1 rfl
  have c0 : w5.cell? ⟨rb, 0, none⟩ = some (.int .i64 st) := hrow.is 0 rfl
  have e2 : ∀ {p : Option Addr} {L : List (List Value)}, Ch 2 w5 w5.heap.size p L → (∀ x ∈ L, ∃ a b : Int, x = [.int .i64 a, .int .i64 b]) → Ch 2 W6 W6.heap.size p L := fun hc hx =>
    (Ch.apart T hc (fun x hm => by
      obtain ⟨a, b, rfl⟩ := hx x hm
      exact ⟨1, .int .i64 b, rfl, by rw [c1]; intro e; cases e⟩)).below (Below.refl _ _) T.size
  have e6 : ∀ {p : Option Addr} {L : List (List Value)}, Ch 6 w5 w5.heap.size p L → (∀ x ∈ L, ∃ (s : ByteArray) (r : List Value), x = .string s :: r) → Ch 6 W6 W6.heap.size p L := fun hc hx =>
    (Ch.apart T hc (fun x hm => by
      obtain ⟨s, r, rfl⟩ := hx x hm
      exact ⟨0, .string s, rfl, by rw [c0]; intro e; cases e⟩)).below (Below.refl _ _) T.size
  rcases hW.en with ⟨_, he⟩ | ⟨_, yA, yc, _, he⟩
  · exact ⟨1, pp', pe', f', t, q, 0, false, _, _, hrow6, e2 hW.ch hp, e6 he h5, hp, h5, by simp [h6], by omega, fun _ => ⟨hf, rfl, q, ps, rfl⟩⟩
  · have hy : ∀ x ∈ ([.string var, .string s1, .string s2, .int .i64 t, .int .i64 q, .slice yA vs.length yc] :: ys : List (List Value)), ∃ (s : ByteArray) (r : List Value), x = .string s :: r := fun x hx => by
      rcases List.mem_cons.1 hx with rfl | hx
      · exact ⟨_, _, rfl⟩
      · exact h5 x hx
    exact ⟨1, pp', pe', f', t, q, 0, false, _, _, hrow6, e2 hW.ch hp, e6 he hy, hp, hy, by simp [h6], by simp; omega, fun _ => ⟨hf, rfl, q, ps, rfl⟩⟩
theorem put8 {X : World} {b : Nat} {t : TypeId} {c0 c1 c2 c3 c4 c5 c6 c7 : Value} (r : Row X b t #[c0, c1, c2, c3, c4, c5, c6, c7]) (u0 u1 u2 u3 u4 u5 u6 u7 : Value) :
    Row ((((((((X.setCell ⟨b, 0, none⟩ u0).setCell ⟨b, 1, none⟩ u1).setCell ⟨b, 2, none⟩ u2).setCell ⟨b, 3, none⟩ u3).setCell ⟨b, 4, none⟩ u4).setCell ⟨b, 5, none⟩ u5).setCell ⟨b, 6, none⟩ u6).setCell ⟨b, 7, none⟩ u7) b t #[u0, u1, u2, u3, u4, u5, u6, u7] := by
  simpa using (((((((Row.put r 0 u0).put 1 u1).put 2 u2).put 3 u3).put 4 u4).put 5 u5).put 6 u6).put 7 u7
theorem turns8 (X : World) (b : Nat) (u0 u1 u2 u3 u4 u5 u6 u7 : Value) : Turns X ((((((((X.setCell ⟨b, 0, none⟩ u0).setCell ⟨b, 1, none⟩ u1).setCell ⟨b, 2, none⟩ u2).setCell ⟨b, 3, none⟩ u3).setCell ⟨b, 4, none⟩ u4).setCell ⟨b, 5, none⟩ u5).setCell ⟨b, 6, none⟩ u6).setCell ⟨b, 7, none⟩ u7) (fun j => j = b) :=
  ((((((((Turns.refl X (fun j => j = b)).put b 0 u0 (fun _ => rfl)).put b 1 u1 (fun _ => rfl)).put b 2 u2 (fun _ => rfl)).put b 3 u3 (fun _ => rfl)).put b 4 u4 (fun _ => rfl)).put b 5 u5 (fun _ => rfl)).put b 6 u6 (fun _ => rfl)).put b 7 u7 (fun _ => rfl)
theorem ev_at (xs : List EM) (k : Nat) (e : EM) (h : xs[k]? = some e) (j : Nat) (hj : j < 5) : (xs.flatMap EM.cells)[k * 5 + j]? = e.cells[j]? := by
  induction xs generalizing k with
  | nil => simp at h
  | cons x es ih =>
    have hx : x.cells.length = 5 := rfl
    cases k with
    | zero =>
      simp at h
      subst h
      simp only [List.flatMap_cons, Nat.zero_mul, Nat.zero_add]
      rw [List.getElem?_append_left (by rw [hx]; exact hj)]
    | succ k =>
      simp only [List.flatMap_cons]
      rw [List.getElem?_append_right (by rw [hx]; omega), hx, show (k + 1) * 5 + j - 5 = k * 5 + j from by omega]
      exact ih k (by simpa using h)
/-- The law's own things, and the run that has taken all. -/
structure LZ (w W : World) (nb qb g o N c : Nat) (win cap : Int) (E : Nat → ElV) (f : Nat → Int) (v : Value) (xs : List EM) (rb : Nat) (st : Int) (pp pe : Option Addr) (f1 lt lq la : Int) (b : Bool) (ps : List (List Value)) : Prop where
  lo : LO w W nb qb g o N c win cap E f v xs
  r : Row W rb 35 #[.int .i64 st, .pointer pp, .pointer pe, .int .i64 f1, .int .i64 lt, .int .i64 lq, .int .i64 la, .bool b]
  p : Ch 2 W W.heap.size pp ps
section
variable {w W W' : World} {nb qb g o N c rb : Nat} {win cap st f1 lt lq la : Int} {E : Nat → ElV} {f : Nat → Int} {v : Value} {xs : List EM} {pp pe : Option Addr} {b : Bool} {ps : List (List Value)}
theorem LZ.call (h : LZ w W nb qb g o N c win cap E f v xs rb st pp pe f1 lt lq la b ps) (t : Below W.heap.size W W') : LZ w W' nb qb g o N c win cap E f v xs rb st pp pe f1 lt lq la b ps := ⟨h.lo.call t, h.r.below t h.r.lt, h.p.below t t.size⟩
def EvAt (W : World) (v : Value) (t : Int) : Prop := ∀ ge oe n c', v = .slice (some ⟨ge, oe, none⟩) n c' → W.cell? ⟨ge, oe + 2, none⟩ = some (.int .i64 t)
theorem LZ.cells (h : LZ w W nb qb g o N c win cap E f v xs rb st pp pe f1 lt lq la b ps) {e0 : EM} (h0 : xs[0]? = some e0) {ge oe n c' : Nat} (hv : v = .slice (some ⟨ge, oe, none⟩) n c') :
    W.cell? ⟨qb, 0, none⟩ = some (.slice (some ⟨g, o, none⟩) N c) ∧ W.cell? ⟨qb, 1, none⟩ = some (.int .i64 win) ∧ W.cell? ⟨qb, 2, none⟩ = some (.int .i64 cap) ∧
    W.cell? ⟨rb, 0, none⟩ = some (.int .i64 st) ∧ W.cell? ⟨rb, 1, none⟩ = some (.pointer pp) ∧ W.cell? ⟨rb, 2, none⟩ = some (.pointer pe) ∧ W.cell? ⟨rb, 3, none⟩ = some (.int .i64 f1) ∧ W.cell? ⟨rb, 4, none⟩ = some (.int .i64 lt) ∧ W.cell? ⟨rb, 5, none⟩ = some (.int .i64 lq) ∧ W.cell? ⟨rb, 6, none⟩ = some (.int .i64 la) ∧ W.cell? ⟨rb, 7, none⟩ = some (.bool b) ∧
    W.cell? ⟨ge, oe + 2, none⟩ = some (.int .i64 e0.t) := by
  obtain ⟨ob, hs, _, _⟩ := h.lo.ev
  have hn : 0 < xs.length := by
    rcases Nat.eq_zero_or_pos xs.length with h9 | h9
    · rw [List.length_eq_zero_iff.1 h9] at h0; cases h0
    · exact h9
  obtain ⟨ge', oe', cape, hve, _, _, _, hce, _⟩ := hs.shape hn
  rw [hv] at hve
  injection hve with hvA _ _
  injection hvA with hvA
  injection hvA with h1 h2 _
  subst h1 h2
  refine ⟨h.lo.q.is 0 rfl, h.lo.q.is 1 rfl, h.lo.q.is 2 rfl, h.r.is 0 rfl, h.r.is 1 rfl, h.r.is 2 rfl, h.r.is 3 rfl, h.r.is 4 rfl, h.r.is 5 rfl, h.r.is 6 rfl, h.r.is 7 rfl, ?_⟩
  have h9 := ev_at xs 0 e0 h0 2 (by omega)
  rw [Nat.zero_mul, Nat.zero_add] at h9
  exact hce 2 _ (h9.trans rfl)
end
def LawEnd (w : World) (e : Ending) (w' : World) : Prop := e = .returned (.bool true) ∧ Below w.heap.size w w'
structure Cut_RnK (C : Prop) where
  G1 : Prop
  G2 : Prop
  ok : Go.RowKit.Hid G1 → Go.RowKit.Hid G2 → Go.RowKit.Hid True → C
set_option maxHeartbeats 8000000 in
noncomputable def part_RnK (A0 : Option Addr) (n0 c0 : Nat) (F0 : Nat → Int) (ln : n0 ≤ c0) (lc : c0 ≤ 9223372036854775807) (lb : ∀ k, -9223372036854775808 ≤ F0 k ∧ F0 k ≤ 9223372036854775807) (A1 : Option Addr) (n1 c1 : Nat) (F1 : Nat → Ev.EI) (ln1 : n1 ≤ c1) (lc1 : c1 ≤ 9223372036854775807) (f : Nat → Int) (FB : Hid (∀ k, -9223372036854775808 ≤ f k ∧ f k ≤ 9223372036854775807)) (w : World) (L0 : Hid (Lies w w.heap.size A0 n0 (fun k => .int .i64 (F0 k)))) (L1 : Hid (ELies w w.heap.size A1 n1 F1)) :
    Cut_RnK (Calls Try.prog 3 #[.slice A0 n0 c0, .slice A1 n1 c1, .agg #[.int .i64 (f 0), .int .i64 (f 1), .int .i64 (f 2)]] w (LawEnd w)) := by
  apply Cut_RnK.mk
  case ok =>
    intro g_1 g_2 g_last
    go_enter Try.func3, Try.ntmps3
    go_wp2_with fail
    have hb0 : Below w.heap.size w (w.alloc (.cells #[.int .i64 (f 0), .int .i64 (f 1), .int .i64 (f 2)] 24)) := (Below.refl _ w).alloc (Nat.le_refl _) _
    have HB0 := Lib.hid hb0
    have HN := Lib.hid (Row.made w 24 #[.int .i64 (f 0), .int .i64 (f 1), .int .i64 (f 2)])
    refine (query_any A0 n0 c0 F0 ln lc lb _ (fun k hk => by
      obtain ⟨g, o, e, hg, hc⟩ := L0.out.below hb0 k hk
      exact ⟨g, o, e, Nat.lt_of_lt_of_le hg hb0.size, hc⟩)).mono ?_
    rintro e w1 ⟨v, win, cap, es, rfl, hQ, hG, hl1, hl4, hw1, hw2, hcap⟩
    obtain ⟨g, o, c, rfl, hLE, hg, hgq, hnc⟩ := qi_le hQ (by omega)
    have HL := Lib.hid (And.intro hl1 (And.intro hl4 (And.intro hw1 hw2)))
    have HG := Lib.hid hG
    have HNC := Lib.hid hnc
    obtain ⟨N, hN⟩ : ∃ N, es.length = N := ⟨_, rfl⟩
    have hbq : Below w1.heap.size w1 (w1.alloc (.cells #[.slice (some ⟨g, o, none⟩) N c, .int .i64 win, .int .i64 cap] 27)) := (Below.refl _ _).alloc (Nat.le_refl _) _
    have hB1 : Below w.heap.size w w1 := hb0.trans (hQ.be.mono hb0.size)
    have HB2 := Lib.hid (hB1.trans (hbq.mono hB1.size))
    have HNR := Lib.hid ((HN.out.below hQ.be HN.out.lt).below hbq (HN.out.below hQ.be HN.out.lt).lt)
    have HQR := Lib.hid (Row.made w1 27 #[.slice (some ⟨g, o, none⟩) N c, .int .i64 win, .int .i64 cap])
    rw [hN] at hLE
    have HLE := Lib.hid (hLE.call hbq)
    have HGE := Lib.hid (And.intro hg (show w.heap.size ≤ w1.heap.size from hB1.size))
    have HNN := Lib.hid hN
    rw [hN]
    clear hl1 hl4 hw1 hw2 hQ hG hLE hg hgq hnc hbq hB1 hb0 hN hcap
    go_wp2_with fail
    refine (events_any A1 n1 c1 F1 4 _ ln1 lc1 (by omega) (L1.out.below HB2.out HB2.out.size)).mono ?_
    rintro e w2 ⟨v, xs, rfl, hE, hxl, hxn⟩
    have HO : Hid (∃ qb, w1.heap.size = qb ∧ LO w w2 w.heap.size qb g o N c win cap (elAt es) f v xs) := by
      obtain ⟨ob, h1, h2, h3⟩ := hE.sg
      have hz := HB2.out.size
      refine ⟨_, rfl, HNR.out.below hE.be HNR.out.lt, HQR.out.below hE.be HQR.out.lt, HLE.out.call hE.be, ⟨ob, h1, fun j e => by have := h2 j e; omega, fun e he => (h3 e he).mono hz (fun k _ _ h => h)⟩, HB2.out.trans (hE.be.mono hz), Nat.le_refl _, HGE.out.2, by have h := HGE.out.1; have h2 := HB0.out.size; exact Nat.le_trans h2 h⟩
    have HXN := Lib.hid (And.intro hxl hxn)
    obtain ⟨vA, vc, rfl⟩ : ∃ A c, v = .slice A xs.length c := by
      obtain ⟨ob, h1, _⟩ := hE.sg
      obtain ⟨A, c, e, _⟩ := h1.form
      exact ⟨A, c, e⟩
    obtain ⟨qb, hqb, hO⟩ := HO.out
    have HO1 := Lib.hid hO
    rw [hqb]
    clear hE hxl hxn HO hO hqb HB2 HNR HQR HLE HB0 HN
    go_upto_region 3 with fail
    have n0' := HO1.out.n.is 0 rfl
    have n1' := HO1.out.n.is 1 rfl
    have n2' := HO1.out.n.is 2 rfl
    have q0 := HO1.out.q.is 0 rfl
    have q1 := HO1.out.q.is 1 rfl
    have q2 := HO1.out.q.is 2 rfl
    have hN1 : 1 ≤ N ∧ N ≤ 4 := by have h := HL.out; rw [HNN.out] at h; exact ⟨h.1, h.2.1⟩
    go_cut [9] (fun s9 wx => ∃ k : Nat, k < N ∧ s9 = .int .i64 k ∧ w2 = wx)
    case first =>
      have a255 := and255 (f 0)
      obtain ⟨y, hy⟩ : ∃ y, f 0 % 256 = y := ⟨_, rfl⟩
      have y0 : 0 ≤ y := by omega
      obtain ⟨k, hk, hkm⟩ : ∃ k : Nat, y.tmod (N : Int) = (k : Int) ∧ k < N := ⟨(y.tmod (N : Int)).toNat, by
        rw [Int.tmod_eq_emod_of_nonneg y0]
        have := Int.emod_nonneg y (show (N : Int) ≠ 0 by omega)
        omega, by
        rw [Int.tmod_eq_emod_of_nonneg y0]
        have := Int.emod_nonneg y (show (N : Int) ≠ 0 by omega)
        have := Int.emod_lt_of_pos y (show (0 : Int) < (N : Int) by omega)
        omega⟩
      rw [hy] at a255
      have hne : ((N : Int) == 0) = false := by rw [beq_eq_false_iff_ne]; omega
      have hne' : ¬ ((N : Int) = 0) := by omega
      have hwk : IntKind.i64.wrap (k : Int) = k := by rw [IntKind.wrap_i64]; omega
      clear hy y0
      go_wp2
      go_meet
      exact ⟨k, hkm, rfl, rfl⟩
    case rest =>
      obtain ⟨k, hkN, rfl, rfl⟩ := hcut
      go_upto_region 5 with fail
      have hbz : Below w2.heap.size w2 (w2.alloc (.cells #[.int .i64 0, .pointer none, .pointer none, .int .i64 0, .int .i64 0, .int .i64 0, .int .i64 0, .bool false] 35)) := (Below.refl _ _).alloc (Nat.le_refl _) _
      have HR := Lib.hid (Row.made w2 35 #[.int .i64 0, .pointer none, .pointer none, .int .i64 0, .int .i64 0, .int .i64 0, .int .i64 0, .bool false])
      have HO3 := Lib.hid (HO1.out.call hbz)
      have HRB := Lib.hid HO1.out.be.size
      clear hbz n0' n1' n2' q0 q1 q2 HO1
      generalize w2.alloc (.cells #[.int .i64 0, .pointer none, .pointer none, .int .i64 0, .int .i64 0, .int .i64 0, .int .i64 0, .bool false] 35) = W3 at HR HO3 ⊢
      generalize w2.heap.size = rb at HR HRB ⊢
      have a63 := and63 (f 1)
      obtain ⟨t, ht⟩ : ∃ t, f 1 % 64 = t := ⟨_, rfl⟩
      have HT : Hid (0 ≤ t ∧ t ≤ 63) := by unfold Hid; omega
      have HTT := Lib.hid ht
      rw [ht] at a63
      have m0 := HO3.out.n.is 0 rfl
      have m1 := HO3.out.n.is 1 rfl
      have m2 := HO3.out.n.is 2 rfl
      have q0 := HO3.out.q.is 0 rfl
      have q1 := HO3.out.q.is 1 rfl
      have q2 := HO3.out.q.is 2 rfl
      have r0 := HR.out.is 0 rfl
      have r1 := HR.out.is 1 rfl
      have r2 := HR.out.is 2 rfl
      have r3 := HR.out.is 3 rfl
      have r4 := HR.out.is 4 rfl
      have r5 := HR.out.is 5 rfl
      have r6 := HR.out.is 6 rfl
      have r7 := HR.out.is 7 rfl
      clear ht
      go_wp2_with fail
      refine (over_no none 0 0 0 0 0 t win cap false (some ⟨g, o, none⟩) N c _).mono ?_
      rintro e w4 ⟨rfl, hb⟩
      have HO4 := Lib.hid (HO3.out.call hb)
      have HR4 := Lib.hid (HR.out.below hb HR.out.lt)
      clear m0 m1 m2 q0 q1 q2 r0 r1 r2 r3 r4 r5 r6 r7 hb
      have m0 := HO4.out.n.is 0 rfl
      have m1 := HO4.out.n.is 1 rfl
      have m2 := HO4.out.n.is 2 rfl
      have q0 := HO4.out.q.is 0 rfl
      have q1 := HO4.out.q.is 1 rfl
      have q2 := HO4.out.q.is 2 rfl
      have r0 := HR4.out.is 0 rfl
      have r1 := HR4.out.is 1 rfl
      have r2 := HR4.out.is 2 rfl
      have r3 := HR4.out.is 3 rfl
      have r4 := HR4.out.is 4 rfl
      have r5 := HR4.out.is 5 rfl
      have r6 := HR4.out.is 6 rfl
      have r7 := HR4.out.is 7 rfl
      go_wp2_with fail
      refine (dead_no none 0 0 0 0 0 (f 2) win cap false (some ⟨g, o, none⟩) N c _).mono ?_
      rintro e w5 ⟨rfl, hb⟩
      have HO5 := Lib.hid (HO4.out.call hb)
      have HR5 := Lib.hid (HR4.out.below hb HR4.out.lt)
      clear m0 m1 m2 q0 q1 q2 r0 r1 r2 r3 r4 r5 r6 r7 hb HO4 HR4 HO3 HR
      by_cases hz : xs.length = 0
      · rw [hz]
        go_wp2_with fail
        refine (awake_any _).mono ?_
        rintro e w6 ⟨rfl, hb⟩
        have HB6 := Lib.hid (HO5.out.be.trans (hb.mono HO5.out.be.size))
        clear hb
        go_wp2
        go_ret
        exact ⟨rfl, HB6.out⟩
      · obtain ⟨X, hX⟩ : ∃ X, xs.length = X := ⟨_, rfl⟩
        rw [hX] at hz ⊢
        have HX := Lib.hid hX
        have hX0 : ((X : Int) == 0) = false := by rw [beq_eq_false_iff_ne]; omega
        have hX1 : ¬ ((X : Int) = 0) := by omega
        clear hX
        obtain ⟨e0, he0⟩ : ∃ e0, xs[0]? = some e0 := ⟨xs[0]'(by have := HX.out; omega), List.getElem?_eq_getElem _⟩
        have HE0 := Lib.hid he0
        have HST : Hid (RI w5 rb k e0.t 0) := ⟨0, none, none, 0, 0, 0, 0, false, [], [], HR5.out, rfl, rfl, (fun _ h => by cases h), (fun _ h => by cases h), rfl, Nat.le_refl _, fun h => by omega⟩
        clear he0 hX1
        go_wp2_with fail
        try simp only [hX0]
        clear hX0
        go_loopw [11] (fun s11 wr => ∃ i : Nat, i ≤ X ∧ s11 = .int .i64 i ∧ Hid (RI wr rb k e0.t i) ∧ Hid (LO w wr w.heap.size qb g o N c win cap (elAt es) f (.slice vA X vc) xs)) (fun s11 _ => X - (intOf s11).toNat)
        case atStart => exact ⟨0, by omega, rfl, HST.out, by have h := HO5.out; rw [HX.out] at h; exact h⟩
        case round =>
          obtain ⟨i, hi, rfl, hR, hO⟩ := hrel
          by_cases hlt : i < X
          · obtain ⟨x, hx⟩ : ∃ x, xs[i]? = some x := ⟨xs[i]'(by have := HX.out; omega), List.getElem?_eq_getElem _⟩
            obtain ⟨st, pp, pe, f1, lt, lq, la, b, ps, ys, hrow, hp, hy, h4, h5, h6, h7, h8⟩ := hR.out
            obtain ⟨ob, hs, _, hev⟩ := hO.out.ev
            have hex := hev x (List.mem_of_getElem? hx)
            obtain ⟨ge, oe, cape, hve, _, _, _, hce, _⟩ := hs.shape (by have := HX.out; omega)
            injection hve with hvA hv2 hv3
            clear hv2 hv3
            subst hvA
            have c0 : wr.cell? ⟨ge, oe + i * 5, none⟩ = some (.string x.ty) := hce _ _ (ev_at xs i x hx 0 (by omega))
            have c1 : wr.cell? ⟨ge, oe + i * 5 + 1, none⟩ = some (.string x.key) := hce _ _ (ev_at xs i x hx 1 (by omega))
            have c2 : wr.cell? ⟨ge, oe + i * 5 + 2, none⟩ = some (.int .i64 x.t) := hce _ _ (ev_at xs i x hx 2 (by omega))
            have c3 : wr.cell? ⟨ge, oe + i * 5 + 3, none⟩ = some (.int .i64 x.q) := hce _ _ (ev_at xs i x hx 3 (by omega))
            have c4 : wr.cell? ⟨ge, oe + i * 5 + 4, none⟩ = some (.slice (some ⟨x.vb, 0, none⟩) x.vs.length x.vs.length) := hce _ _ (ev_at xs i x hx 4 (by omega))
            have hf2 : (if ps.length = 0 then x.t else f1) = e0.t := by
              by_cases h0 : ps.length = 0
              · rw [if_pos h0]
                have : i = 0 := by omega
                subst this
                have h9 := HE0.out.symm.trans hx
                injection h9 with h9
                rw [h9]
              · rw [if_neg h0]; exact (h8 (by omega)).1
            have HF2 := Lib.hid hf2
            have HV := Lib.hid (EvOk.vls hex)
            have HP := Lib.hid hp
            have HY := Lib.hid hy
            have HPS := Lib.hid (And.intro h4 (And.intro h5 (And.intro h6 h7)))
            have HRW := Lib.hid hrow
            have r0 := hrow.is 0 rfl
            have r1 := hrow.is 1 rfl
            have r2 := hrow.is 2 rfl
            have r3 := hrow.is 3 rfl
            have r4 := hrow.is 4 rfl
            have r5 := hrow.is 5 rfl
            have r6 := hrow.is 6 rfl
            have r7 := hrow.is 7 rfl
            have q0 := hO.out.q.is 0 rfl
            have q1 := hO.out.q.is 1 rfl
            have q2 := hO.out.q.is 2 rfl
            have hii : (0 : Int) ≤ (i : Int) := by omega
            have hiX : (i : Int) < (X : Int) := by omega
            have HLN : Hid (ps.length ≤ 1000000 ∧ ys.length ≤ 1000000 ∧ N ≤ 1000) := by
              have h1 := HXN.out.1
              have h2 := HX.out
              unfold Hid
              omega
            clear hs hev hex hce hf2 hp hy h4 h5 h6 h7 h8 hrow hx hR
            have HI1 : Hid (i + 1 ≤ X) := hlt
            go_upto_block 1 with fail
            go_cut [] (fun wx => RI wx rb k e0.t (i + 1) ∧ LO w wx w.heap.size qb g o N c win cap (elAt es) f (.slice (some ⟨ge, oe, none⟩) X vc) xs)
            case first =>
              go_upto_region 10 with fail
              go_region_law (first
                | (go_simp
                   go_at_call 14
                   refine (with_any pp pe st f1 lt lq la x.t x.q win cap 1 b x.ty x.key (some ⟨x.vb, 0, none⟩) x.vs.length x.vs g o N c k (elAt es) ps ys _ (HP.out.below (Below.refl _ _).drew (Nat.le_refl _)) (HY.out.below (Below.refl _ _).drew (Nat.le_refl _)) hO.out.le.drew (HV.out.call (Below.refl _ _).drew) HLN.out.2.2 hkN HLN.out.1 HLN.out.2.1).mono ?_
                   rintro e w6 ⟨pp', pe', rfl, hW⟩
                   rw [HF2.out]
                   have HW := Lib.hid hW
                   have HRW6 := Lib.hid (HRW.out.drew.below hW.be HRW.out.drew.lt)
                   have HO6 := Lib.hid ((hO.out.call (Below.refl _ _).drew).call hW.be)
                   have y0 := HRW6.out.is 0 rfl
                   have y1 := HRW6.out.is 1 rfl
                   have y2 := HRW6.out.is 2 rfl
                   have y3 := HRW6.out.is 3 rfl
                   have y4 := HRW6.out.is 4 rfl
                   have y5 := HRW6.out.is 5 rfl
                   have y6 := HRW6.out.is 6 rfl
                   have y7 := HRW6.out.is 7 rfl
                   have z0 := HRW6.out.free 0
                   have z1 := HRW6.out.free 1
                   have z2 := HRW6.out.free 2
                   have z3 := HRW6.out.free 3
                   have z4 := HRW6.out.free 4
                   have z5 := HRW6.out.free 5
                   have z6 := HRW6.out.free 6
                   have z7 := HRW6.out.free 7
                   clear hW)
                | fail)
              all_goals
                have HT8 := Lib.hid (turns8 w6 rb (.int .i64 1) (.pointer pp') (.pointer pe') (.int .i64 e0.t) (.int .i64 x.t) (.int .i64 x.q) (.int .i64 0) (.bool false))
                have HN6 := Lib.hid (RI.next HW.out HRW6.out HPS.out.1 HPS.out.2.1 HPS.out.2.2.1 HPS.out.2.2.2 HT8.out (put8 HRW6.out (.int .i64 1) (.pointer pp') (.pointer pe') (.int .i64 e0.t) (.int .i64 x.t) (.int .i64 x.q) (.int .i64 0) (.bool false)) rfl)
                have HO7 := Lib.hid (HO6.out.apart HRW6.out HRB.out HT8.out)
                clear HT8
                clear r0 r1 r2 r3 r4 r5 r6 r7 q0 q1 q2 y0 y1 y2 y3 y4 y5 y6 y7 z0 z1 z2 z3 z4 z5 z6 z7 c0 c1 c2 c3 c4
                go_wp2
                go_meet
                exact ⟨HN6.out, HO7.out⟩
            case rest =>
              obtain ⟨hR2, hO2⟩ := hcut
              have HR2 := Lib.hid hR2
              have HO2 := Lib.hid hO2
              clear hR2 hO2 r0 r1 r2 r3 r4 r5 r6 r7 q0 q1 q2 c0 c1 c2 c3 c4
              have hi9 : i + 1 ≤ X ∧ X ≤ 4 := ⟨HI1.out, by have h1 := HXN.out.1; have h2 := HX.out; omega⟩
              go_wp2
              go_roundw
              case rel => exact ⟨i + 1, HI1.out, by go_num, HR2.out, HO2.out⟩
              case measure => have h9 : i + 1 ≤ X ∧ X ≤ 4 := ⟨HI1.out, by have h1 := HXN.out.1; have h2 := HX.out; omega⟩; clear hi9; simp [intOf]; omega
          · obtain rfl : X = i := by omega
            obtain ⟨st, pp, pe, f1, lt, lq, la, b, ps, ys, hrow, hp, hy, h4, h5, h6, h7, h8⟩ := hR.out
            obtain ⟨hf1, hbf, y, r, hps⟩ := h8 (by omega)
            subst hbf
            subst hps
            subst hf1
            obtain ⟨ob, hs, _, hev⟩ := hO.out.ev
            have HTB := Lib.hid (hev e0 (List.mem_of_getElem? HE0.out)).tb
            obtain ⟨ge, oe, cape, hve, _, _, _, hce, _⟩ := hs.shape (by have := HX.out; omega)
            injection hve with hvA hv2 hv3
            clear hv2 hv3
            subst hvA
            have HZ := Lib.hid (LZ.mk hO.out hrow hp)
            have hX1 : (0 : Int) < (X : Int) := by omega
            have HXX := Lib.hid hX1
            clear hs hev hce hrow hp hy h4 h5 h6 h7 h8 hR hO hlt hi hz hX1
            have a7 := and7 (f 2)
            obtain ⟨cc, hcc⟩ : ∃ cc, f 2 % 8 = cc := ⟨_, rfl⟩
            have HCC : Hid (0 ≤ cc ∧ cc ≤ 7) := by unfold Hid; omega
            rw [hcc] at a7
            clear hcc
            have m1 := HZ.out.lo.n.is 1 rfl
            have m2 := HZ.out.lo.n.is 2 rfl
            go_upto_region 11 with fail
            go_cut [12, 13] (fun s12 s13 wx => s12 = .int .i64 t ∧ s13 = .int .i64 cc ∧ Hid (LZ w wx w.heap.size qb g o N c win cap (elAt es) f (.slice (some ⟨ge, oe, none⟩) X vc) xs rb st pp pe e0.t lt lq la false ([.int .i64 k, .int .i64 y] :: r)))
            case first =>
              go_quiet (fail)
              go_wp2
              go_meet
              exact ⟨rfl, rfl, HZ.out.call (below_drewN (Below.refl _ _) _)⟩
            case rest =>
              obtain ⟨rfl, rfl, HZ2⟩ := hcut
              clear HZ m1 m2 a7 a63
              have hwk1 := wrap1 k (by omega)
              go_upto_region 14 with fail
              have hn := nxt_start (negs (elAt es)) k
              have q0 := HZ2.out.lo.q.is 0 rfl
              go_wp2
              go_loopw [14, 15] (fun s14 s15 wr => ∃ (i : Nat) (lbb : Bool), k + 1 ≤ i ∧ i ≤ N ∧ s15 = .int .i64 i ∧ s14 = .bool lbb ∧ Hid (lbb = decide (nxt (negs (elAt es)) k i < 0)) ∧ Hid (LZ w wr w.heap.size qb g o N c win cap (elAt es) f (.slice (some ⟨ge, oe, none⟩) X vc) xs rb st pp pe e0.t lt lq la false ([.int .i64 k, .int .i64 y] :: r))) (fun _ s15 _ => N - (intOf s15).toNat)
              case atStart => exact ⟨k + 1, true, Nat.le_refl _, by omega, by go_num, rfl, (by unfold Hid; rw [hn]; rfl), HZ2.out⟩
              case round =>
                obtain ⟨i, lbb, hki, hiN, rfl, rfl, HL9, HZ3⟩ := hrel
                clear q0 hn HZ2
                by_cases hlt : i < N
                · have q0 := HZ3.out.lo.q.is 0 rfl
                  have e2 := HZ3.out.lo.le.neg hlt
                  have hiN2 : (i : Int) < (N : Int) := by omega
                  have hst := nxt_step (negs (elAt es)) k i (by omega)
                  have hneg : negs (elAt es) i = (elAt es i).neg := rfl
                  rw [hneg, ← HL9.out] at hst
                  have HST := Lib.hid hst
                  clear hst hneg hlt
                  obtain ⟨nb, hnb⟩ : ∃ nb, (elAt es i).neg = nb := ⟨_, rfl⟩
                  rw [hnb] at e2
                  have HNB := Lib.hid hnb
                  clear hnb
                  have hii : (0 : Int) ≤ (i : Int) := by omega
                  cases lbb
                  · go_wp2
                    go_roundw
                    case rel => exact ⟨i + 1, false, by omega, by omega, by go_num, rfl, (by unfold Hid; rw [HST.out]; rfl), HZ3.out⟩
                    case measure => simp [intOf]; omega
                  · go_wp2
                    go_roundw
                    case rel => exact ⟨i + 1, nb, by omega, by omega, by go_num, rfl, (by unfold Hid; rw [HST.out, HNB.out]; rfl), HZ3.out⟩
                    case measure => simp [intOf]; omega
                · obtain rfl : N = i := by omega
                  have hiN2 : ¬ ((N : Int) < (N : Int)) := by omega
                  have q0 := HZ3.out.lo.q.is 0 rfl
                  obtain ⟨mx, hmx⟩ : ∃ mx, (elAt es k).mx = mx := ⟨_, rfl⟩
                  have e4 : wr.cell? ⟨g, o + k * 6 + 4, none⟩ = some (.int .i64 mx) := by rw [← hmx]; exact HZ3.out.lo.le.cell hkN (j := 4) (by omega)
                  obtain ⟨fl, hfl⟩ : ∃ fl, decide (mx ≤ cc) = fl := ⟨_, rfl⟩
                  have HFL : Hid (decide ((elAt es k).mx ≤ cc) = fl) := by unfold Hid; rw [hmx]; exact hfl
                  have HFL2 := Lib.hid hfl
                  have hkk : (0 : Int) ≤ (k : Int) := by omega
                  have hkN2 : (k : Int) < (N : Int) := by omega
                  have hN9 : N ≤ 1000 := by omega
                  clear hmx hfl hlt
                  go_upto_region 17 with fail
                  go_cut [16] (fun s16 wx => s16 = .bool fl ∧ wr = wx)
                  case first =>
                    go_wp2
                    go_meet
                    exact ⟨by rw [← HFL2.out], rfl⟩
                  case rest =>
                    obtain ⟨rfl, rfl⟩ := hcut
                    have hwp : IntKind.i64.wrap (t - e0.t) = t - e0.t := by rw [IntKind.wrap_i64]; have := HT.out; have := HTB.out; omega
                    obtain ⟨bo, hbo⟩ : ∃ bo, decide (win < t - e0.t) = bo := ⟨_, rfl⟩
                    have HBO := Lib.hid hbo
                    have HD1 : Hid ((decide ((elAt es k).mx ≤ cc) && (false || decide (nxt (negs (elAt es)) k N < 0))) = (fl && lbb)) := by unfold Hid; rw [HFL.out, HL9.out]; rfl
                    have HD2 : Hid ((decide ((elAt es k).mx ≤ cc) && (true || decide (nxt (negs (elAt es)) k N < 0))) = fl) := by unfold Hid; rw [HFL.out]; simp
                    have HZ := Lib.hid (HZ3.out.call (Below.refl _ _).drew)
                    have hX1 := HXX.out
                    have hX2 : 0 < X := by omega
                    clear q0 e4 hkk hkN2
                    obtain ⟨q0, q1, q2, r0, r1, r2, r3, r4, r5, r6, r7, v2⟩ := HZ3.out.cells HE0.out rfl
                    cases fl
                    ·
                      (repeat (rename_i x_0 x_1 x_2 x_3 x_4 x_5 x_6 x_7 x_8 x_9 x_10 x_11 x_12 x_13 x_14 x_15 x_16 x_17 x_18 x_19 x_20 x_21 x_22 x_23 x_24 x_25 x_26 x_27 x_28 x_29 x_30 x_31 x_32 x_33 x_34 x_35 x_36 x_37 x_38 x_39 x_40 x_41 x_42 x_43 x_44 x_45 x_46 x_47 x_48 x_49 x_50 x_51 x_52 x_53 x_54 x_55 x_56 x_57 x_58 x_59 x_60 x_61 x_62 x_63; revert x_0 x_1 x_2 x_3 x_4 x_5 x_6 x_7 x_8 x_9 x_10 x_11 x_12 x_13 x_14 x_15 x_16 x_17 x_18 x_19 x_20 x_21 x_22 x_23 x_24 x_25 x_26 x_27 x_28 x_29 x_30 x_31 x_32 x_33 x_34 x_35 x_36 x_37 x_38 x_39 x_40 x_41 x_42 x_43 x_44 x_45 x_46 x_47 x_48 x_49 x_50 x_51 x_52 x_53 x_54 x_55 x_56 x_57 x_58 x_59 x_60 x_61 x_62 x_63))
                      (repeat (rename_i x_0 x_1 x_2 x_3 x_4 x_5 x_6 x_7; revert x_0 x_1 x_2 x_3 x_4 x_5 x_6 x_7))
                      (repeat (rename_i x_; revert x_))
                      first | revert u17 u18 u19 u20 u21 u22 u23 u24 u25 u26 u27 u28 u29 u30 u31 u32 u33 u34 u35 u36 u37 u38 u39 u40 u41 u42 u43 u44 u45 u46 u47 u48 u49 u50 u51 u52 u53 u54 u55 u56 u57 u58 u59 u60 u61 u62 u63 u64 u65 u66 u67 u68 u69 u70 u71 u72 u73 u74 u75 u76 u77 u78 u79 u80 u81 u82 u83 u84 u85 u86 u87 u88 u89 u90 u91 u92 u93 u94 u95 u96 u97 u98 u99 u100 u101 u102 u103 u104 u105 u106 u107 u108 u109 u110 u111 u112 u113 u114 u115 u116 u117 u118 u119 u120 u121 u122 u123 u124 u125 u126 u127 u128 u129 u130 u131 u132 u133 u134 u135 | skip
                      try revert wc
                      try revert A
                      try revert hb0
                      try revert heap
                      try revert size
                      try revert t
                      try revert Nat
                      try revert HB0
                      try revert HN
                      try revert k
                      try revert hk
                      try revert g
                      try revert o
                      try revert hg
                      try revert hc
                      try revert w1
                      try revert v
                      try revert win
                      try revert cap
                      try revert es
                      try revert hQ
                      try revert hG
                      try revert hl1
                      try revert hl4
                      try revert hw1
                      try revert hw2
                      try revert hcap
                      try revert c
                      try revert hLE
                      try revert hgq
                      try revert hnc
                      try revert HL
                      try revert And
                      try revert HG
                      try revert HNC
                      try revert N
                      try revert hN
                      try revert length
                      try revert hbq
                      try revert slice
                      try revert some
                      try revert hB1
                      try revert HB2
                      try revert HNR
                      try revert lt
                      try revert HQR
                      try revert HLE
                      try revert HGE
                      try revert HNN
                      try revert w2
                      try revert xs
                      try revert hE
                      try revert hxl
                      try revert hxn
                      try revert HO
                      try revert qb
                      try revert elAt
                      try revert ob
                      try revert h1
                      try revert h2
                      try revert h3
                      try revert hz
                      try revert h
                      try revert HXN
                      try revert vA
                      try revert vc
                      try revert hqb
                      try revert hO
                      try revert HO1
                      try revert n0'
                      try revert n1'
                      try revert n2'
                      try revert q0
                      try revert q1
                      try revert q2
                      try revert hN1
                      try revert a255
                      try revert y
                      try revert hy
                      try revert y0
                      try revert hkm
                      try revert tmod
                      try revert Int
                      try revert hne
                      try revert hne'
                      try revert hwk
                      try revert hkN
                      try revert hbz
                      try revert HR
                      try revert HO3
                      try revert HRB
                      try revert W3
                      try revert rb
                      try revert a63
                      try revert ht
                      try revert HT
                      try revert HTT
                      try revert m0
                      try revert m1
                      try revert m2
                      try revert r0
                      try revert r1
                      try revert r2
                      try revert r3
                      try revert r4
                      try revert r5
                      try revert r6
                      try revert r7
                      try revert w4
                      try revert hb
                      try revert HO4
                      try revert HR4
                      try revert w5
                      try revert HO5
                      try revert HR5
                      try revert w6
                      try revert HB6
                      try revert X
                      try revert hX
                      try revert HX
                      try revert hX0
                      try revert hX1
                      try revert e0
                      try revert he0
                      try revert HE0
                      try revert HST
                      try revert wr
                      try revert i
                      try revert hi
                      try revert hR
                      try revert hlt
                      try revert x
                      try revert hx
                      try revert st
                      try revert pp
                      try revert pe
                      try revert f1
                      try revert lq
                      try revert la
                      try revert b
                      try revert ps
                      try revert ys
                      try revert hrow
                      try revert hp
                      try revert h4
                      try revert h5
                      try revert h6
                      try revert h7
                      try revert h8
                      try revert hs
                      try revert hev
                      try revert hex
                      try revert ge
                      try revert oe
                      try revert cape
                      try revert hve
                      try revert hce
                      try revert c2
                      try revert c3
                      try revert c4
                      try revert hf2
                      try revert h0
                      try revert h9
                      try revert HF2
                      try revert HV
                      try revert HP
                      try revert HY
                      try revert HPS
                      try revert HRW
                      try revert hii
                      try revert hiX
                      try revert HLN
                      try revert HI1
                      try revert pp'
                      try revert pe'
                      try revert hW
                      try revert HW
                      try revert HRW6
                      try revert HO6
                      try revert y1
                      try revert y2
                      try revert y3
                      try revert y4
                      try revert y5
                      try revert y6
                      try revert y7
                      try revert z0
                      try revert z1
                      try revert z2
                      try revert z3
                      try revert z4
                      try revert z5
                      try revert z6
                      try revert z7
                      try revert HT8
                      try revert HN6
                      try revert HO7
                      try revert hR2
                      try revert hO2
                      try revert HR2
                      try revert HO2
                      try revert hi9
                      try revert hf1
                      try revert hbf
                      try revert r
                      try revert hps
                      try revert HTB
                      try revert HZ
                      try revert HXX
                      try revert a7
                      try revert cc
                      try revert hcc
                      try revert HCC
                      try revert HZ2
                      try revert hwk1
                      try revert hn
                      try revert lbb
                      try revert decide
                      try revert hki
                      try revert hiN
                      try revert HL9
                      try revert HZ3
                      try revert e2
                      try revert hiN2
                      try revert hst
                      try revert hneg
                      try revert nb
                      try revert hnb
                      try revert HNB
                      try revert mx
                      try revert hmx
                      try revert e4
                      try revert fl
                      try revert hfl
                      try revert HFL
                      try revert HFL2
                      try revert hkk
                      try revert hkN2
                      try revert hN9
                      try revert hwp
                      try revert bo
                      try revert hbo
                      try revert HBO
                      try revert HD1
                      try revert HD2
                      try revert hX2
                      try revert v2
                      try revert e
                      revert g_last
                      exact g_1.out
                    ·
                      (repeat (rename_i x_0 x_1 x_2 x_3 x_4 x_5 x_6 x_7 x_8 x_9 x_10 x_11 x_12 x_13 x_14 x_15 x_16 x_17 x_18 x_19 x_20 x_21 x_22 x_23 x_24 x_25 x_26 x_27 x_28 x_29 x_30 x_31 x_32 x_33 x_34 x_35 x_36 x_37 x_38 x_39 x_40 x_41 x_42 x_43 x_44 x_45 x_46 x_47 x_48 x_49 x_50 x_51 x_52 x_53 x_54 x_55 x_56 x_57 x_58 x_59 x_60 x_61 x_62 x_63; revert x_0 x_1 x_2 x_3 x_4 x_5 x_6 x_7 x_8 x_9 x_10 x_11 x_12 x_13 x_14 x_15 x_16 x_17 x_18 x_19 x_20 x_21 x_22 x_23 x_24 x_25 x_26 x_27 x_28 x_29 x_30 x_31 x_32 x_33 x_34 x_35 x_36 x_37 x_38 x_39 x_40 x_41 x_42 x_43 x_44 x_45 x_46 x_47 x_48 x_49 x_50 x_51 x_52 x_53 x_54 x_55 x_56 x_57 x_58 x_59 x_60 x_61 x_62 x_63))
                      (repeat (rename_i x_0 x_1 x_2 x_3 x_4 x_5 x_6 x_7; revert x_0 x_1 x_2 x_3 x_4 x_5 x_6 x_7))
                      (repeat (rename_i x_; revert x_))
                      first | revert u17 u18 u19 u20 u21 u22 u23 u24 u25 u26 u27 u28 u29 u30 u31 u32 u33 u34 u35 u36 u37 u38 u39 u40 u41 u42 u43 u44 u45 u46 u47 u48 u49 u50 u51 u52 u53 u54 u55 u56 u57 u58 u59 u60 u61 u62 u63 u64 u65 u66 u67 u68 u69 u70 u71 u72 u73 u74 u75 u76 u77 u78 u79 u80 u81 u82 u83 u84 u85 u86 u87 u88 u89 u90 u91 u92 u93 u94 u95 u96 u97 u98 u99 u100 u101 u102 u103 u104 u105 u106 u107 u108 u109 u110 u111 u112 u113 u114 u115 u116 u117 u118 u119 u120 u121 u122 u123 u124 u125 u126 u127 u128 u129 u130 u131 u132 u133 u134 u135 | skip
                      try revert A
                      try revert hb0
                      try revert heap
                      try revert size
                      try revert t
                      try revert Nat
                      try revert HB0
                      try revert HN
                      try revert k
                      try revert hk
                      try revert g
                      try revert o
                      try revert hg
                      try revert hc
                      try revert w1
                      try revert v
                      try revert win
                      try revert cap
                      try revert es
                      try revert hQ
                      try revert hG
                      try revert hl1
                      try revert hl4
                      try revert hw1
                      try revert hw2
                      try revert hcap
                      try revert c
                      try revert hLE
                      try revert hgq
                      try revert hnc
                      try revert HL
                      try revert And
                      try revert HG
                      try revert HNC
                      try revert N
                      try revert hN
                      try revert length
                      try revert hbq
                      try revert slice
                      try revert some
                      try revert hB1
                      try revert HB2
                      try revert HNR
                      try revert lt
                      try revert HQR
                      try revert HLE
                      try revert HGE
                      try revert HNN
                      try revert w2
                      try revert xs
                      try revert hE
                      try revert hxl
                      try revert hxn
                      try revert HO
                      try revert qb
                      try revert elAt
                      try revert ob
                      try revert h1
                      try revert h2
                      try revert h3
                      try revert hz
                      try revert h
                      try revert HXN
                      try revert vA
                      try revert vc
                      try revert hqb
                      try revert hO
                      try revert HO1
                      try revert n0'
                      try revert n1'
                      try revert n2'
                      try revert q0
                      try revert q1
                      try revert q2
                      try revert hN1
                      try revert a255
                      try revert y
                      try revert hy
                      try revert y0
                      try revert hkm
                      try revert tmod
                      try revert Int
                      try revert hne
                      try revert hne'
                      try revert hwk
                      try revert hkN
                      try revert hbz
                      try revert HR
                      try revert HO3
                      try revert HRB
                      try revert W3
                      try revert rb
                      try revert a63
                      try revert ht
                      try revert HT
                      try revert HTT
                      try revert m0
                      try revert m1
                      try revert m2
                      try revert r0
                      try revert r1
                      try revert r2
                      try revert r3
                      try revert r4
                      try revert r5
                      try revert r6
                      try revert r7
                      try revert w4
                      try revert hb
                      try revert HO4
                      try revert HR4
                      try revert w5
                      try revert HO5
                      try revert HR5
                      try revert w6
                      try revert HB6
                      try revert X
                      try revert hX
                      try revert HX
                      try revert hX0
                      try revert hX1
                      try revert e0
                      try revert he0
                      try revert HE0
                      try revert HST
                      try revert wr
                      try revert i
                      try revert hi
                      try revert hR
                      try revert hlt
                      try revert x
                      try revert hx
                      try revert st
                      try revert pp
                      try revert pe
                      try revert f1
                      try revert lq
                      try revert la
                      try revert b
                      try revert ps
                      try revert ys
                      try revert hrow
                      try revert hp
                      try revert h4
                      try revert h5
                      try revert h6
                      try revert h7
                      try revert h8
                      try revert hs
                      try revert hev
                      try revert hex
                      try revert ge
                      try revert oe
                      try revert cape
                      try revert hve
                      try revert hce
                      try revert c2
                      try revert c3
                      try revert c4
                      try revert hf2
                      try revert h0
                      try revert h9
                      try revert HF2
                      try revert HV
                      try revert HP
                      try revert HY
                      try revert HPS
                      try revert HRW
                      try revert hii
                      try revert hiX
                      try revert HLN
                      try revert HI1
                      try revert pp'
                      try revert pe'
                      try revert hW
                      try revert HW
                      try revert HRW6
                      try revert HO6
                      try revert y1
                      try revert y2
                      try revert y3
                      try revert y4
                      try revert y5
                      try revert y6
                      try revert y7
                      try revert z0
                      try revert z1
                      try revert z2
                      try revert z3
                      try revert z4
                      try revert z5
                      try revert z6
                      try revert z7
                      try revert HT8
                      try revert HN6
                      try revert HO7
                      try revert hR2
                      try revert hO2
                      try revert HR2
                      try revert HO2
                      try revert hi9
                      try revert hf1
                      try revert hbf
                      try revert r
                      try revert hps
                      try revert HTB
                      try revert HZ
                      try revert HXX
                      try revert a7
                      try revert cc
                      try revert hcc
                      try revert HCC
                      try revert HZ2
                      try revert hwk1
                      try revert hn
                      try revert lbb
                      try revert decide
                      try revert hki
                      try revert hiN
                      try revert HL9
                      try revert HZ3
                      try revert e2
                      try revert hiN2
                      try revert hst
                      try revert hneg
                      try revert nb
                      try revert hnb
                      try revert HNB
                      try revert mx
                      try revert hmx
                      try revert e4
                      try revert fl
                      try revert hfl
                      try revert HFL
                      try revert HFL2
                      try revert hkk
                      try revert hkN2
                      try revert hN9
                      try revert hwp
                      try revert bo
                      try revert hbo
                      try revert HBO
                      try revert HD1
                      try revert HD2
                      try revert hX2
                      try revert v2
                      try revert wc
                      try revert e
                      revert g_last
                      exact g_2.out
end Go.Proofs.Ytlpkeinablekpaa.Rn
