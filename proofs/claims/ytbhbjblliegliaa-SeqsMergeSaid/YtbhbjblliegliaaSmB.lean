/- Two lists of stamps us one. -/
import Derived.Test.YtbhbjblliegliaaSmA
namespace Go.Proofs.Ytbhbjblliegliaa.Sm
open Go.RowKit Go.Proofs.Ytbhbjblliegliaa Go.Proofs.Ytbhbjblliegliaa.Hp
set_option linter.unusedVariables false
set_option linter.unusedSimpArgs false
set_option maxRecDepth 100000
/-- Two lists us one: of alike ones that of the first list first. -/
def mg : List St → List St → List St
  | [], ys => ys
  | x :: xs, [] => x :: xs
  | x :: xs, y :: ys => if lt y x then y :: mg (x :: xs) ys else x :: mg xs (y :: ys)
termination_by xs ys => xs.length + ys.length
theorem mg_nil (xs : List St) : mg xs [] = xs := by cases xs <;> simp [mg]
theorem nil_mg (ys : List St) : mg [] ys = ys := by simp [mg]
theorem mg_len (n : Nat) : ∀ xs ys : List St, xs.length + ys.length = n → (mg xs ys).length = xs.length + ys.length := by
  induction n using Nat.strongRecOn with
  | ind n ih =>
    intro xs ys h
    cases xs with
    | nil => simp [mg]
    | cons x r =>
      cases ys with
      | nil => simp [mg]
      | cons y s =>
        unfold mg
        simp only [List.length_cons] at h
        split
        · rw [List.length_cons, ih (n - 1) (by omega) _ _ (by simp; omega)]
          simp; omega
        · rw [List.length_cons, ih (n - 1) (by omega) _ _ (by simp; omega)]
          simp; omega
theorem LS.one (w : World) (x : St) : LS (w.alloc (.cells #[.int .i64 x.t, .int .i64 x.q, .int .i64 x.a] 47)).drew (w.alloc (.cells #[.int .i64 x.t, .int .i64 x.q, .int .i64 x.a] 47)).drew.heap.size (.slice (some ⟨w.heap.size, 0, Option.none⟩) 1 1) [x] :=
  ⟨_, 1, rfl, Nat.le_refl _, by omega, fun k hk => by
    obtain rfl : k = 0 := by simpa using hk
    have r := Row.made w 47 #[.int .i64 x.t, .int .i64 x.q, .int .i64 x.a]
    exact ⟨_, _, rfl, by show w.heap.size < (w.alloc _).heap.size; simp, (r.cell 0).trans rfl, (r.cell 1).trans rfl, (r.cell 2).trans rfl⟩⟩
theorem make_st (n : Nat) (hn : n ≤ 1000) (w : World) : (Instr.makeSlice 43 (.int .i64 0) (.int .i64 (n : Int))).run Try.prog w = .ok (.slice (some ⟨w.heap.size, 0, Option.none⟩) 0 n) (w.alloc (.cells (madeCells #[.int .i64 0, .int .i64 0, .int .i64 0] (n * 3)) 47)) := by
  obtain ⟨i, hi, hz, hs, hb⟩ := info_parts st_info
  have hr := run_make (P := Try.prog) w 43 47 i _ Try.underlying43 hi hz .i64 .i64 0 n (by omega) (by omega) (by rw [hb]; omega) (by omega)
  simp only [Int.toNat_natCast, hs] at hr
  exact hr
theorem make_seg (n : Nat) (w : World) (hn : n ≤ 1000) : Seg (w.alloc (.cells (madeCells #[.int .i64 0, .int .i64 0, .int .i64 0] (n * 3)) 47)) 47 3 (.slice (some ⟨w.heap.size, 0, Option.none⟩) 0 n) 0 [] (some w.heap.size) :=
  ⟨by simp, _, n, rfl, Nat.zero_le _, by unfold maxLen; omega, .inr ⟨w.heap.size, 0, _, rfl, rfl, Row.made w _ _, by rw [size_madeCells]; omega, by simp⟩⟩
theorem run_append_zero {P : Program} {w : World} {e : TypeId} {size : Nat} {v : Value} {n : Nat} {xs : List Value} {ob : Option Nat} (t ty : TypeId) (i : TypeInfo) (ht : P.underlying t = some (.slice e)) (hi : P.info? e = some i) (h : Seg w e size v n xs ob) (A : Option Addr) (c : Nat) :
    (Builtin.append_ #[t, t] ty #[v, .slice A 0 c]).run P w = .ok v w := by
  obtain ⟨D, cap, rfl, hn, _⟩ := h.form
  cases A with
  | none => cases D <;> simp [Builtin.append_, run_underlying ht, sizeOf, typeInfo, hi, Builtin.lenOf, Builtin.firstCells, hn, storeCells]
  | some a =>
    have hf := run_firstCells_some (P := P) w i.size 0 a 0 c [] (by simp) (by simp)
    cases D <;> simp [Builtin.append_, run_underlying ht, sizeOf, typeInfo, hi, Builtin.lenOf, hf, hn, storeCells]
theorem wpList_append_ls {ops : Array Oper} {rest : List Oper} {o : Oper} {a : Act} {Q : Exit → Act → World → Prop} {w : World} (hgd : o.guard = Option.none) (s x : Operand)
    (hop : o.op = .call { callee := .builtin .append, args := #[s, x], argTypes := #[43, 43] }) (v : Value) (Z L : List St) (ob : Option Nat) (hs : a.eval s = v) (h : Seg w 47 3 v Z.length (hcells Z) ob)
    (xv : Value) (hx : a.eval x = xv) {B : Nat} (hl : LS w B xv L) (hlen : Z.length + L.length ≤ 1000)
    (hK : ∀ v' w' ob', Seg w' 47 3 v' (Z ++ L).length (hcells (Z ++ L)) ob' → Turns w w' (fun k => ob = some k) → (ob' = ob ∨ ∃ g, ob' = some g ∧ w.heap.size ≤ g) → wpList Try.prog ops Q rest (a.put o.dst v') w') :
    wpList Try.prog ops Q (o :: rest) a w := by
  refine wpList_plain hgd fun K hK' => ?_
  obtain ⟨i0, hi0, hz0, hz1, hz2⟩ := info_parts st_info
  obtain ⟨A, c, rfl, h1, h2, h3⟩ := id hl
  have hrun : ∃ v' w' ob', (Builtin.append_ #[43, 43] o.type #[v, .slice A L.length c]).run Try.prog w = .ok v' w' ∧ Seg w' 47 3 v' (Z ++ L).length (hcells (Z ++ L)) ob' ∧ Turns w w' (fun k => ob = some k) ∧ (ob' = ob ∨ ∃ g, ob' = some g ∧ w.heap.size ≤ g) := by
    rcases Nat.eq_zero_or_pos L.length with h0 | hp
    · obtain rfl : L = [] := List.eq_nil_of_length_eq_zero h0
      exact ⟨v, w, ob, run_append_zero _ _ i0 Try.underlying43 hi0 h A c, by simpa using h, Turns.refl _ _, .inl rfl⟩
    · obtain ⟨g, o2, rfl, _⟩ := h3 0 hp
      obtain ⟨v', w', ob', hrun, r1, r2, r3⟩ := run_append_seg (P := Try.prog) 43 o.type i0 _ 24 Try.underlying43 hi0 hz0 hz1 hz2 rfl (by decide) h ⟨g, o2, Option.none⟩ L.length c (hcells L) (hcells_len L) hl.news (hcells_one L) hp (by unfold maxLen; omega) (by omega)
      exact ⟨v', w', ob', hrun, by simpa [hcells] using r1, r2, r3⟩
  obtain ⟨v', w', ob', hrun, r1, r2, r3⟩ := hrun
  unfold Oper.wp
  simp [execOp, hop, resolve, invoke, builtin, hs, hx, hrun, Result.andThen]
  exact hK' _ _ (hK v' w' ob' r1 r2 r3)
theorem LS.head {W : World} {B : Nat} {v : Value} {x : St} {r : List St} (h : LS W B v (x :: r)) : ∃ g o c, v = .slice (some ⟨g, o, Option.none⟩) (r.length + 1) c ∧ r.length + 1 ≤ c ∧ c ≤ 9223372036854775807 ∧ g < B ∧ W.cell? ⟨g, o, Option.none⟩ = some (.int .i64 x.t) ∧ W.cell? ⟨g, o + 1, Option.none⟩ = some (.int .i64 x.q) ∧ W.cell? ⟨g, o + 2, Option.none⟩ = some (.int .i64 x.a) := by
  obtain ⟨A, c, rfl, h1, h2, h3⟩ := h
  obtain ⟨g, o, rfl, hg, c0, c1, c2⟩ := h3 0 (by simp)
  exact ⟨g, o, c, rfl, h1, h2, hg, by simpa using c0, by simpa using c1, by simpa using c2⟩
theorem LS.tail {W : World} {B g o n c : Nat} {x : St} {r : List St} (h : LS W B (.slice (some ⟨g, o, Option.none⟩) n c) (x :: r)) {A9 : Option Addr} (hA : (if c = 1 then some (⟨g, o, Option.none⟩ : Addr) else some ⟨g, o + 3, Option.none⟩) = A9) : LS W B (.slice A9 (n - 1) (c - 1)) r := by
  obtain ⟨A, c, e, h1, h2, h3⟩ := h
  injection e with e1 e2 e3
  subst e1 e2 e3
  have h1' : r.length + 1 ≤ c := by simpa using h1
  refine ⟨A9, c - 1, by simp, by omega, by omega, fun k hk => ?_⟩
  rw [if_neg (by omega)] at hA
  obtain ⟨g', o', e, hg, c0, c1, c2⟩ := h3 (k + 1) (by simp; omega)
  injection e with e
  injection e with e1 e2
  subst e1 e2
  have e0 : o + (k + 1) * 3 = o + 3 + k * 3 := by omega
  rw [e0] at c0 c1 c2
  exact ⟨_, _, hA.symm, hg, by simpa using c0, by simpa using c1, by simpa using c2⟩
def lenOf : Value → Nat
  | .slice _ n _ => n
  | _ => 0
/-- What lies there at a round. -/
structure TI (w W : World) (n : Nat) (R : List St) (va vb vm : Value) (us vs acc : List St) (oo : Option Nat) : Prop where
  a : LS W w.heap.size va us
  b : LS W w.heap.size vb vs
  m : Seg W 47 3 vm acc.length (hcells acc) oo
  own : ∀ g, oo = some g → w.heap.size ≤ g
  eq : acc ++ mg us vs = R
  ln : acc.length + us.length + vs.length = n
  be : Below w.heap.size w W
theorem take_at3 {P : Program} {ops : Array Oper} {Q : Exit → Act → World → Prop} {md : Region.Mode} {S : World → Prop} {fuel : Nat} {listed : Array Bool} {a : Act} {w : World} (i : Nat) (d : Tmp) (oi : Oper) {v : Value} (hi : ops[i]? = some oi) (hd : oi.dst = some d)
    (hs : Region.noSelect ops = true) (hf : Region.free md ops listed i = true) (hr : (Region.ready md ops listed).contains i = true)
    (hQ : ∀ c a w, Q (.panic c) (a.put oi.dst v) w → Q (.panic c) a w) (hy : YieldsIf P ops S oi v a) (hS : S w)
    (h : wpAnyH P md ops Q S fuel (listed.setIfInBounds i true) (a.put (some d) v) w) : wpAnyH P md ops Q S (fuel + 1) listed a w :=
  wpAnyH_take hi hs hf hr hQ hy hS (by rw [hd]; exact h)
set_option maxHeartbeats 4000000 in
theorem two_any (va vb : Value) (xs ys : List St) (w : World) (ha : LS w w.heap.size va xs) (hb : LS w w.heap.size vb ys) (hl : xs.length + ys.length ≤ 500) :
    Calls Try.prog 37 #[va, vb] w fun e w' => ∃ v ob, e = .returned v ∧ Seg w' 47 3 v (mg xs ys).length (hcells (mg xs ys)) ob ∧ Below w.heap.size w w' := by
  have hA := ha
  have hB := hb
  obtain ⟨A, c, rfl, _, _, _⟩ := ha
  obtain ⟨B, c2, rfl, _, _, _⟩ := hb
  have hR := mg_len _ xs ys rfl
  obtain ⟨R, hRe⟩ : ∃ R, mg xs ys = R := ⟨_, rfl⟩
  rw [hRe] at hR ⊢
  obtain ⟨n, hn⟩ : ∃ n, xs.length + ys.length = n := ⟨_, rfl⟩
  have hmk := make_st n (by omega)
  have HTI : Hid (TI w (w.alloc (.cells (madeCells #[.int .i64 0, .int .i64 0, .int .i64 0] (n * 3)) 47)) n R (.slice A xs.length c) (.slice B ys.length c2) (.slice (some ⟨w.heap.size, 0, none⟩) 0 n) xs ys [] (some w.heap.size)) := Lib.hid
    (have hbl : Below w.heap.size w (w.alloc (.cells (madeCells #[.int .i64 0, .int .i64 0, .int .i64 0] (n * 3)) 47)) := (Below.refl _ w).alloc (Nat.le_refl _) _
     ⟨hA.below hbl (Nat.le_refl _), hB.below hbl (Nat.le_refl _), make_seg n w (by omega), fun g e => by injection e with e; omega, by simpa using hRe, by simpa using hn, hbl⟩)
  obtain ⟨nx, hnx⟩ : ∃ n, xs.length = n := ⟨_, rfl⟩
  obtain ⟨ny, hny⟩ : ∃ n, ys.length = n := ⟨_, rfl⟩
  have HR := Lib.hid hR
  have hnn : (nx : Int) + (ny : Int) = (n : Int) := by omega
  have hn5 : n ≤ 500 := by omega
  have HN := Lib.hid hn
  rw [hnx, hny] at HTI ⊢
  clear hA hB hR hRe hn hl hnx hny
  go_enter Try.func37, Try.ntmps37
  go_upto_region 2 with fail
  generalize w.alloc (.cells (madeCells #[.int .i64 0, .int .i64 0, .int .i64 0] (n * 3)) 47) = W0 at HTI ⊢
  go_loopw [0, 1, 5] (fun s0 s1 s5 wr => Hid (∃ us vs acc oo, TI w wr n R s0 s1 s5 us vs acc oo)) (fun s0 s1 _ _ => lenOf s0 + lenOf s1)
  case atStart => exact Lib.hid ⟨_, _, _, _, HTI.out⟩
  case round =>
    obtain ⟨us, vs, acc, oo, hT⟩ := hrel.out
    clear hrel HTI hmk
    rcases us with _ | ⟨x, us⟩
    · have HEQ : Hid (acc ++ [] ++ vs = R) := Lib.hid (by have := hT.eq; rw [nil_mg] at this; simpa using this)
      have HVa := Lib.hid hT.a
      have HVb := Lib.hid hT.b
      have HM := Lib.hid hT.m
      have HOW := Lib.hid hT.own
      have HBE := Lib.hid hT.be
      have HLN := Lib.hid hT.ln

      obtain ⟨Au, cu, rfl, hcu, _, _⟩ := id hT.a
      obtain ⟨Av, cv, rfl, hcv, _, _⟩ := id hT.b
      obtain ⟨nv, hnv⟩ : ∃ n, vs.length = n := ⟨_, rfl⟩
      rw [hnv] at HVb hcv ⊢
      have HNV := Lib.hid hnv
      clear hT hnv
      rw [List.length_nil] at HVa hcu ⊢
      go_upto_region 6 with fail
      go_wp2_with (at_builtin; first
        | (refine wpList_append_ls rfl _ _ rfl _ (acc ++ []) vs o1 rfl HS1.out _ rfl HVb1.out (by have := HLN.out; simp at this ⊢; omega) ?_; intro v2 w2 o2 hs2 ht2 ho2; have HS2 := Lib.hid hs2; have HB2 := Lib.hid (ht2.below HB1.out HB1.out.size (fun g hg e => by have := HO1.out g e; omega)); clear hs2 ht2 ho2)
        | (go_loud (refine wpList_append_ls rfl _ _ rfl _ acc [] oo rfl HM.out _ rfl HVa.out (by have := HLN.out; simp at this ⊢; omega) ?_); intro v1 w1 o1 hs1 ht1 ho1; have HS1 := Lib.hid hs1; have HB1 := Lib.hid (ht1.below HBE.out HBE.out.size (fun g hg e => by have := HOW.out g e; omega)); have HO1 := Lib.hid (fun g (e : o1 = some g) => show w.heap.size ≤ g by
            rcases ho1 with h | ⟨g', h, hg'⟩
            · rw [h] at e; exact HOW.out g e
            · rw [h] at e; injection e with e; have := HBE.out.size; omega); have HVb1 := Lib.hid (HVb.out.below (ht1.below (Below.refl _ wr |>.mono HBE.out.size) HBE.out.size (fun g hg e => by have := HOW.out g e; omega)) (Nat.le_refl _)); clear hs1 ht1 ho1))
      go_ret
      have e : acc ++ [] ++ vs = R := HEQ.out
      rw [e] at HS2
      exact ⟨_, _, rfl, HS2.out, HB2.out⟩

    rcases vs with _ | ⟨y, vs⟩
    · have HEQ : Hid (acc ++ (x :: us) ++ [] = R) := Lib.hid (by have := hT.eq; rw [mg_nil] at this; simpa using this)
      have HVa := Lib.hid hT.a
      have HVb := Lib.hid hT.b
      have HM := Lib.hid hT.m
      have HOW := Lib.hid hT.own
      have HBE := Lib.hid hT.be
      have HLN := Lib.hid hT.ln

      obtain ⟨Au, cu, rfl, hcu, _, _⟩ := id hT.a
      obtain ⟨Av, cv, rfl, hcv, _, _⟩ := id hT.b
      obtain ⟨nv, hnv⟩ : ∃ n, (x :: us).length = n := ⟨_, rfl⟩
      rw [hnv] at HVa hcu ⊢
      have HNV := Lib.hid hnv
      have hnv0 : (0 : Int) < (nv : Int) := by rw [← hnv, List.length_cons]; omega
      clear hT hnv
      rw [List.length_nil] at HVb hcv ⊢
      go_upto_region 6 with fail
      go_wp2_with (at_builtin; first
        | (refine wpList_append_ls rfl _ _ rfl _ (acc ++ (x :: us)) [] o1 rfl HS1.out _ rfl HVb1.out (by have := HLN.out; simp at this ⊢; omega) ?_; intro v2 w2 o2 hs2 ht2 ho2; have HS2 := Lib.hid hs2; have HB2 := Lib.hid (ht2.below HB1.out HB1.out.size (fun g hg e => by have := HO1.out g e; omega)); clear hs2 ht2 ho2)
        | (go_loud (refine wpList_append_ls rfl _ _ rfl _ acc (x :: us) oo rfl HM.out _ rfl HVa.out (by have := HLN.out; simp at this ⊢; omega) ?_); intro v1 w1 o1 hs1 ht1 ho1; have HS1 := Lib.hid hs1; have HB1 := Lib.hid (ht1.below HBE.out HBE.out.size (fun g hg e => by have := HOW.out g e; omega)); have HO1 := Lib.hid (fun g (e : o1 = some g) => show w.heap.size ≤ g by
            rcases ho1 with h | ⟨g', h, hg'⟩
            · rw [h] at e; exact HOW.out g e
            · rw [h] at e; injection e with e; have := HBE.out.size; omega); have HVb1 := Lib.hid (HVb.out.below (ht1.below (Below.refl _ wr |>.mono HBE.out.size) HBE.out.size (fun g hg e => by have := HOW.out g e; omega)) (Nat.le_refl _)); clear hs1 ht1 ho1))
      go_ret
      have e : acc ++ (x :: us) ++ [] = R := HEQ.out
      rw [e] at HS2
      exact ⟨_, _, rfl, HS2.out, HB2.out⟩

    have HVa := Lib.hid hT.a
    have HVb := Lib.hid hT.b
    have HM := Lib.hid hT.m
    have HOW := Lib.hid hT.own
    have HBE := Lib.hid hT.be
    have HLN := Lib.hid hT.ln
    obtain ⟨ga, oa, ca, rfl, hca, hca9, hga, x0, x1, x2⟩ := hT.a.head
    obtain ⟨gb, ob, cb, rfl, hcb, hcb9, hgb, y0, y1, y2⟩ := hT.b.head
    obtain ⟨na, hna⟩ : ∃ n, us.length + 1 = n := ⟨_, rfl⟩
    obtain ⟨nb, hnb⟩ : ∃ n, vs.length + 1 = n := ⟨_, rfl⟩
    obtain ⟨Aa9, hAa9⟩ : ∃ A9, (if ca = 1 then some (⟨ga, oa, none⟩ : Addr) else some ⟨ga, oa + 3, none⟩) = A9 := ⟨_, rfl⟩
    obtain ⟨Ab9, hAb9⟩ : ∃ A9, (if cb = 1 then some (⟨gb, ob, none⟩ : Addr) else some ⟨gb, ob + 3, none⟩) = A9 := ⟨_, rfl⟩
    rw [hna] at HVa hca ⊢
    rw [hnb] at HVb hcb ⊢
    have hna0 : 0 < na := by omega
    have hnb0 : 0 < nb := by omega
    have hna1 : 1 ≤ na := hna0
    have hnb1 : 1 ≤ nb := hnb0
    have hia : (0 : Int) < (na : Int) := by omega
    have hib : (0 : Int) < (nb : Int) := by omega
    have hja : (1 : Int) ≤ (na : Int) := by omega
    have hjb : (1 : Int) ≤ (nb : Int) := by omega
    have hca1 : 1 ≤ ca := by omega
    have hcb1 : 1 ≤ cb := by omega
    have hacc : acc.length + 1 ≤ 500 := by have := HLN.out; simp at this; omega
    have hwr := HBE.out.size
    have HS6 : Hid (∀ V : World, Below w.heap.size wr V → V.cell? ⟨ga, oa, none⟩ = some (.int .i64 x.t) ∧ V.cell? ⟨ga, oa + 1, none⟩ = some (.int .i64 x.q) ∧ V.cell? ⟨ga, oa + 2, none⟩ = some (.int .i64 x.a) ∧ V.cell? ⟨gb, ob, none⟩ = some (.int .i64 y.t) ∧ V.cell? ⟨gb, ob + 1, none⟩ = some (.int .i64 y.q) ∧ V.cell? ⟨gb, ob + 2, none⟩ = some (.int .i64 y.a)) := Lib.hid (fun V hV => ⟨(hV.cell (p := ⟨ga, oa, none⟩) hga).trans x0, (hV.cell (p := ⟨ga, oa + 1, none⟩) hga).trans x1, (hV.cell (p := ⟨ga, oa + 2, none⟩) hga).trans x2, (hV.cell (p := ⟨gb, ob, none⟩) hgb).trans y0, (hV.cell (p := ⟨gb, ob + 1, none⟩) hgb).trans y1, (hV.cell (p := ⟨gb, ob + 2, none⟩) hgb).trans y2⟩)
    have HNA := Lib.hid hna
    have HNB := Lib.hid hnb
    have HT := Lib.hid hT
    obtain ⟨lb, hlb⟩ : ∃ lb, decide (lt y x) = lb := ⟨_, rfl⟩
    have HLB := Lib.hid hlb
    clear hT hna hnb hlb
    have HBW : Hid (Below wr.heap.size wr wr.drew) := Lib.hid (Below.refl _ wr).drew
    go_upto_region 3 with fail
    go_region_held3 (fun X => X.cell? ⟨ga, oa, none⟩ = some (.int .i64 x.t) ∧ X.cell? ⟨ga, oa + 1, none⟩ = some (.int .i64 x.q) ∧ X.cell? ⟨ga, oa + 2, none⟩ = some (.int .i64 x.a) ∧ X.cell? ⟨gb, ob, none⟩ = some (.int .i64 y.t) ∧ X.cell? ⟨gb, ob + 1, none⟩ = some (.int .i64 y.q) ∧ X.cell? ⟨gb, ob + 2, none⟩ = some (.int .i64 y.a))
      (first
        | with_reducible exact ⟨x0, x1, x2, y0, y1, y2⟩
        | with_reducible exact HS6.out _ (HBW.out.mono hwr)
        | fail)
      ((first
        | (go_at_call 59
           (with_reducible refine (less_any y x _).mono ?_)
           rintro e w3 ⟨rfl, hb⟩
           rw [HLB.out]
           have h3 := HBW.out.trans (hb.mono HBW.out.size)
           have HBW := Lib.hid h3
           clear hb h3)
        | fail))
    have HB3 : Hid (Below w.heap.size wr w3) := Lib.hid (HBW.out.mono hwr)
    have HSG3 := Lib.hid (HT.out.m.keep fun g hg => HBW.out.block g (HT.out.m.lt g hg))
    clear HBW x0 x1 x2 y0 y1 y2
    cases lb with
    | true =>
      have HEQ : Hid (acc ++ [y] ++ mg (x :: us) vs = R) := Lib.hid (by
        have h := HT.out.eq
        unfold mg at h
        rw [if_pos (of_decide_eq_true HLB.out)] at h
        simpa using h)
      go_upto_region 4 with fail
      have HBW := Lib.hid HB3.out.drew
      refine wp_region_noPanic ?_
      refine wp_region_held_drew (S := (fun X => X.cell? ⟨ga, oa, none⟩ = some (.int .i64 x.t) ∧ X.cell? ⟨ga, oa + 1, none⟩ = some (.int .i64 x.q) ∧ X.cell? ⟨ga, oa + 2, none⟩ = some (.int .i64 x.a) ∧ X.cell? ⟨gb, ob, none⟩ = some (.int .i64 y.t) ∧ X.cell? ⟨gb, ob + 1, none⟩ = some (.int .i64 y.q) ∧ X.cell? ⟨gb, ob + 2, none⟩ = some (.int .i64 y.a))) (by kernel_rfl) ?_ (fun hHeld => ?_)
      · exact HS6.out _ HBW.out
      refine take_at3 0 28 _ (v := ?v40) rfl rfl (by kernel_rfl) (by kernel_rfl) (by kernel_rfl) (fun _ _ _ h => h) (Or.inl ⟨by rfl, ?hy40⟩) (by assumption) ?rest40
      case hy40 =>
        intro wX hSw
        try dsimp only at hSw
        go_simp
        first
        | done
        | (with_reducible rfl)
      try simp only [Act.put, List.setIfInBounds_toArray, List.set_cons_zero, List.set_cons_succ]
      refine take_at3 1 29 _ (v := ?v41) rfl rfl (by kernel_rfl) (by kernel_rfl) (by kernel_rfl) (fun _ _ _ h => h) (Or.inl ⟨by rfl, ?hy41⟩) (by assumption) ?rest41
      case hy41 =>
        intro wX hSw
        try dsimp only at hSw
        go_simp
        first
        | done
        | (with_reducible rfl)
      try simp only [Act.put, List.setIfInBounds_toArray, List.set_cons_zero, List.set_cons_succ]
      refine take_at3 2 30 _ (v := ?v42) rfl rfl (by kernel_rfl) (by kernel_rfl) (by kernel_rfl) (fun _ _ _ h => h) (Or.inl ⟨by rfl, ?hy42⟩) (by assumption) ?rest42
      case hy42 =>
        intro wX hSw
        try dsimp only at hSw
        go_simp
        first
        | done
        | (with_reducible rfl)
      try simp only [Act.put, List.setIfInBounds_toArray, List.set_cons_zero, List.set_cons_succ]
      refine take_at3 3 31 _ (v := ?v43) rfl rfl (by kernel_rfl) (by kernel_rfl) (by kernel_rfl) (fun _ _ _ h => h) (Or.inl ⟨by rfl, ?hy43⟩) (by assumption) ?rest43
      case hy43 =>
        intro wX hSw
        try dsimp only at hSw
        go_simp
        first
        | done
        | (with_reducible rfl)
      try simp only [Act.put, List.setIfInBounds_toArray, List.set_cons_zero, List.set_cons_succ]
      refine take_at3 6 34 _ (v := ?v46) rfl rfl (by kernel_rfl) (by kernel_rfl) (by kernel_rfl) (fun _ _ _ h => h) (Or.inl ⟨by rfl, ?hy46⟩) (by assumption) ?rest46
      case hy46 =>
        intro wX hSw
        try dsimp only at hSw
        go_simp
        first
        | done
        | (with_reducible rfl)
      try simp only [Act.put, List.setIfInBounds_toArray, List.set_cons_zero, List.set_cons_succ]
      refine take_at3 7 35 _ (v := ?v47) rfl rfl (by kernel_rfl) (by kernel_rfl) (by kernel_rfl) (fun _ _ _ h => h) (Or.inl ⟨by rfl, ?hy47⟩) (by assumption) ?rest47
      case hy47 =>
        intro wX hSw
        try dsimp only at hSw
        go_simp
        first
        | done
        | (with_reducible rfl)
      try simp only [Act.put, List.setIfInBounds_toArray, List.set_cons_zero, List.set_cons_succ]
      refine wpAnyH_ready (rs := [4]) (by kernel_rfl) (by simp) ?_
      refine AllReadyH.cons rfl (fun K hK => ?_) AllReadyH.nil
      go_simp
      have hbl : Below w3.heap.size w3 (w3.alloc (.cells #[.int .i64 y.t, .int .i64 y.q, .int .i64 y.a] 47)).drew := ((Below.refl _ w3).alloc (Nat.le_refl _) _).drew
      have HLS1 : Hid (LS (w3.alloc (.cells #[.int .i64 y.t, .int .i64 y.q, .int .i64 y.a] 47)).drew (w3.alloc (.cells #[.int .i64 y.t, .int .i64 y.q, .int .i64 y.a] 47)).drew.heap.size (.slice (some ⟨w3.heap.size, 0, none⟩) 1 1) [y]) := Lib.hid (LS.one w3 y)
      have HBL := Lib.hid hbl
      clear hbl
      obtain ⟨w4, hw4⟩ : ∃ wz, (w3.alloc (.cells #[.int .i64 y.t, .int .i64 y.q, .int .i64 y.a] 47)).drew = wz := ⟨_, rfl⟩
      rw [hw4] at HLS1 HBL ⊢
      clear hw4
      have HBW : Hid (Below w.heap.size wr w4) := Lib.hid (HB3.out.trans (HBL.out.mono (by have := HB3.out.size; omega)))
      have HSG4 := Lib.hid (HSG3.out.keep fun g hg => HBL.out.block g (HSG3.out.lt g hg))

      try go_wp2_with fail
      refine hK.out _ _ ?_ (fun hHeld => ?_)
      · exact HS6.out _ HBW.out
      clear hK K
      try simp only [Act.put, List.setIfInBounds_toArray, List.set_cons_zero, List.set_cons_succ]
      refine wpAnyH_ready (rs := [5]) (by kernel_rfl) (by simp) ?_
      refine AllReadyH.cons rfl (fun K hK => ?_) AllReadyH.nil
      refine ls_app 33 _ (by rfl) _ _ rfl _ acc [y] oo rfl HSG4.out _ rfl HLS1.out (by simp) (by simp; omega) rfl ?_
      intro v5 w5 o5 hs5 ht5 ho5
      have HS5 := Lib.hid hs5
      have HB5 : Hid (Below w.heap.size wr w5) := Lib.hid (ht5.below HBW.out (by have := HBW.out.size; omega) (fun g hg e => by have := HOW.out g e; omega))
      have HO5 : Hid (∀ g, o5 = some g → w.heap.size ≤ g) := Lib.hid (fun g e => by
        rcases ho5 with h | ⟨g', h, hg'⟩
        · rw [h] at e; exact HOW.out g e
        · rw [h] at e; injection e with e; have := HBW.out.size; omega)
      clear HBW
      have HBW := HB5
      clear hs5 ht5 ho5
      refine hK.out _ _ ?_ (fun hHeld => ?_)
      · exact HS6.out _ HBW.out
      clear hK K
      try simp only [Act.put, List.setIfInBounds_toArray, List.set_cons_zero, List.set_cons_succ]
      refine take_at3 8 5 _ (v := ?v48) rfl rfl (by kernel_rfl) (by kernel_rfl) (by kernel_rfl) (fun _ _ _ h => h) (Or.inl ⟨by rfl, ?hy48⟩) (by assumption) ?rest48
      case hy48 =>
        intro wX hSw
        try dsimp only at hSw
        go_simp
        first
        | done
        | (with_reducible rfl)
      try simp only [Act.put, List.setIfInBounds_toArray, List.set_cons_zero, List.set_cons_succ]
      refine take_at3 9 1 _ (v := ?v49) rfl rfl (by kernel_rfl) (by kernel_rfl) (by kernel_rfl) (fun _ _ _ h => h) (Or.inl ⟨by rfl, ?hy49⟩) (by assumption) ?rest49
      case hy49 =>
        intro wX hSw
        try dsimp only at hSw
        go_simp
        first
        | done
        | (with_reducible rfl)
      try simp only [Act.put, List.setIfInBounds_toArray, List.set_cons_zero, List.set_cons_succ]
      refine wpAnyH_done (by kernel_rfl) ?_ _
      refine NoPanic.normal ?_

      go_wp2
      go_roundw
      case rel => exact Lib.hid ⟨x :: us, vs, acc ++ [y], o5, ⟨by have h := HVa.out.below HBW.out (Nat.le_refl _); simpa using h, (HVb.out.below HBW.out (Nat.le_refl _)).tail hAb9, by simpa using HS5.out, HO5.out, HEQ.out, by have := HLN.out; simp at this ⊢; omega, HBE.out.trans HBW.out⟩⟩
      case measure => simp [lenOf]; omega
    | false =>
      have HEQ : Hid (acc ++ [x] ++ mg us (y :: vs) = R) := Lib.hid (by
        have h := HT.out.eq
        unfold mg at h
        rw [if_neg (of_decide_eq_false HLB.out)] at h
        simpa using h)
      go_upto_region 5 with fail
      have HBW := Lib.hid HB3.out.drew
      refine wp_region_noPanic ?_
      refine wp_region_held_drew (S := (fun X => X.cell? ⟨ga, oa, none⟩ = some (.int .i64 x.t) ∧ X.cell? ⟨ga, oa + 1, none⟩ = some (.int .i64 x.q) ∧ X.cell? ⟨ga, oa + 2, none⟩ = some (.int .i64 x.a) ∧ X.cell? ⟨gb, ob, none⟩ = some (.int .i64 y.t) ∧ X.cell? ⟨gb, ob + 1, none⟩ = some (.int .i64 y.q) ∧ X.cell? ⟨gb, ob + 2, none⟩ = some (.int .i64 y.a))) (by kernel_rfl) ?_ (fun hHeld => ?_)
      · exact HS6.out _ HBW.out
      refine take_at3 0 36 _ (v := ?v50) rfl rfl (by kernel_rfl) (by kernel_rfl) (by kernel_rfl) (fun _ _ _ h => h) (Or.inl ⟨by rfl, ?hy50⟩) (by assumption) ?rest50
      case hy50 =>
        intro wX hSw
        try dsimp only at hSw
        go_simp
        first
        | done
        | (with_reducible rfl)
      try simp only [Act.put, List.setIfInBounds_toArray, List.set_cons_zero, List.set_cons_succ]
      refine take_at3 1 37 _ (v := ?v51) rfl rfl (by kernel_rfl) (by kernel_rfl) (by kernel_rfl) (fun _ _ _ h => h) (Or.inl ⟨by rfl, ?hy51⟩) (by assumption) ?rest51
      case hy51 =>
        intro wX hSw
        try dsimp only at hSw
        go_simp
        first
        | done
        | (with_reducible rfl)
      try simp only [Act.put, List.setIfInBounds_toArray, List.set_cons_zero, List.set_cons_succ]
      refine take_at3 2 38 _ (v := ?v52) rfl rfl (by kernel_rfl) (by kernel_rfl) (by kernel_rfl) (fun _ _ _ h => h) (Or.inl ⟨by rfl, ?hy52⟩) (by assumption) ?rest52
      case hy52 =>
        intro wX hSw
        try dsimp only at hSw
        go_simp
        first
        | done
        | (with_reducible rfl)
      try simp only [Act.put, List.setIfInBounds_toArray, List.set_cons_zero, List.set_cons_succ]
      refine take_at3 3 39 _ (v := ?v53) rfl rfl (by kernel_rfl) (by kernel_rfl) (by kernel_rfl) (fun _ _ _ h => h) (Or.inl ⟨by rfl, ?hy53⟩) (by assumption) ?rest53
      case hy53 =>
        intro wX hSw
        try dsimp only at hSw
        go_simp
        first
        | done
        | (with_reducible rfl)
      try simp only [Act.put, List.setIfInBounds_toArray, List.set_cons_zero, List.set_cons_succ]
      refine take_at3 6 42 _ (v := ?v56) rfl rfl (by kernel_rfl) (by kernel_rfl) (by kernel_rfl) (fun _ _ _ h => h) (Or.inl ⟨by rfl, ?hy56⟩) (by assumption) ?rest56
      case hy56 =>
        intro wX hSw
        try dsimp only at hSw
        go_simp
        first
        | done
        | (with_reducible rfl)
      try simp only [Act.put, List.setIfInBounds_toArray, List.set_cons_zero, List.set_cons_succ]
      refine take_at3 7 43 _ (v := ?v57) rfl rfl (by kernel_rfl) (by kernel_rfl) (by kernel_rfl) (fun _ _ _ h => h) (Or.inl ⟨by rfl, ?hy57⟩) (by assumption) ?rest57
      case hy57 =>
        intro wX hSw
        try dsimp only at hSw
        go_simp
        first
        | done
        | (with_reducible rfl)
      try simp only [Act.put, List.setIfInBounds_toArray, List.set_cons_zero, List.set_cons_succ]
      refine wpAnyH_ready (rs := [4]) (by kernel_rfl) (by simp) ?_
      refine AllReadyH.cons rfl (fun K hK => ?_) AllReadyH.nil
      go_simp
      have hbl : Below w3.heap.size w3 (w3.alloc (.cells #[.int .i64 x.t, .int .i64 x.q, .int .i64 x.a] 47)).drew := ((Below.refl _ w3).alloc (Nat.le_refl _) _).drew
      have HLS1 : Hid (LS (w3.alloc (.cells #[.int .i64 x.t, .int .i64 x.q, .int .i64 x.a] 47)).drew (w3.alloc (.cells #[.int .i64 x.t, .int .i64 x.q, .int .i64 x.a] 47)).drew.heap.size (.slice (some ⟨w3.heap.size, 0, none⟩) 1 1) [x]) := Lib.hid (LS.one w3 x)
      have HBL := Lib.hid hbl
      clear hbl
      obtain ⟨w4, hw4⟩ : ∃ wz, (w3.alloc (.cells #[.int .i64 x.t, .int .i64 x.q, .int .i64 x.a] 47)).drew = wz := ⟨_, rfl⟩
      rw [hw4] at HLS1 HBL ⊢
      clear hw4
      have HBW : Hid (Below w.heap.size wr w4) := Lib.hid (HB3.out.trans (HBL.out.mono (by have := HB3.out.size; omega)))
      have HSG4 := Lib.hid (HSG3.out.keep fun g hg => HBL.out.block g (HSG3.out.lt g hg))

      try go_wp2_with fail
      refine hK.out _ _ ?_ (fun hHeld => ?_)
      · exact HS6.out _ HBW.out
      clear hK K
      try simp only [Act.put, List.setIfInBounds_toArray, List.set_cons_zero, List.set_cons_succ]
      refine wpAnyH_ready (rs := [5]) (by kernel_rfl) (by simp) ?_
      refine AllReadyH.cons rfl (fun K hK => ?_) AllReadyH.nil
      refine ls_app 41 _ (by rfl) _ _ rfl _ acc [x] oo rfl HSG4.out _ rfl HLS1.out (by simp) (by simp; omega) rfl ?_
      intro v5 w5 o5 hs5 ht5 ho5
      have HS5 := Lib.hid hs5
      have HB5 : Hid (Below w.heap.size wr w5) := Lib.hid (ht5.below HBW.out (by have := HBW.out.size; omega) (fun g hg e => by have := HOW.out g e; omega))
      have HO5 : Hid (∀ g, o5 = some g → w.heap.size ≤ g) := Lib.hid (fun g e => by
        rcases ho5 with h | ⟨g', h, hg'⟩
        · rw [h] at e; exact HOW.out g e
        · rw [h] at e; injection e with e; have := HBW.out.size; omega)
      clear HBW
      have HBW := HB5
      clear hs5 ht5 ho5
      refine hK.out _ _ ?_ (fun hHeld => ?_)
      · exact HS6.out _ HBW.out
      clear hK K
      try simp only [Act.put, List.setIfInBounds_toArray, List.set_cons_zero, List.set_cons_succ]
      refine take_at3 8 5 _ (v := ?v58) rfl rfl (by kernel_rfl) (by kernel_rfl) (by kernel_rfl) (fun _ _ _ h => h) (Or.inl ⟨by rfl, ?hy58⟩) (by assumption) ?rest58
      case hy58 =>
        intro wX hSw
        try dsimp only at hSw
        go_simp
        first
        | done
        | (with_reducible rfl)
      try simp only [Act.put, List.setIfInBounds_toArray, List.set_cons_zero, List.set_cons_succ]
      refine take_at3 9 0 _ (v := ?v59) rfl rfl (by kernel_rfl) (by kernel_rfl) (by kernel_rfl) (fun _ _ _ h => h) (Or.inl ⟨by rfl, ?hy59⟩) (by assumption) ?rest59
      case hy59 =>
        intro wX hSw
        try dsimp only at hSw
        go_simp
        first
        | done
        | (with_reducible rfl)
      try simp only [Act.put, List.setIfInBounds_toArray, List.set_cons_zero, List.set_cons_succ]
      refine wpAnyH_done (by kernel_rfl) ?_ _
      refine NoPanic.normal ?_

      go_wp2
      go_roundw
      case rel => exact Lib.hid ⟨us, y :: vs, acc ++ [x], o5, ⟨(HVa.out.below HBW.out (Nat.le_refl _)).tail hAa9, by have h := HVb.out.below HBW.out (Nat.le_refl _); simpa using h, by simpa using HS5.out, HO5.out, HEQ.out, by have := HLN.out; simp at this ⊢; omega, HBE.out.trans HBW.out⟩⟩
      case measure => simp [lenOf]; omega
end Go.Proofs.Ytbhbjblliegliaa.Sm
