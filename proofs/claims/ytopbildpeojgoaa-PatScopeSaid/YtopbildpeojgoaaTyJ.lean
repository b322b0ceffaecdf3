/- The kind of what a predicate comes to: typing.Kind. -/
import Derived.Test.YtopbildpeojgoaaTyI
namespace Go.Proofs.Ytopbildpeojgoaa.Ty
open Go.RowKit Go.Proofs.Ytopbildpeojgoaa Go.Proofs.Ytopbildpeojgoaa.Sch
set_option linter.unusedVariables false
set_option maxRecDepth 100000
/-- The kind of a part, by the kinds of those that it is of. -/
def partK (ts : List Ty) (bs : List Bd) (n : Nd) (L : List Int) : Int × Int := if n.op = 1 then (n.k, 0) else if n.op = 2 then fieldK ts bs n.v n.f else opK n.op L
set_option maxHeartbeats 1000000 in
theorem part_field (p : Option Addr) (ts : List Ty) (sv : Value) (bs : List Bd) (v f : ByteArray) (A : Option Addr) (n c : Nat) (w : World) (hs : Sc w w.heap.size p ts) (hb : Bs w w.heap.size sv bs) :
    Calls Try.prog 227 #[.pointer p, sv, .agg #[.int .i64 2, .int .i64 0, .int .i64 0, .string ⟨#[]⟩, .bool false, .string v, .string f], .slice A n c] w (KPost w (fieldK ts bs v f)) := by
  have hX : Below w.heap.size w ((w.alloc (.cells #[.int .i64 2, .int .i64 0, .int .i64 0, .string ⟨#[]⟩, .bool false, .string v, .string f] 86)).alloc (.cells #[.slice A n c] 28)) := ((Below.refl _ w).alloc (Nat.le_refl _) _).alloc (by simp) _
  have HA := Lib.hid (field_any p ts sv bs v f _ (hs.below hX hX.size) (hb.below hX hX.size))
  have HX := Lib.hid hX
  obtain ⟨bA, bc, rfl, hx1, hx2, hx3⟩ := hb
  clear hs hX hx1 hx2 hx3
  go_enter Try.func227, Try.ntmps227
  go_wp2_with fail
  refine HA.out.mono ?_
  rintro e w1 ⟨rfl, hb1⟩
  have HB := Lib.hid (HX.out.trans (hb1.mono HX.out.size))
  clear hb1
  go_wp2
  go_ret2
  exact ⟨rfl, HB.out⟩
theorem part_ok (p : Option Addr) (ts : List Ty) (sv : Value) (bs : List Bd) (nd : Nd) (v : Value) (L : List Int) (w : World) (hs : Sc w w.heap.size p ts) (hb : Bs w w.heap.size sv bs) (hn : OkN nd) (hL : IL w w.heap.size v L) (h0 : 0 < partsI nd.op → 0 < L.length) :
    Calls Try.prog 227 #[.pointer p, sv, .agg #[.int .i64 nd.op, .int .i64 nd.k, .int .i64 nd.i, .string nd.s, .bool nd.b, .string nd.v, .string nd.f], v] w (KPost w (partK ts bs nd L)) := by
  obtain ⟨A, c, rfl, h1, h2, h3⟩ := id hL
  cases hn with
  | const h => exact part_const _ _ _ _ _ _ _ _ _ _ _ w
  | field hv hf => exact part_field p ts sv bs _ _ _ _ _ w hs hb
  | op o g1 g2 =>
    have hp : 0 < partsI o := by
      unfold partsI
      rw [if_neg (by omega)]
      split
      · omega
      · rw [if_pos (by omega)]; omega
    have e : partK ts bs ⟨o, 0, 0, ⟨#[]⟩, false, ⟨#[]⟩, ⟨#[]⟩⟩ L = opK o L := by
      unfold partK
      dsimp only
      rw [if_neg (by omega), if_neg (by omega)]
    rw [e]
    exact part_op _ _ _ o g1 g2 L w hL (h0 hp)
theorem one_newsI (w : World) (x : Value) : ∀ j u, [x][j]? = some u → (w.alloc (.cells #[x] 3)).cell? ((⟨w.heap.size, 0, none⟩ : Addr).add j) = some u := by
  intro j u hj
  match j, hj with
  | 0, hj => simp at hj; subst hj; simp [Addr.add]
def stepK (ts : List Ty) (bs : List Bd) (st : List Int) (n : Nd) : Int × Int := partK ts bs n (st.drop (st.length - (partsI n.op).toNat))
/-- The kind of a predicate, and what is wrong. -/
def kindS (ts : List Ty) (bs : List Bd) : List Nd → List Int → Int × Int
  | [], st => (st.headD 0, 0)
  | n :: r, st => if (stepK ts bs st n).2 = 0 then kindS ts bs r (st.take (st.length - (partsI n.op).toNat) ++ [(stepK ts bs st n).1]) else (0, (stepK ts bs st n).2)
theorem Seg.front {w : World} {e : TypeId} {size n cap : Nat} {A : Option Addr} {xs : List Value} {ob : Option Nat} (h : Seg w e size (.slice A n cap) n xs ob) (k : Nat) (hk : k ≤ n) : Seg w e size (.slice A k cap) k (xs.take (k * size)) ob := by
  obtain ⟨h0, A', c, hv, h1, h2, h3⟩ := h
  injection hv with e1 e2 e3
  subst e1 e3
  have hks : k * size ≤ n * size := Nat.mul_le_mul_right _ hk
  refine ⟨by rw [List.length_take, h0]; omega, _, _, rfl, by omega, h2, ?_⟩
  rcases h3 with h3 | ⟨g, o, cur, a1, a2, a3, a4, a5⟩
  · exact .inl h3
  · refine .inr ⟨g, o, cur, a1, a2, a3, a4, ?_⟩
    rw [← a5, List.take_take, Nat.min_eq_left hks]
theorem il_of_seg {w : World} {A : Option Addr} {n c : Nat} {L : List Int} {ob : Option Nat} (h : Seg w 3 1 (.slice A n c) n (L.map (Value.int .i64)) ob) (hn : L.length = n) : IL w w.heap.size (.slice A n c) L := by
  obtain ⟨_, c', e, h1, h2⟩ := h.form
  injection e with e1 e2 e3
  subst e1 e3
  subst hn
  refine ⟨_, _, rfl, h1, by unfold maxLen at h2; omega, fun k hk => ?_⟩
  obtain ⟨g, o, cap, e, ho, _, _, hc, _⟩ := h.shape (by omega)
  injection e with e1 e2 e3
  subst e1
  exact ⟨g, o, rfl, h.lt g ho, hc k _ (by rw [List.getElem?_map, List.getElem?_eq_getElem hk]; rfl)⟩
theorem int_info : (Try.prog.info? 3).map (fun i => (i.zero, i.size, i.bytes)) = some (some (.int .i64 0), 1, 8) := by kernel_rfl
/-- The kinds so far. -/
structure Ks (w wr : World) (v : Value) (st : List Int) : Prop where
  be : Below w.heap.size w wr
  sg : (st = [] ∧ v = .slice none 0 0) ∨ (st ≠ [] ∧ ∃ g, Seg wr 3 1 v st.length (st.map (Value.int .i64)) (some g) ∧ w.heap.size ≤ g)
theorem Ks.call {w w1 w2 : World} {v : Value} {st : List Int} (h : Ks w w1 v st) (g : Below w1.heap.size w1 w2) : Ks w w2 v st := by
  refine ⟨h.be.trans (g.mono h.be.size), ?_⟩
  rcases h.sg with h1 | ⟨h1, b, h2, h3⟩
  · exact .inl h1
  · exact .inr ⟨h1, b, h2.turns (Turns.of_below g) (fun _ _ x => x), h3⟩
theorem Ks.seg {w wr : World} {v : Value} {st : List Int} (h : Ks w wr v st) : ∃ ob, Seg wr 3 1 v st.length (st.map (Value.int .i64)) ob ∧ ∀ g, ob = some g → w.heap.size ≤ g := by
  rcases h.sg with ⟨rfl, rfl⟩ | ⟨h1, b, h2, h3⟩
  · exact ⟨none, Seg.nil _ _ _, fun g h => by cases h⟩
  · exact ⟨some b, h2, fun g h => by cases h; exact h3⟩
theorem Ks.push {w wr w2 : World} {v v2 : Value} {st : List Int} {k : Nat} {x : Int} {ob ob2 : Option Nat} {o : Obj} (h : Ks w wr v st) (hk : k ≤ st.length) (ho : ∀ g, ob = some g → w.heap.size ≤ g)
    (hs : Seg w2 3 1 v2 (k + 1) ((st.map (Value.int .i64)).take (k * 1) ++ [.int .i64 x]) ob2) (ht : Turns (wr.alloc o) w2 (fun g => ob = some g)) (ho2 : ob2 = ob ∨ ∃ g, ob2 = some g ∧ (wr.alloc o).heap.size ≤ g) : Ks w w2 v2 (st.take k ++ [x]) := by
  have hz := h.be.size
  refine ⟨ht.below (h.be.alloc hz o) (by simp; omega) (fun j hj e => by have := ho _ e; omega), .inr ⟨by simp, ?_⟩⟩
  have e : ((st.take k ++ [x]).map (Value.int .i64)) = (st.map (Value.int .i64)).take (k * 1) ++ [.int .i64 x] := by simp
  have hl : (st.take k ++ [x]).length = k + 1 := by simp; omega
  have hb : ∃ g, ob2 = some g := by
    cases ob2 with
    | some g => exact ⟨g, rfl⟩
    | none =>
      exfalso
      obtain ⟨_, A', cap', _, r1, _, ⟨r2, _⟩ | ⟨_, _, _, _, r3, _⟩⟩ := hs
      · omega
      · cases r3
  obtain ⟨g, rfl⟩ := hb
  refine ⟨g, by rw [e, hl]; exact hs, ?_⟩
  rcases ho2 with e2 | ⟨g', e2, hg'⟩
  · exact ho g e2.symm
  · cases e2
    simp at hg'
    omega
/-- What the loop holds. -/
structure Kl (w wr : World) (ts : List Ty) (bs : List Bd) (l : List Nd) (v : Value) (k : Nat) (R : Int × Int) : Prop where
  st : ∃ st, Ks w wr v st ∧ dep (l.take k) = st.length ∧ kindS ts bs (l.drop k) st = R
set_option maxHeartbeats 4000000 in
theorem kind_any (p : Option Addr) (ts : List Ty) (sv : Value) (bs : List Bd) (v : Value) (l : List Nd) (w : World) (hs : Sc w w.heap.size p ts) (hb : Bs w w.heap.size sv bs) (hl : Ns w w.heap.size v l) (hg : Good l) :
    Calls Try.prog 204 #[.pointer p, sv, v] w (KPost w (kindS ts bs l [])) := by
  have HS := Lib.hid hs
  have HB := Lib.hid hb
  have HL := Lib.hid hl
  have HG := Lib.hid hg
  obtain ⟨R, hR⟩ : ∃ R, kindS ts bs l [] = R := ⟨_, rfl⟩
  have HR := Lib.hid hR
  obtain ⟨bA, bc, rfl, hx1, hx2, hx3⟩ := hb
  obtain ⟨A, c, rfl, hnc, hcm, hx4⟩ := hl
  obtain ⟨n, hn⟩ : ∃ n, l.length = n := ⟨_, rfl⟩
  have h64 := hg.len
  rw [hn] at HL hnc h64 ⊢
  rw [hR]
  have HN := Lib.hid hn
  clear hx1 hx2 hx3 hx4 hn hg hs hR
  go_enter Try.func204, Try.ntmps204
  go_wp2_with fail
  refine (tmay_yes (.slice A n c) l _ HL.out HG.out).mono ?_
  rintro e w1 ⟨rfl, hb1⟩
  have HK0 : Hid (Kl w w1 ts bs l (.slice none 0 0) 0 R) := Lib.hid ⟨[], ⟨hb1, .inl ⟨rfl, rfl⟩⟩, rfl, HR.out⟩
  clear hb1
  go_wp2
  go_loopw [19, 8, 10, 11, 12, 13] (fun v19 v8 s10 s11 s12 s13 wx => ∃ k : Nat, k ≤ n ∧ v19 = .int .i64 k ∧ Hid (Kl w wx ts bs l v8 k R)) (fun v19 _ _ _ _ _ _ => n - (intOf v19).toNat)
  case atStart => exact ⟨0, by omega, rfl, HK0⟩
  case round =>
    clear HK0
    obtain ⟨k, hkn, rfl, HK⟩ := hrel
    obtain ⟨V, rfl⟩ : ∃ V, V = wr := ⟨_, rfl⟩
    obtain ⟨st, hks, hdep, hkr⟩ := HK.out.st
    obtain ⟨ob, hsg, hob⟩ := hks.seg
    obtain ⟨kA, kc, rfl, hk1, hk2⟩ := hsg.form
    have hk9 : kc ≤ 9223372036854775807 := by unfold maxLen at hk2; omega
    obtain ⟨d, hd⟩ : ∃ d, st.length = d := ⟨_, rfl⟩
    have hbd := HG.out.bd k (by rw [HN.out]; exact hkn)
    rw [hdep, hd] at hbd
    rw [hd] at hsg hk1 ⊢
    by_cases hlt : k < n
    · have hki : (k : Int) < (n : Int) := by omega
      have hkl : k < l.length := by rw [HN.out]; exact hlt
      obtain ⟨A', c', e1, hx1, hx2, h3⟩ := HL.out.below hks.be (Nat.le_refl _)
      injection e1 with e1 e2 e3
      subst e1 e3
      clear e2 hx1 hx2
      obtain ⟨g, o, rfl, hgw, hcl⟩ := h3 k hkl
      have hok := HG.out.ok k hkl
      have hlow := HG.out.low k hkl
      have hp2 := hok.parts
      have hdt := dep_take hkl
      rw [hdep, hd] at hlow hdt
      have hdrop : l.drop k = l[k] :: l.drop (k + 1) := by rw [List.getElem_cons_drop]
      rw [hdrop] at hkr
      unfold kindS at hkr
      obtain ⟨nd, hnd⟩ : ∃ nd, l[k] = nd := ⟨_, rfl⟩
      rw [hnd] at hcl hok hlow hp2 hdt hkr
      obtain ⟨pp, hpp⟩ : ∃ pp : Nat, partsI nd.op = pp := ⟨(partsI nd.op).toNat, by omega⟩
      rw [hpp] at hlow hp2 hdt hkr
      rw [Int.toNat_natCast, hd] at hkr
      obtain ⟨cu, hcu⟩ : ∃ cu : Nat, d - pp = cu := ⟨_, rfl⟩
      rw [hcu] at hkr
      have hcud : cu ≤ d := by omega
      have hcui : (d : Int) - (pp : Int) = (cu : Int) := by omega
      obtain ⟨x, hx⟩ : ∃ x, stepK ts bs st nd = x := ⟨_, rfl⟩
      obtain ⟨x1, x2⟩ := x
      rw [hx] at hkr
      dsimp only at hkr
      have hxp : partK ts bs nd (st.drop cu) = (x1, x2) := by rw [← hx]; unfold stepK; rw [hpp, Int.toNat_natCast, hd, hcu]
      have h0L : 0 < partsI nd.op → 0 < (st.drop cu).length := fun h => by rw [hpp] at h; rw [List.length_drop, hd]; omega
      have HDEP : Hid (dep (l.take (k + 1)) = ((st.take cu ++ [x1]).length : Int)) := Lib.hid (by rw [hdt, List.length_append, List.length_take, hd]; simp; omega)
      have HNO : Hid (¬ x2 = 0 → (0, x2) = R) := Lib.hid (fun h => by rw [if_neg h] at hkr; exact hkr)
      have HYES : Hid (x2 = 0 → kindS ts bs (l.drop (k + 1)) (st.take cu ++ [x1]) = R) := Lib.hid (fun h => by rw [if_pos h] at hkr; exact hkr)
      have HHX := Lib.hid hxp
      have HOK := Lib.hid hok
      have HPP := Lib.hid hpp
      have HKS := Lib.hid hks
      have HSG := Lib.hid hsg
      have HOB := Lib.hid hob
      have HD := Lib.hid hd
      have H0L := Lib.hid h0L
      have c0 := hcl 0 (.int .i64 nd.op) rfl
      have c1 := hcl 1 (.int .i64 nd.k) rfl
      have c2 := hcl 2 (.int .i64 nd.i) rfl
      have c3 := hcl 3 (.string nd.s) rfl
      have c4 := hcl 4 (.bool nd.b) rfl
      have c5 := hcl 5 (.string nd.v) rfl
      have c6 := hcl 6 (.string nd.f) rfl
      simp only [Nat.add_zero] at c0
      clear hcl h3 hnd hpp hok hdt hkr hks hsg hob hd h0L hx hxp hdrop hdep HK hk2 hlow hp2 hcu
      go_wp2_with fail
      refine (parts_is nd.op pp _ HPP.out).mono ?_
      rintro e w2 ⟨rfl, rfl⟩
      have hB3 : Below V.heap.size V (V.alloc (.cells #[.int .i64 nd.op, .int .i64 nd.k, .int .i64 nd.i, .string nd.s, .bool nd.b, .string nd.v, .string nd.f] 86)) := (Below.refl _ V).alloc (Nat.le_refl _) _
      have hr3 : Row (V.alloc (.cells #[.int .i64 nd.op, .int .i64 nd.k, .int .i64 nd.i, .string nd.s, .bool nd.b, .string nd.v, .string nd.f] 86)) V.heap.size 86 #[.int .i64 nd.op, .int .i64 nd.k, .int .i64 nd.i, .string nd.s, .bool nd.b, .string nd.v, .string nd.f] := Row.made _ _ _
      have HKS3 := Lib.hid (HKS.out.call hB3)
      have HSG3 := Lib.hid (HSG.out.turns (Turns.of_below hB3) (fun _ _ x => x))
      have HR3 := Lib.hid hr3
      clear hB3 hr3 c0 c1 c2 c3 c4 c5 c6
      go_upto_region 8 with fail
      generalize (V.alloc (.cells #[.int .i64 nd.op, .int .i64 nd.k, .int .i64 nd.i, .string nd.s, .bool nd.b, .string nd.v, .string nd.f] 86)) = W3 at HKS3 HSG3 HR3 ⊢
      generalize V.heap.size = tb at HR3 ⊢
      have e0 : W3.cell? ⟨tb, 0, none⟩ = some (.int .i64 nd.op) := (HR3.out.cell 0).trans rfl
      have e1 : W3.cell? ⟨tb, 1, none⟩ = some (.int .i64 nd.k) := (HR3.out.cell 1).trans rfl
      have e2 : W3.cell? ⟨tb, 2, none⟩ = some (.int .i64 nd.i) := (HR3.out.cell 2).trans rfl
      have e3 : W3.cell? ⟨tb, 3, none⟩ = some (.string nd.s) := (HR3.out.cell 3).trans rfl
      have e4 : W3.cell? ⟨tb, 4, none⟩ = some (.bool nd.b) := (HR3.out.cell 4).trans rfl
      have e5 : W3.cell? ⟨tb, 5, none⟩ = some (.string nd.v) := (HR3.out.cell 5).trans rfl
      have e6 : W3.cell? ⟨tb, 6, none⟩ = some (.string nd.f) := (HR3.out.cell 6).trans rfl
      have htb := HR3.out.lt
      have hcui2 : (cu : Int) ≤ (d : Int) := by omega
      have hPart : Hid (∀ (v : Value) (W : World), Below W3.heap.size W3 W → IL W3 W3.heap.size v (st.drop cu) → Calls Try.prog 227 #[.pointer p, .slice bA bs.length bc, .agg #[.int .i64 nd.op, .int .i64 nd.k, .int .i64 nd.i, .string nd.s, .bool nd.b, .string nd.v, .string nd.f], v] W (KPost W (x1, x2))) := Lib.hid (fun v W hW hv => by
        have hw : Below w.heap.size w W := HKS3.out.be.trans (hW.mono HKS3.out.be.size)
        rw [← HHX.out]
        exact part_ok p ts _ bs nd v _ W (HS.out.below hw hw.size) (HB.out.below hw hw.size) HOK.out (hv.below hW hW.size) H0L.out)
      have hsl : (∃ v35 : Value, IL W3 W3.heap.size v35 (st.drop cu) ∧ ((kA = none ∧ d = 0 ∧ cu = 0 ∧ kc = 0 ∧ v35 = .slice none 0 0) ∨ (∃ g1 o1, kA = some ⟨g1, o1, none⟩ ∧ (cu < kc ∧ ¬ kc = cu) ∧ v35 = .slice (some ⟨g1, o1 + cu, none⟩) (d - cu) (kc - cu)) ∨ (∃ g1 o1, kA = some ⟨g1, o1, none⟩ ∧ cu = d ∧ d = kc ∧ v35 = .slice (some ⟨g1, o1, none⟩) 0 0))) := by
        rcases HKS3.out.sg with ⟨hst, hv⟩ | ⟨hst, b, hsb, hbb⟩
        · injection hv with q1 q2 q3
          have hd0 : d = 0 := by rw [← HD.out, hst]; rfl
          refine ⟨.slice none 0 0, ?_, .inl ⟨q1, hd0, by omega, q3, rfl⟩⟩
          rw [hst, List.drop_nil]
          exact IL.zero _ _
        · obtain ⟨g1, o1, cap, q1, q2, q3, q4, q5, q6⟩ := hsb.shape (List.length_pos_iff.2 hst)
          injection q1 with q1 q1b q1c
          have hdd : (st.drop cu).length = d - cu := by rw [List.length_drop, HD.out]
          by_cases hcc : cu < kc
          · refine ⟨_, ?_, .inr (.inl ⟨g1, o1, q1, ⟨hcc, by omega⟩, rfl⟩)⟩
            have hc := HSG3.out.cut hcud hcc
            rw [q1] at hc
            simp only [Option.map_some, Nat.mul_one, Addr.add_lit] at hc
            rw [← List.map_drop] at hc
            exact il_of_seg hc hdd
          · have hcc2 : cu = kc := by omega
            refine ⟨_, ?_, .inr (.inr ⟨g1, o1, q1, by omega, by omega, rfl⟩)⟩
            have : st.drop cu = [] := List.drop_of_length_le (by rw [HD.out]; omega)
            rw [this]
            exact ⟨_, 0, rfl, by simp, by omega, fun k hk => by simp at hk⟩
      obtain ⟨v35, hil, hcs⟩ := hsl
      have HIL := Lib.hid hil
      clear hil
      rcases hcs with ⟨rfl, rfl, rfl, rfl, rfl⟩ | ⟨g1, o1, rfl, ⟨hcc, hne⟩, rfl⟩ | ⟨g1, o1, rfl, rfl, rfl, rfl⟩
      all_goals
        go_region_held3 (fun X => X.cell? ⟨tb, 0, none⟩ = some (.int .i64 nd.op) ∧ X.cell? ⟨tb, 1, none⟩ = some (.int .i64 nd.k) ∧ X.cell? ⟨tb, 2, none⟩ = some (.int .i64 nd.i) ∧ X.cell? ⟨tb, 3, none⟩ = some (.string nd.s) ∧ X.cell? ⟨tb, 4, none⟩ = some (.bool nd.b) ∧ X.cell? ⟨tb, 5, none⟩ = some (.string nd.v) ∧ X.cell? ⟨tb, 6, none⟩ = some (.string nd.f))
          (first | exact ⟨e0, e1, e2, e3, e4, e5, e6⟩ | exact ⟨(HB4.out.cell (p := ⟨tb, 0, none⟩) htb).trans e0, (HB4.out.cell (p := ⟨tb, 1, none⟩) htb).trans e1, (HB4.out.cell (p := ⟨tb, 2, none⟩) htb).trans e2, (HB4.out.cell (p := ⟨tb, 3, none⟩) htb).trans e3, (HB4.out.cell (p := ⟨tb, 4, none⟩) htb).trans e4, (HB4.out.cell (p := ⟨tb, 5, none⟩) htb).trans e5, (HB4.out.cell (p := ⟨tb, 6, none⟩) htb).trans e6⟩ | fail)
          ((
            go_at_call 227
            (with_reducible refine (hPart.out _ _ (by go_grown) HIL.out).mono ?_)
            rintro e w4 ⟨rfl, hb4⟩
            have HB4 : Hid (Below W3.heap.size W3 w4) := Lib.hid ((show Below W3.heap.size W3 _ from by go_grown).trans (hb4.mono (show Below W3.heap.size W3 _ from by go_grown).size))
            clear hb4))
      all_goals
        have HSG4 := Lib.hid (HSG3.out.turns (Turns.of_below HB4.out) (fun _ _ x => x))
        have HKS4 := Lib.hid (HKS3.out.call HB4.out)
        clear e0 e1 e2 e3 e4 e5 e6 HSG3 HKS3 HIL hPart
        by_cases hx0 : x2 = 0
        · have HY := Lib.hid (HYES.out hx0)
          subst hx0
          obtain ⟨i0, hi0, hz0, hz1, hz2⟩ := info_parts int_info
          go_wp2_with (at_builtin; refine wpList_append_seg _ rfl _ _ 28 rfl 3 i0 _ 1 8 Try.underlying28 hi0 hz0 hz1 hz2 rfl (by decide) _ _ _ _ rfl ((Seg.front HSG4.out _ (by omega)).alloc _) ⟨w4.heap.size, 0, none⟩ 1 1 [.int .i64 x1] rfl rfl (one_newsI w4 _) (by simp [Value.oneCell']) (by decide) (by unfold maxLen; omega) (by omega) ?_; intro v5 w5 ob5 hs5 ht5 ho5)
          have hP := Lib.hid (Ks.push HKS4.out (by rw [HD.out]; omega) HOB.out hs5 ht5 ho5)
          clear hs5 ht5 ho5
          go_roundw
          case rel => exact ⟨k + 1, by omega, by go_num, Lib.hid ⟨_, hP.out, HDEP.out, HY.out⟩⟩
          case measure => simp [intOf]; omega
        · have hxb : (x2 == 0) = false := by simpa using hx0
          have HY := Lib.hid (HNO.out hx0)
          clear hx0
          go_wp2
          go_ret2
          exact kpost_mk HY.out HKS4.out.be
    · obtain rfl : k = n := by omega
      have hki : ¬ (k : Int) < (k : Int) := by omega
      rw [List.take_of_length_le (by rw [HN.out]; exact Nat.le_refl _), HG.out.one, hd] at hdep
      have hd1 : d = 1 := by omega
      subst hd1
      rw [List.drop_of_length_le (by rw [HN.out]; exact Nat.le_refl _)] at hkr
      obtain ⟨y, rfl⟩ : ∃ y, st = [y] := by
        match st, hd with
        | [y], _ => exact ⟨y, rfl⟩
      obtain ⟨g1, o1, cap, q1, q2, q3, q4, q5, q6⟩ := hsg.shape (by decide)
      injection q1 with q1 q1b q1c
      subst q1
      have c0 : V.cell? ⟨g1, o1, none⟩ = some (.int .i64 y) := q5 0 _ rfl
      have HKR := Lib.hid hkr
      have HBE := Lib.hid hks.be
      clear hkr hsg hob hdep hks q5 q6 q1b q1c HK hd hk2
      go_wp2
      go_ret2
      exact kpost_mk HKR.out HBE.out
end Go.Proofs.Ytopbildpeojgoaa.Ty
