/- Signs; what is no predicate has no text. -/
import Derived.Test.YtlpkeinablekpaaDoorTmL
import Derived.Test.YtlpkeinablekpaaDoorTyU
import Derived.Test.YtlpkeinablekpaaDoorTySt
import Derived.Deep.CutBlock
import Derived.Deep.RegionWith
namespace Go.Proofs.YtlpkeinablekpaaDoor.Tm
open Go.RowKit Go.Proofs.YtlpkeinablekpaaDoor Go.Proofs.YtlpkeinablekpaaDoor.Door Go.Proofs.YtlpkeinablekpaaDoor.Ev Go.Proofs.YtlpkeinablekpaaDoor.Sch Go.Proofs.YtlpkeinablekpaaDoor.Evl Go.Proofs.YtlpkeinablekpaaDoor.Ty
set_option linter.unusedVariables false
set_option maxRecDepth 100000
def sgn (o : Int) : ByteArray := if o = 3 then ⟨#[45]⟩ else if o = 4 then ⟨#[43]⟩ else if o = 5 then ⟨#[45]⟩ else if o = 6 then ⟨#[42]⟩ else if o = 7 then ⟨#[61]⟩ else if o = 8 then ⟨#[33, 61]⟩ else if o = 9 then ⟨#[60]⟩ else if o = 10 then ⟨#[60, 61]⟩ else if o = 11 then ⟨#[62]⟩ else if o = 12 then ⟨#[62, 61]⟩ else if o = 13 then ⟨#[110, 111, 116]⟩ else if o = 14 then ⟨#[97, 110, 100]⟩ else if o = 15 then ⟨#[111, 114]⟩ else ⟨#[]⟩
theorem sgn_no (o : Int) (h : ¬ (3 ≤ o ∧ o ≤ 15)) : sgn o = ⟨#[]⟩ := by
  unfold sgn
  rw [if_neg (by omega), if_neg (by omega), if_neg (by omega), if_neg (by omega), if_neg (by omega), if_neg (by omega), if_neg (by omega), if_neg (by omega), if_neg (by omega), if_neg (by omega), if_neg (by omega), if_neg (by omega), if_neg (by omega)]
theorem op13 (o : Int) (h : 3 ≤ o ∧ o ≤ 15) : o = 3 ∨ o = 4 ∨ o = 5 ∨ o = 6 ∨ o = 7 ∨ o = 8 ∨ o = 9 ∨ o = 10 ∨ o = 11 ∨ o = 12 ∨ o = 13 ∨ o = 14 ∨ o = 15 := by omega
set_option maxHeartbeats 4000000 in
theorem sign_any (o : Int) (w : World) : Calls Tryd.prog 17 #[.int .i64 o] w fun e w' => e = .returned (.string (sgn o)) ∧ w = w' := by
  by_cases h : 3 ≤ o ∧ o ≤ 15
  · rcases op13 o h with rfl | rfl | rfl | rfl | rfl | rfl | rfl | rfl | rfl | rfl | rfl | rfl | rfl
    all_goals
      clear h
      go_enter Tryd.func17, Tryd.ntmps17
      go_wp2
      go_ret
      exact ⟨rfl, rfl⟩
  · have h3 : (o == 3) = false := beq_eq_false_iff_ne.2 (by omega)
    have h4 : (o == 4) = false := beq_eq_false_iff_ne.2 (by omega)
    have h5 : (o == 5) = false := beq_eq_false_iff_ne.2 (by omega)
    have h6 : (o == 6) = false := beq_eq_false_iff_ne.2 (by omega)
    have h7 : (o == 7) = false := beq_eq_false_iff_ne.2 (by omega)
    have h8 : (o == 8) = false := beq_eq_false_iff_ne.2 (by omega)
    have h9 : (o == 9) = false := beq_eq_false_iff_ne.2 (by omega)
    have h10 : (o == 10) = false := beq_eq_false_iff_ne.2 (by omega)
    have h11 : (o == 11) = false := beq_eq_false_iff_ne.2 (by omega)
    have h12 : (o == 12) = false := beq_eq_false_iff_ne.2 (by omega)
    have h13 : (o == 13) = false := beq_eq_false_iff_ne.2 (by omega)
    have h14 : (o == 14) = false := beq_eq_false_iff_ne.2 (by omega)
    have h15 : (o == 15) = false := beq_eq_false_iff_ne.2 (by omega)
    have HS := Lib.hid (sgn_no o h)
    clear h
    go_enter Tryd.func17, Tryd.ntmps17
    go_wp2
    go_ret
    exact ⟨by rw [HS.out]; rfl, rfl⟩
set_option maxHeartbeats 4000000 in
theorem refSign_any (o : Int) (w : World) : Calls Tryd.prog 18 #[.int .i64 o] w fun e w' => e = .returned (.string (sgn o)) ∧ Below w.heap.size w w' := by
  by_cases h : 3 ≤ o ∧ o ≤ 15
  · rcases op13 o h with rfl | rfl | rfl | rfl | rfl | rfl | rfl | rfl | rfl | rfl | rfl | rfl | rfl
    all_goals
      clear h
      go_enter Tryd.func18, Tryd.ntmps18
      go_wp2
      go_ret
      exact ⟨rfl, by go_grown⟩
  · have HS := Lib.hid (sgn_no o h)
    by_cases h3 : o < 3
    · clear h
      go_enter Tryd.func18, Tryd.ntmps18
      go_wp2
      go_ret
      exact ⟨by rw [HS.out]; rfl, Below.refl _ _⟩
    · have h15 : 15 < o := by omega
      clear h
      go_enter Tryd.func18, Tryd.ntmps18
      go_wp2
      go_ret
      exact ⟨by rw [HS.out]; rfl, Below.refl _ _⟩
theorem show_no (v : Value) (l : List Nd) (w : World) (hl : Ns w w.heap.size v l) (h : ¬ Ty.Good l) : Calls Tryd.prog 15 #[v] w fun e w' => e = .returned (.string ⟨#[]⟩) ∧ Below w.heap.size w w' := by
  have HT := Lib.hid (tmay_dec v l w hl)
  rw [goodB_no h] at HT
  clear hl h
  go_enter Tryd.func15, Tryd.ntmps15
  go_wp2_with fail
  refine HT.out.mono ?_
  rintro e w1 ⟨rfl, hb⟩
  have HB := Lib.hid hb
  clear hb
  go_wp2
  go_ret
  exact ⟨rfl, HB.out⟩
/-- What a slice has ahead of its k-th part. -/
theorem seg_pre {w : World} {e : TypeId} {size : Nat} {A : Option Addr} {n k cap : Nat} {xs : List Value} {ob : Option Nat} (h : Seg w e size (.slice A n cap) n xs ob) (hk : k ≤ n) : Seg w e size (.slice A k cap) k (xs.take (k * size)) ob := by
  obtain ⟨h0, A', cap', hv, h1, h2, h3⟩ := h
  injection hv with e1 _ e3
  subst e1 e3
  have hm : k * size ≤ n * size := Nat.mul_le_mul_right _ hk
  refine ⟨by rw [List.length_take]; omega, A, cap, rfl, by omega, h2, ?_⟩
  rcases h3 with ⟨a1, a2, a3⟩ | ⟨g, o, cur, a1, a2, a3, a4, a5⟩
  · exact .inl ⟨a1, a2, a3⟩
  · refine .inr ⟨g, o, cur, a1, a2, a3, a4, ?_⟩
    rw [← a5, List.take_take]
    congr 1
    omega
theorem ncells_len (l : List Nd) : (ncells l).length = l.length * 7 := by
  induction l with
  | nil => rfl
  | cons x l ih =>
    have : ncells (x :: l) = x.cells ++ ncells l := rfl
    rw [this, List.length_append, ih]
    simp [Nd.cells]
    omega
theorem napp (l r : List Nd) : ncells (l ++ r) = ncells l ++ ncells r := by simp [ncells]
theorem ncells_take (l : List Nd) (k : Nat) : (ncells l).take (k * 7) = ncells (l.take k) := by
  by_cases h : k ≤ l.length
  · have : ncells l = ncells (l.take k) ++ ncells (l.drop k) := by rw [← napp, List.take_append_drop]
    have hl : (ncells (l.take k)).length = k * 7 := by rw [ncells_len, List.length_take, Nat.min_eq_left h]
    rw [this, ← hl, List.take_left]
  · rw [List.take_of_length_le (by rw [ncells_len]; omega), List.take_of_length_le (by omega)]
theorem ncells_drop (l : List Nd) (k : Nat) : (ncells l).drop (k * 7) = ncells (l.drop k) := by
  by_cases h : k ≤ l.length
  · have : ncells l = ncells (l.take k) ++ ncells (l.drop k) := by rw [← napp, List.take_append_drop]
    have hl : (ncells (l.take k)).length = k * 7 := by rw [ncells_len, List.length_take, Nat.min_eq_left h]
    rw [this, ← hl, List.drop_left]
  · rw [List.drop_of_length_le (by rw [ncells_len]; omega), List.drop_of_length_le (by omega)]
    rfl
end Go.Proofs.YtlpkeinablekpaaDoor.Tm

/- The law TermMay, walked. -/
namespace Go.Proofs.YtlpkeinablekpaaDoor.Tm
open Go.RowKit Go.Proofs.YtlpkeinablekpaaDoor Go.Proofs.YtlpkeinablekpaaDoor.Door Go.Proofs.YtlpkeinablekpaaDoor.Ev Go.Proofs.YtlpkeinablekpaaDoor.Sch Go.Proofs.YtlpkeinablekpaaDoor.Evl Go.Proofs.YtlpkeinablekpaaDoor.Ty Go.Proofs.YtlpkeinablekpaaDoor.Vd
set_option linter.unusedVariables false
set_option maxRecDepth 100000
theorem ns_take {w : World} {B n c m : Nat} {A : Option Addr} {l : List Nd} (h : Ns w B (.slice A n c) l) (hm : m ≤ l.length) : Ns w B (.slice A m c) (l.take m) := by
  obtain ⟨A', c', e, h1, h2, h3⟩ := h
  injection e with e1 e2 e3
  subst e1 e3
  have hlen : (l.take m).length = m := by rw [List.length_take, Nat.min_eq_left hm]
  refine ⟨_, _, by rw [hlen], by rw [hlen]; omega, h2, fun k hk => ?_⟩
  obtain ⟨g, o, e, hg, hc⟩ := h3 k (by omega)
  exact ⟨g, o, e, hg, fun j u hj => hc j u (by rw [List.getElem_take] at hj; exact hj)⟩
/-- The parts so far. -/
structure MX (w W : World) (v : Value) (L : List Nd) : Prop where
  ns : Ns W W.heap.size v L
  be : Below w.heap.size w W
  le : L.length ≤ 1000
theorem MX.call {w W W' : World} {v : Value} {L : List Nd} (h : MX w W v L) (t : Below W.heap.size W W') : MX w W' v L := ⟨h.ns.below t t.size, h.be.trans (t.mono h.be.size), h.le⟩
theorem fin_ok {M : List Nd} {k : Nat} {d : Int} (h : Gk M k d) (hk : M.length = k) : (decide (1 ≤ k ∧ k ≤ 64) && (d == 1)) = goodB M := by
  have hd : dep M = d := by have := h.dp; rwa [← hk, List.take_length] at this
  by_cases hF : 1 ≤ k ∧ k ≤ 64
  · rw [decide_eq_true hF, Bool.true_and]
    by_cases h1 : d = 1
    · subst h1
      rw [goodB_yes (h.good hk hF.2)]
      rfl
    · rw [goodB_no (fun g => h1 (by rw [← hd]; exact g.one))]
      simpa using h1
  · rw [decide_eq_false hF, Bool.false_and, goodB_no (fun g => hF ⟨?_, by rw [← hk]; exact g.len⟩)]
    have ho := g.one
    rcases Nat.eq_zero_or_pos k with h0 | h0
    · rw [h0] at hk
      rw [List.eq_nil_of_length_eq_zero hk] at ho
      exact absurd ho (by decide)
    · exact h0
structure MS (w W : World) (v : Value) (L : List Nd) (r : Int) : Prop extends MX w W v L where
  sg : r = 1 → ∃ ob, Seg W 25 7 v L.length (ncells L) ob ∧ ∀ g, ob = some g → w.heap.size ≤ g
theorem and255 (n : Int) : bits .and .i64 n 255 = n % 256 := by
  have hm : (BitVec.ofInt 64 255).toNat = 2 ^ 8 - 1 := by decide
  have key : (BitVec.ofInt 64 n &&& BitVec.ofInt 64 255).toNat = (n % ((2 ^ 64 : Nat) : Int)).toNat % 2 ^ 8 := by
    rw [BitVec.toNat_and, BitVec.toNat_ofInt, hm, Nat.and_two_pow_sub_one_eq_mod]
  show IntKind.i64.wrap ((BitVec.ofInt 64 n &&& BitVec.ofInt 64 255).toNat : Nat) = n % 256
  rw [key, IntKind.wrap_i64]
  omega
theorem pick_at (n : Int) (m : Nat) (h : 0 < m) : ∃ q : Nat, (bits .and .i64 n 255).tmod (m : Int) = (q : Int) ∧ q < m := by
  obtain ⟨t, ht⟩ := Int.eq_ofNat_of_zero_le (show 0 ≤ n % 256 by omega)
  refine ⟨t % m, ?_, Nat.mod_lt _ h⟩
  rw [and255, ht, Int.tmod_eq_emod_of_nonneg (by omega)]
  rfl
theorem step_append_both {P : Program} {e : TypeId} {size : Nat} {ops : Array Oper} {o : Oper} {a : Act} {K : Act → World → Prop} {Q : Exit → Act → World → Prop} {E : Prop} (w : World) (hgd : o.guard = none) (s x : Operand) (t : TypeId)
    (hop : o.op = .call { callee := .builtin .append, args := #[s, x], argTypes := #[t, t] })
    (i : TypeInfo) (z : Value) (bytes : Nat) (ht : P.underlying t = some (.slice e)) (hi : P.info? e = some i) (hz : i.zero = some z)
    (hsize : i.size = size) (hby : i.bytes = bytes) (hzs : z.cells.size = size) (hsz : 0 < size) (v v2 : Value) (n m : Nat) (xs ys : List Value) (ob ob2 : Option Nat) (hs : a.eval s = v) (h : Seg w e size v n xs ob)
    (hx : a.eval x = v2) (h2 : Seg w e size v2 m ys ob2) (h1 : ∀ u ∈ ys, u.oneCell' = true)
    (h63 : n + m ≤ maxLen) (hbytes : (n + m) * bytes ≤ 140737488355328)
    (hK : ∀ v' w' ob', Seg w' e size v' (n + m) (xs ++ ys) ob' → Turns w w' (fun k => ob = some k) → (ob' = ob ∨ ∃ g, ob' = some g ∧ w.heap.size ≤ g) → K (a.put o.dst v') w') :
    if Region.wanted o (yielded ops a.tmps) = true then Oper.wp P o a w K Q else E := by
  rw [if_pos (by simp [Region.wanted, hgd])]
  obtain ⟨v', w', ob', hrun, r1, r2, r3⟩ := run_append_both (P := P) t o.type i z bytes ht hi hz hsize hby hzs hsz h h2 h1 h63 hbytes
  unfold Oper.wp
  simp [execOp, hop, resolve, invoke, builtin, hs, hx, hrun, Result.andThen]
  exact hK v' w' ob' r1 r2 r3
theorem seg_cut_if {w : World} {e : TypeId} {size : Nat} {g o n cap k : Nat} {xs : List Value} {ob : Option Nat} (h : Seg w e size (.slice (some ⟨g, o, none⟩) n cap) n xs ob) (hk : k ≤ n) (hc : n ≤ cap) :
    ∃ ob', Seg w e size (.slice (if cap = k then some ⟨g, o, none⟩ else some ⟨g, o + k * size, none⟩) (n - k) (cap - k)) (n - k) (xs.drop (k * size)) ob' := by
  split
  · rename_i hck
    exact ⟨_, h.cut_all hk hck.symm _⟩
  · exact ⟨ob, by have h2 := h.cut hk (by omega); rwa [Option.map_some, Addr.add_lit] at h2⟩
theorem seg_drew {w : World} {e : TypeId} {size : Nat} {v : Value} {n : Nat} {xs : List Value} {ob : Option Nat} (h : Seg w e size v n xs ob) : Seg w.drew e size v n xs ob := h
theorem seg_mt (w : World) (p : Option Addr) : Seg w 25 7 (.slice p 0 0) 0 [] none := ⟨rfl, _, _, rfl, Nat.le_refl _, by unfold maxLen; omega, .inl ⟨rfl, rfl, fun _ => trivial⟩⟩
set_option maxHeartbeats 4000000 in
theorem may_hid (lA : Option Addr) (ln lc : Nat) (l : List Nd) (A : Option Addr) (n c : Nat) (f : Nat → Int) (at0 : Int) (w : World) (hl : Ns w w.heap.size (.slice lA ln lc) l) (hn : n ≤ c) (hc : c ≤ 9223372036854775807) (hp : Lies w w.heap.size A n (fun k => .int .i64 (f k))) (HM : Hid (ML w)) : Calls Tryd.prog 4 #[.slice lA ln lc, .slice A n c, .int .i64 at0] w fun e w' => e = .returned (.bool true) ∧ Below w.heap.size w w' := by
  have HL := Lib.hid hl
  have hln : l.length = ln := by obtain ⟨_, _, e, _⟩ := hl; injection e with _ e2 _; exact e2.symm
  have HT := Lib.hid (truth_two A n c f hn hc 0 w (by decide) ⟨_, hp, Nat.le_refl _⟩)
  obtain ⟨r, hr⟩ : ∃ r, at0 % 4 = r := ⟨_, rfl⟩
  have h3 : bits .and .i64 at0 3 = r := (and3 at0).trans hr
  clear hl hp hr
  go_enter Tryd.func4, Tryd.ntmps4
  go_wp2_with fail
  refine HT.out.mono ?_
  rintro e w1 ⟨v1, L1, a1, rfl, hg, hpn, _⟩
  have hL1 : L1.length ≤ tb 2 := (hpn 0 0 0).len
  have hb1 := hg.be
  have HS : Hid (MS w w1 v1 L1 r) := ⟨⟨hg.ns, hb1, Nat.le_trans hL1 (by decide)⟩, fun _ => hg.ex⟩
  have HL1 := Lib.hid (HL.out.below hb1 hb1.size)
  clear hg hpn hL1 hb1 HT
  have hlc : ln ≤ lc := by obtain ⟨_, _, e, h, _⟩ := id HL.out; injection e with _ _ e3; omega
  have hm1 : (0 : Int) ≤ min (ln : Int) 20 := by omega
  have hm2 : min (ln : Int) 20 ≤ (lc : Int) := by omega
  go_upto_if 23 with fail
  go_cut [7] (fun s7 wx => w1 = wx ∧ ∃ L, Hid (MS w w1 s7 L r))
  case first =>
    by_cases r0 : r = 0
    · subst r0
      go_wp2
      go_meet
      refine ⟨rfl, l.take (min (ln : Int) 20).toNat, ?_⟩
      exact ⟨⟨ns_take HL1.out (by omega), HS.out.be, by rw [List.length_take]; omega⟩, fun h => by omega⟩
    · have r0b : (r == 0) = false := beq_eq_false_iff_ne.2 r0
      clear r0
      go_wp2
      go_meet
      exact ⟨rfl, L1, HS⟩
  case rest =>
    obtain ⟨rfl, L, HS2⟩ := hcut
    clear HS HL1 HL hln hlc hm1 hm2
    obtain ⟨xA, xc, rfl, hx1, hx2, hx3⟩ := id HS2.out.ns
    clear hx3
    obtain ⟨m, hm⟩ : ∃ m, L.length = m := ⟨_, rfl⟩
    have HM1 := Lib.hid hm
    have hm9 : m ≤ 1000 := by rw [← hm]; exact HS2.out.le
    rw [hm] at hx1 HS2 ⊢
    clear hm
    go_upto_region 4 with fail
    go_cut [36] (fun s36 wx => s36 = .bool (decide (r = 1 ∧ 0 < m)) ∧ w1 = wx)
    case first =>
      by_cases r1 : r = 1
      · subst r1
        by_cases m0 : 0 < m
        · have HE : Hid (decide ((1 : Int) = 1 ∧ 0 < m) = true) := decide_eq_true ⟨rfl, m0⟩
          have m0b : (0 : Int) < (m : Int) := by omega
          go_wp2
          go_meet
          exact ⟨by rw [HE.out], rfl⟩
        · have HE : Hid (decide ((1 : Int) = 1 ∧ 0 < m) = false) := decide_eq_false (fun h => m0 h.2)
          obtain rfl : m = 0 := by omega
          clear m0
          go_wp2
          go_meet
          exact ⟨by rw [HE.out], rfl⟩
      · have HE : Hid (decide (r = 1 ∧ 0 < m) = false) := decide_eq_false (fun h => r1 h.1)
        have r1b : (r == 1) = false := beq_eq_false_iff_ne.2 r1
        clear r1
        go_wp2
        go_meet
        exact ⟨by rw [HE.out], rfl⟩
    case rest =>
    obtain ⟨rfl, rfl⟩ := hcut
    go_upto_if 36 with fail
    go_cut [7] (fun s7 wx => ∃ L, Hid (MX w wx s7 L))
    case first =>
      by_cases hd : r = 1 ∧ 0 < m
      · rw [decide_eq_true hd]
        obtain ⟨r1, m0⟩ := hd
        subst r1
        have m0b : (0 : Int) < (m : Int) := by omega
        have m0c : ¬ ((m : Int) = 0) := by omega
        go_upto_region 6 with fail
        obtain ⟨q, hq, hqm⟩ := pick_at (at0 / 4) m m0
        rw [hq]
        clear hq m0c
        obtain ⟨ob, hs, hob⟩ := HS2.out.sg rfl
        rw [HM1.out] at hs
        obtain ⟨g, o, cap, he, rfl, _, _, _, _⟩ := hs.shape m0
        injection he with he1 _ he3
        subst he1 he3
        have HS := Lib.hid hs
        have HOB := Lib.hid (hob g rfl)
        have hq1 : (0 : Int) ≤ (q : Int) := by omega
        have hq2 : (q : Int) ≤ (m : Int) := by omega
        have hq3 : (q : Int) ≤ (xc : Int) := by omega
        have hw1 : IntKind.i64.wrap ((q : Int) + 1) = (((q + 1 : Nat)) : Int) := by rw [IntKind.wrap_i64]; omega
        have hq4 : (0 : Int) ≤ (((q + 1 : Nat)) : Int) := by omega
        have hq5 : (((q + 1 : Nat)) : Int) ≤ (m : Int) := by omega
        have hq6 : (((q + 1 : Nat)) : Int) ≤ (xc : Int) := by omega
        have hq7 : (m : Int) ≤ (xc : Int) := by omega
        have hq8 : (0 : Int) ≤ (q : Int) + 1 := by omega
        have hq9 : (q : Int) + 1 ≤ (m : Int) := by omega
        clear hs hob
        obtain ⟨i0, hi0, hz0, hz1, hz2⟩ := info_parts node_info
        have HSQ := Lib.hid (seg_pre HS.out (show q ≤ m by omega))
        obtain ⟨obd, hsd⟩ := seg_cut_if (k := q + 1) HS.out (by omega) hx1
        have HSD := Lib.hid (seg_drew (hsd.alloc (.cells #[] 25)))
        have HSQ2 := Lib.hid (seg_drew (HSQ.out.alloc (.cells #[] 25)))
        clear hsd
        go_region_law (first
          | (refine step_append_both _ rfl (.tmp 43) (.tmp 46) 29 rfl i0 _ 80 Tryd.underlying29 hi0 hz0 hz1 hz2 rfl (by decide) _ _ 0 q [] ((ncells L).take (q * 7)) none (some g) rfl (seg_mt _ _) rfl HSQ2.out (fun u hu => ncells_one L u (List.mem_of_mem_take hu)) (by unfold maxLen; omega) (by omega) ?_
             intro v4 w4 o4 hs4 ht4 ho4
             rw [Nat.zero_add, List.nil_append] at hs4
             have HS4 := Lib.hid hs4
             have HT4 := Lib.hid ht4
             have HO4 := Lib.hid ho4
             obtain ⟨A4, c4, rfl, _, _⟩ := hs4.form
             have HSD4 := Lib.hid (HSD.out.turns ht4 (fun _ _ x => by cases x))
             clear hs4 ht4 ho4)
          | (refine step_append_both _ rfl (.tmp 47) (.tmp 51) 29 rfl i0 _ 80 Tryd.underlying29 hi0 hz0 hz1 hz2 rfl (by decide) _ _ q (m - (q + 1)) ((ncells L).take (q * 7)) ((ncells L).drop ((q + 1) * 7)) o4 obd rfl HS4.out rfl HSD4.out (fun u hu => ncells_one L u (List.mem_of_mem_drop hu)) (by unfold maxLen; omega) (by omega) ?_
             intro v5 w5 o5 hs5 ht5 ho5
             obtain ⟨A5, c5, rfl, _, _⟩ := hs5.form
             rw [ncells_take, ncells_drop, ← napp] at hs5
             have HS5 := Lib.hid hs5
             have HT5 := Lib.hid ht5
             have HO5 := Lib.hid ho5
             clear hs5 ht5 ho5)
          | (trace_state; fail))
        all_goals
          go_wp2
        all_goals
          go_meet
          have hb2 : Below w.heap.size w (w1.alloc (.cells #[] 25)).drew := (HS2.out.be.alloc HS2.out.be.size _).drew
          have hb4 := HT4.out.below hb2 hb2.size (fun k hk e => by cases e)
          have ho4 : ∀ g', o4 = some g' → w.heap.size ≤ g' := fun g' e => by
            rcases HO4.out with h | ⟨g2, h, hg2⟩
            · rw [h] at e; cases e
            · rw [h] at e; injection e with e; subst e; have := hb2.size; omega
          have hb5 := HT5.out.below hb4 hb4.size (fun k hk e => by have := ho4 k e; omega)
          have hlen : (L.take q ++ L.drop (q + 1)).length = q + (m - (q + 1)) := by
            rw [List.length_append, List.length_take, List.length_drop, HM1.out]; omega
          exact ⟨_, Lib.hid ⟨ns_seg HS5.out hlen, hb5, by rw [hlen]; omega⟩⟩
      · rw [decide_eq_false hd]
        clear hd
        go_wp2
        go_meet
        exact ⟨L, Lib.hid HS2.out.toMX⟩
    case rest =>
      obtain ⟨M, HX⟩ := hcut
      clear HS2 HM1 hm9 hx1 hx2 L
      obtain ⟨yA, yc, rfl, hy1, hy2, hy3⟩ := id HX.out.ns
      obtain ⟨m2, hm2⟩ : ∃ m2, M.length = m2 := ⟨_, rfl⟩
      have HM2 := Lib.hid hm2
      have hm9 : m2 ≤ 1000 := by rw [← hm2]; exact HX.out.le
      rw [hm2] at hy1 HX ⊢
      clear hm2 hy3
      go_upto_region 7 with fail
      go_cut [10, 11] (fun s10 s11 wx => s10 = .int .i64 0 ∧ s11 = .bool (decide (1 ≤ m2 ∧ m2 ≤ 64)) ∧ wc = wx)
      case first =>
        by_cases h1 : 1 ≤ m2
        · have h1' : (1 : Int) ≤ (m2 : Int) := by omega
          by_cases h2 : m2 ≤ 64
          · have h2' : (m2 : Int) ≤ 64 := by omega
            have HE : Hid (decide (1 ≤ m2 ∧ m2 ≤ 64) = true) := decide_eq_true ⟨h1, h2⟩
            go_wp2
            go_meet
            exact ⟨rfl, by rw [HE.out], rfl⟩
          · have h2' : (64 : Int) < (m2 : Int) := by omega
            have HE : Hid (decide (1 ≤ m2 ∧ m2 ≤ 64) = false) := decide_eq_false (fun h => h2 h.2)
            go_wp2
            go_meet
            exact ⟨rfl, by rw [HE.out, decide_eq_false (show ¬ (m2 : Int) ≤ 64 by omega)], rfl⟩
        · have HE : Hid (decide (1 ≤ m2 ∧ m2 ≤ 64) = false) := decide_eq_false (fun h => h1 h.1)
          obtain rfl : m2 = 0 := by omega
          clear h1
          go_wp2
          go_meet
          exact ⟨rfl, by rw [HE.out], rfl⟩
      case rest =>
        obtain ⟨rfl, rfl, rfl⟩ := hcut
        obtain ⟨F0, hF0⟩ : ∃ b, decide (1 ≤ m2 ∧ m2 ≤ 64) = b := ⟨_, rfl⟩
        have HF0 := Lib.hid hF0
        rw [hF0]
        clear hF0
        go_upto_block 0 with fail
        go_cut [10, 11] (fun s10 s11 wx => ∃ d : Int, ∃ fb : Bool, s10 = .int .i64 d ∧ s11 = .bool fb ∧ (fb && (d == 1)) = goodB M ∧ Hid (MX w wx (.slice yA m2 yc) M))
        case first =>
          --LEAF 1
          go_wp2
          go_loopw [12, 10, 11, 13, 14] (fun v12 v10 v11 s13 s14 wx => ∃ k : Nat, ∃ d : Int, k ≤ m2 ∧ v12 = .int .i64 k ∧ v10 = .int .i64 d ∧ v11 = .bool F0 ∧ Hid (Gk M k d) ∧ Hid (MX w wx (.slice yA m2 yc) M)) (fun v12 _ _ _ _ _ => m2 - (intOf v12).toNat)
          case atStart => exact ⟨0, 0, by omega, rfl, rfl, rfl, Lib.hid ⟨rfl, by omega, fun j _ h => absurd h (by omega)⟩, HX⟩
          case round =>
            obtain ⟨k, d, hkn, rfl, rfl, rfl, HG, HXR⟩ := hrel
            obtain ⟨hd0, hd1⟩ := HG.out.bd
            by_cases hlt : k < m2
            · have hk1 : (k : Int) < (m2 : Int) := by omega
              have hkl : k < M.length := by rw [HM2.out]; exact hlt
              obtain ⟨A', c', e1, hx1, hx2, h3'⟩ := HXR.out.ns
              injection e1 with e1 e2 e3
              subst e1 e3
              clear e2 hx1 hx2
              obtain ⟨g, o, rfl, hgw, hcl⟩ := h3' k hkl
              have hdt := dep_take hkl
              rw [HG.out.dp] at hdt
              obtain ⟨nd, hnd⟩ : ∃ nd, M[k] = nd := ⟨_, rfl⟩
              have HND := Lib.hid hnd
              rw [hnd] at hcl hdt
              obtain ⟨op, kd, i, s, b, vv, ff⟩ := nd
              obtain ⟨p, hp⟩ : ∃ p, partsI op = p := ⟨_, rfl⟩
              have hp2 : -1 ≤ p ∧ p ≤ 2 := by rw [← hp]; exact parts_le op
              obtain ⟨hpm, hp2⟩ := hp2
              dsimp only at hdt
              rw [hp] at hdt
              have HP := Lib.hid hp
              have HDT := Lib.hid hdt
              have HPA : Hid (∀ w, Calls Tryd.prog 14 #[.int .i64 op] w fun e w' => e = .returned (.int .i64 p) ∧ w = w') := fun w => by
                have := refParts_any op w
                rw [← hp]
                exact this
              have c0 := hcl 0 (.int .i64 op) rfl
              have c1 := hcl 1 (.int .i64 kd) rfl
              have c2 := hcl 2 (.int .i64 i) rfl
              have c3 := hcl 3 (.string s) rfl
              have c4 := hcl 4 (.bool b) rfl
              have c5 := hcl 5 (.string vv) rfl
              have c6 := hcl 6 (.string ff) rfl
              simp only [Nat.add_zero] at c0
              clear hcl h3' hnd hp hdt
              obtain ⟨V, rfl⟩ : ∃ V, V = wr := ⟨_, rfl⟩
              have hBV : Below V.heap.size V (V.alloc (.cells #[.int .i64 op, .int .i64 kd, .int .i64 i, .string s, .bool b, .string vv, .string ff] 25)) := (Below.refl _ V).alloc (Nat.le_refl _) _
              have HXV := Lib.hid (HXR.out.call hBV)
              clear hBV
              by_cases hq : p < 0
              · have hq1 : decide (p < 0) = true := decide_eq_true hq
                have HNO : Hid ((false && (d == 1)) = goodB M) := (goodB_no (fun gd => by have h9 := (gd.ok k hkl).parts; rw [HND.out] at h9; dsimp only at h9; rw [HP.out] at h9; omega)).symm
                go_wp2_with fail
                refine (HPA.out _).mono ?_
                rintro e w1 ⟨rfl, rfl⟩
                go_wp2
                go_meet
                exact ⟨_, _, rfl, rfl, HNO.out, HXV⟩
              · have hq1 : decide (p < 0) = false := decide_eq_false hq
                by_cases hqd : d < p
                · have hq2 : decide (d < p) = true := decide_eq_true hqd
                  have HNO : Hid ((false && (d == 1)) = goodB M) := (goodB_no (fun gd => by have h9 := gd.low k hkl; rw [HND.out] at h9; dsimp only at h9; rw [HP.out, HG.out.dp] at h9; omega)).symm
                  go_wp2_with fail
                  refine (HPA.out _).mono ?_
                  rintro e w1 ⟨rfl, rfl⟩
                  go_wp2
                  go_meet
                  exact ⟨_, _, rfl, rfl, HNO.out, HXV⟩
                · have hq2 : decide (d < p) = false := decide_eq_false hqd
                  go_wp2_with fail
                  refine (HPA.out _).mono ?_
                  rintro e w1 ⟨rfl, rfl⟩
                  go_wp2_with fail
                  refine (one_any op kd i s b vv ff _).mono ?_
                  rintro e w2 ⟨v2, rfl, hn2, hb2⟩
                  have HX2 := Lib.hid (HXV.out.call hb2)
                  have HN2 := Lib.hid hn2
                  clear hb2 hn2
                  go_wp2_with fail
                  refine (tmay_dec v2 _ _ HN2.out).mono ?_
                  rintro e w3 ⟨rfl, hb3⟩
                  have HX3 := Lib.hid (HX2.out.call hb3)
                  clear hb3 HN2
                  by_cases hok : OkN ⟨op, kd, i, s, b, vv, ff⟩
                  · rw [goodB_yes ((good_one _).2 hok)]
                    have HG2 : Hid (Gk M (k + 1) (d + (1 - p))) := Lib.hid ⟨HDT.out, by omega, fun j hj hjk => by
                      by_cases hje : j < k
                      · exact HG.out.ok j hj hje
                      · obtain rfl : j = k := by omega
                        rw [HND.out]
                        refine ⟨hok, ?_⟩
                        dsimp only
                        rw [HP.out, HG.out.dp]
                        omega⟩
                    clear hok
                    go_wp2
                    go_roundw
                    case rel => exact ⟨k + 1, d + (1 - p), by omega, by go_num, rfl, rfl, HG2, HX3⟩
                    case measure => simp [intOf]; omega
                  · rw [goodB_no (fun gd => hok ((good_one _).1 gd))]
                    have HNO : Hid ((false && (d == 1)) = goodB M) := (goodB_no (fun gd => by have h9 := gd.ok k hkl; rw [HND.out] at h9; exact hok h9)).symm
                    clear hok
                    go_wp2
                    go_meet
                    exact ⟨_, _, rfl, rfl, HNO.out, HX3⟩
            · obtain rfl : k = m2 := by omega
              have hk1 : ¬ (k : Int) < (k : Int) := by omega
              have HFI := Lib.hid (fin_ok HG.out HM2.out)
              rw [HF0.out] at HFI
              go_wp2
              go_meet
              exact ⟨_, _, rfl, rfl, HFI.out, HXR⟩
          --END
        case rest =>
          --LEAF 2
          obtain ⟨d, fb, rfl, rfl, hg, HX2⟩ := hcut
          clear HX HF0
          obtain ⟨gb, hgb⟩ : ∃ gb, goodB M = gb := ⟨_, rfl⟩
          rw [hgb] at hg
          have HGB := Lib.hid hgb
          have HGF := Lib.hid hg
          clear hgb hg
          go_upto_region 16 with fail
          go_cut [15] (fun s15 wx => s15 = .bool gb ∧ wc = wx)
          case first =>
            cases fb
            · have HE : Hid (false = gb) := by have := HGF.out; rwa [Bool.false_and] at this
              clear HGF HGB
              go_wp2
              go_meet
              exact ⟨by rw [← HE.out], rfl⟩
            · have HE : Hid ((d == 1) = gb) := by have := HGF.out; rwa [Bool.true_and] at this
              clear HGF HGB
              go_wp2
              go_meet
              exact ⟨by rw [← HE.out], rfl⟩
          case rest =>
            obtain ⟨rfl, rfl⟩ := hcut
            clear HGF
            obtain ⟨P, hP⟩ : ∃ P, partsI at0 = P := ⟨_, rfl⟩
            obtain ⟨S, hS⟩ : ∃ S, sgn at0 = S := ⟨_, rfl⟩
            have HP1 : Hid (∀ w, Calls Tryd.prog 16 #[.int .i64 at0] w fun e w' => e = .returned (.int .i64 P) ∧ w = w') := fun w => parts_is at0 P w hP
            have HP2 : Hid (∀ w, Calls Tryd.prog 14 #[.int .i64 at0] w fun e w' => e = .returned (.int .i64 P) ∧ w = w') := fun w => by
              have := refParts_any at0 w
              rw [← hP]
              exact this
            have HS1 : Hid (∀ w, Calls Tryd.prog 17 #[.int .i64 at0] w fun e w' => e = .returned (.string S) ∧ w = w') := fun w => by rw [← hS]; exact sign_any at0 w
            have HS3 : Hid (∀ w, Calls Tryd.prog 18 #[.int .i64 at0] w fun e w' => e = .returned (.string S) ∧ Below w.heap.size w w') := fun w => by rw [← hS]; exact refSign_any at0 w
            clear hP hS
            go_wp2_with fail
            refine (awake12 _ (HM.out.below HX2.out.be)).mono ?_
            rintro e w2 ⟨rfl, hb⟩
            have HX3 := Lib.hid (HX2.out.call hb)
            clear hb HX2
            go_wp2_with fail
            refine (tmay_dec _ M _ HX3.out.ns).mono ?_
            rintro e w3 ⟨rfl, hb⟩
            rw [HGB.out]
            have HX4 := Lib.hid (HX3.out.call hb)
            clear hb HX3
            cases gb
            · have HNG : Hid (¬ Ty.Good M) := fun gd => by have := HGB.out; rw [goodB_yes gd] at this; cases this
              clear HGB
              go_wp2_with fail
              refine (show_no _ M _ HX4.out.ns HNG.out).mono ?_
              rintro e w4 ⟨rfl, hb⟩
              have HX5 := Lib.hid (HX4.out.call hb)
              clear hb HX4
              go_wp2_with fail
              refine (HP1.out _).mono ?_
              rintro e w5 ⟨rfl, rfl⟩
              go_wp2_with fail
              refine (HP2.out _).mono ?_
              rintro e w6 ⟨rfl, rfl⟩
              go_wp2_with fail
              refine (HS1.out _).mono ?_
              rintro e w7 ⟨rfl, rfl⟩
              go_wp2_with fail
              refine (HS3.out _).mono ?_
              rintro e w8 ⟨rfl, hb⟩
              have HX6 := Lib.hid (HX5.out.call hb)
              clear hb HX5
              go_wp2
              go_ret
              exact ⟨rfl, HX6.out.be⟩
            · clear HGB
              go_wp2_with fail
              refine (HP1.out _).mono ?_
              rintro e w5 ⟨rfl, rfl⟩
              go_wp2_with fail
              refine (HP2.out _).mono ?_
              rintro e w6 ⟨rfl, rfl⟩
              go_wp2_with fail
              refine (HS1.out _).mono ?_
              rintro e w7 ⟨rfl, rfl⟩
              go_wp2_with fail
              refine (HS3.out _).mono ?_
              rintro e w8 ⟨rfl, hb⟩
              have HX6 := Lib.hid (HX4.out.call hb)
              clear hb HX4
              go_wp2
              go_ret
              exact ⟨rfl, HX6.out.be⟩
          --END
end Go.Proofs.YtlpkeinablekpaaDoor.Tm

