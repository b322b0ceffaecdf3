/- A heap in memory: the least is taken one by one, while they are asked for. -/
import Derived.Test.YtbjkeclfcccilaaHpL
import Derived.Test.YtbjkeclfcccilaaHpJ
import Derived.Shelf.Abstract
import Derived.LoopIn
import Derived.Deep.OwnRows
namespace Go.Proofs.Ytbjkeclfcccilaa.Hp
open Go.RowKit Go.Proofs.Ytbjkeclfcccilaa Go.Proofs.Ytbjkeclfcccilaa.Mut
set_option linter.unusedVariables false
set_option maxRecDepth 100000
/-- Older than a bound, and apart from one block. -/
structure Old (b : Nat) (ob : Option Nat) (B0 aB : Nat) : Prop where
  b1 : b < B0
  b2 : b ≠ aB
  o1 : ∀ g, ob = some g → g < B0 ∧ g ≠ aB
/-- What a round keeps: all that is older than B0, but aB. -/
def KpB (B0 aB : Nat) (W W' : World) : Prop := W.heap.size ≤ W'.heap.size ∧ ∀ k o, k < B0 → k ≠ aB → W.heap[k]? = some o → W'.heap[k]? = some o
theorem kpB_t {B0 aB : Nat} {A B C : World} (h : KpB B0 aB A B) (k : KpB B0 aB B C) : KpB B0 aB A C := ⟨Nat.le_trans h.1 k.1, fun i o hi hn ho => k.2 i o hi hn (h.2 i o hi hn ho)⟩
theorem KpB.row {B0 aB : Nat} {W W' : World} (h : KpB B0 aB W W') {g : Nat} {t : TypeId} {cs : Array Value} (hr : Row W g t cs) (h1 : g < B0) (hn : g ≠ aB) : Row W' g t cs := h.2 g _ h1 hn hr
theorem KpB.hm {B0 aB : Nat} {W W' : World} (h : KpB B0 aB W W') {b : Nat} {ob : Option Nat} {v : Value} {xs : List St} (hm : Hm W b v ob xs) (ho : Old b ob B0 aB) : Hm W' b v ob xs :=
  ⟨h.row hm.row ho.b1 ho.b2, hm.seg.keep fun g hg => by
    have hlt := hm.seg.lt g hg
    obtain ⟨o, ho1⟩ : ∃ o, W.heap[g]? = some o := ⟨_, Array.getElem?_eq_getElem hlt⟩
    rw [ho1]
    exact h.2 g o (ho.o1 g hg).1 (ho.o1 g hg).2 ho1⟩
/-- What has been taken: the first k, each of which might go; c: it has ended of itself. -/
def Pulled (b : Nat) (ob : Option Nat) (xs : List St) (mg : St → Bool) (c : Bool) (ys : List St) (W : World) : Prop :=
  ∃ k v, ys = outs k xs ∧ k ≤ xs.length ∧ Hm W b v ob (pops k xs) ∧ (∀ i, i < k → mg (gt (pops i xs) 0) = true) ∧ (c = true → k = xs.length ∨ mg (gt (pops k xs) 0) = false)
/-- What comes next. -/
def Nx (xs : List St) (pre : List St) (x : St) : Prop := pre.length < xs.length ∧ pre = outs pre.length xs ∧ x = gt (pops pre.length xs) 0
/-- How many things a heap's slice has. -/
def lenAt (b : Nat) (w : World) : Nat := match w.cell? ⟨b, 0, none⟩ with | some (.slice _ n _) => n | _ => 0
theorem Hm.lenAt {w : World} {b : Nat} {v : Value} {ob : Option Nat} {xs : List St} (h : Hm w b v ob xs) : Hp.lenAt b w = xs.length := by
  obtain ⟨A, c, e, _⟩ := h.seg.form
  have h0 : w.cell? ⟨b, 0, none⟩ = some v := (h.row.cell 0).trans rfl
  unfold Hp.lenAt
  rw [h0, e]
/-- Between two rounds. -/
structure Dst (b : Nat) (ob : Option Nat) (xs : List St) (mg : St → Bool) (Fx : World → Prop) (J : List St → World → Prop) (k : Nat) (v : Value) (W : World) : Prop where
  hm : Hm W b v ob (pops k xs)
  fx : Fx W
  j : J (outs k xs) W
  le : k ≤ xs.length
  mg : ∀ i, i < k → mg (gt (pops i xs) 0) = true
theorem Dst.turn {b : Nat} {ob : Option Nat} {xs : List St} {mg : St → Bool} {Fx : World → Prop} {J : List St → World → Prop} {k : Nat} {v : Value} {W X : World} (h : Dst b ob xs mg Fx J k v W) (hb : Below W.heap.size W X)
    (hFT : ∀ A B, Fx A → Turns A B (fun k => k = b ∨ ob = some k) → Fx B) (hJ : Stab (fun k => k = b ∨ ob = some k) J) : Dst b ob xs mg Fx J k v X :=
  have t : Turns W X (fun k => k = b ∨ ob = some k) := (Turns.of_below hb).mono (fun _ _ e => e.elim)
  ⟨h.hm.call hb, hFT _ _ h.fx t, hJ _ _ _ h.j t, h.le, h.mg⟩

set_option maxHeartbeats 4000000 in
theorem drain_inA (n l hB mB b : Nat) (ob : Option Nat) (v : Value) (xs : List St) (h64 : xs.length ≤ 65536) (B0 aB : Nat) (mg : St → Bool) (mc : Unit) (J Jx : List St → World → Prop) (W : World)
    (hl : Old b ob B0 aB)
    (Fx : World → Prop) (hF1 : ∀ W, Fx W → Row W hB 34 #[.pointer (some ⟨b, 0, none⟩)])
    (hF2 : ∀ W, Fx W → Row W mB 29 #[.func (.func 15) #[] #[]])
    (hFT : ∀ A B, Fx A → Turns A B (fun k => k = b ∨ ob = some k) → Fx B) (hFK : ∀ A B, Fx A → KpB B0 aB A B → Fx B)
    (hmg : ∀ (y : St) W, Fx W → Calls Try.prog 15 #[.agg #[.int .i64 y.t, .int .i64 y.q, .int .i64 y.a]] W fun e W' => e = .returned (.bool (mg y)) ∧ Below W.heap.size W W')
    (hJ : Stab (fun k => k = b ∨ ob = some k) J) (hJx : Stab (fun k => k = b ∨ ob = some k) Jx)
    (hY : ∀ pre x W1, J pre W1 → Nx xs pre x → YieldAt Fence.wide (n - 1) Try.prog l #[.agg #[.int .i64 x.t, .int .i64 x.q, .int .i64 x.a]] W1 fun e W' => KpB B0 aB W1 W' ∧ ((e = .returned (.bool true) ∧ J (pre ++ [x]) W') ∨ (e = .returned (.bool false) ∧ Jx (pre ++ [x]) W')))
    (hL : Hm W b v ob xs) (hF : Fx W) (h0 : J [] W) :
    CallsIn Fence.wide n Try.prog 21 #[.func (.yield l) #[] #[], .pointer (some ⟨hB, 0, none⟩), .pointer (some ⟨mB, 0, none⟩)] W fun e W' => (∃ v, e = .returned v) ∧
      ∃ ys, (Pulled b ob xs mg true ys W' ∧ J ys W') ∨ (Pulled b ob xs mg false ys W' ∧ Jx ys W') := by
  have H0 : Hid (∃ v, Dst b ob xs mg Fx J 0 v W) := Lib.hid ⟨v, hL, hF, h0, Nat.zero_le _, fun i hi => absurd hi (by omega)⟩
  clear hL hF h0
  have hFw : ∀ k, Fence.wide.fn k := fun _ => trivial
  refine callsIn_of_wp Try.func21 rfl trivial ?_ rfl
  simp only [Try.ntmps21, List.size_toArray, List.length_cons, List.length_nil, Nat.reduceAdd, Nat.reduceSub, Array.replicate_succ, Array.replicate_zero, List.push_toArray, List.append_toArray, List.nil_append, List.cons_append]
  gi_wp2
  gi_loopw [4] (fun _ wr => ∃ k : Nat, Hid (∃ v, Dst b ob xs mg Fx J k v wr)) (fun _ wr => lenAt b wr)
  case atStart => exact ⟨0, H0.out⟩
  case round =>
    obtain ⟨k, hK⟩ := hrel
    obtain ⟨v1, hd⟩ := hK.out
    have HD := Lib.hid hd
    have c1 : wr.cell? ⟨hB, 0, none⟩ = some (.pointer (some ⟨b, 0, none⟩)) := ((hF1 _ hd.fx).cell 0).trans rfl
    have hlen : (pops k xs).length = xs.length - k := pops_len k xs
    have hle := hd.le
    obtain ⟨V, rfl⟩ : ∃ V, V = wr := ⟨_, rfl⟩
    clear hd hK H0
    rcases Nat.lt_or_ge k xs.length with hk | hk
    · obtain ⟨x, hx⟩ : ∃ x, gt (pops k xs) 0 = x := ⟨_, rfl⟩
      have hpk := peek_yes b v1 ob (pops k xs) V HD.out.hm (by omega)
      rw [hx] at hpk
      have HPK := Lib.hid hpk
      have HX := Lib.hid hx
      clear hpk hx
      gi_wp2_with fail
      refine ⟨fun h => (by cases h), ?_⟩
      refine (callsIn_wide.2 HPK.out).mono ?_
      rintro e w1 ⟨rfl, hb1⟩
      have HD1 := Lib.hid (HD.out.turn hb1 hFT hJ)
      clear hb1
      have hd2 := HD1.out.turn ((Below.refl _ w1).alloc (Nat.le_refl _) (.cells #[.int .i64 x.t, .int .i64 x.q, .int .i64 x.a] 28)) hFT hJ
      have r2 := Row.made w1 28 #[.int .i64 x.t, .int .i64 x.q, .int .i64 x.a]
      have m2 : (w1.alloc (.cells #[.int .i64 x.t, .int .i64 x.q, .int .i64 x.a] 28)).cell? ⟨mB, 0, none⟩ = some (.func (.func 15) #[] #[]) := ((hF2 _ hd2.fx).cell 0).trans rfl
      have HD2 := Lib.hid hd2
      have HR2 := Lib.hid r2
      have hs1 : b < w1.heap.size := HD1.out.hm.row.lt
      have HS2 : Hid (∀ g, ob = some g → g < w1.heap.size) := Lib.hid HD1.out.hm.seg.lt
      clear hd2 r2
      gi_wp2_with fail
      refine ⟨fun h => (by cases h), ?_⟩
      refine (callsIn_wide.2 (hmg x _ HD2.out.fx)).mono ?_
      rintro e w3 ⟨rfl, hb3⟩
      have HD3 := Lib.hid (HD2.out.turn hb3 hFT hJ)
      have r3 := HR2.out.below hb3 (by simp)
      have c3 : w3.cell? ⟨hB, 0, none⟩ = some (.pointer (some ⟨b, 0, none⟩)) := ((hF1 _ HD3.out.fx).cell 0).trans rfl
      have HR3 := Lib.hid r3
      clear hb3 m2 r3
      obtain ⟨mx, hmx⟩ : ∃ mx, mg x = mx := ⟨_, rfl⟩
      rw [hmx]
      have HMX := Lib.hid hmx
      clear hmx
      cases mx with
      | true =>
        gi_wp2_with fail
        refine ⟨fun h => (by cases h), ?_⟩
        refine (callsIn_wide.2 (drop_gen b v1 ob (pops k xs) w3 HD3.out.hm (by omega) (by omega))).mono ?_
        rintro e w4 ⟨rfl, v2, hz⟩
        have n2 : ¬ (w1.heap.size = b ∨ ob = some w1.heap.size) := by
          rintro (e | e)
          · omega
          · exact Nat.lt_irrefl _ (HS2.out _ e)
        have r4 := HR3.out.turns hz.tr n2
        have f4 := hFT _ _ HD3.out.fx hz.tr
        have j4 := hJ _ _ _ HD3.out.j hz.tr
        have p0 : w4.cell? ⟨w1.heap.size, 0, none⟩ = some (.int .i64 x.t) := (r4.cell 0).trans rfl
        have p1 : w4.cell? ⟨w1.heap.size, 1, none⟩ = some (.int .i64 x.q) := (r4.cell 1).trans rfl
        have p2 : w4.cell? ⟨w1.heap.size, 2, none⟩ = some (.int .i64 x.a) := (r4.cell 2).trans rfl
        have hm4 := hz.hm
        rw [← pops_succ] at hm4
        have HM4 := Lib.hid hm4
        have HF4 := Lib.hid f4
        have ho : outs (k + 1) xs = outs k xs ++ [x] := by rw [outs_succ, HX.out]
        have HO := Lib.hid ho
        obtain ⟨fn, tmps, assign, body, hy, hR⟩ := hY (outs k xs) x w4 j4 ⟨by rw [outs_len]; exact hk, by rw [outs_len], by rw [outs_len]; exact HX.out.symm⟩
        clear r4 f4 hm4 ho hz j4
        gi_wp2
        refine ⟨fun h => (by cases h), ?_⟩
        refine hR.mono ?_
        rintro e W5 ⟨hkp, hres⟩
        have HM5 := Lib.hid (hkp.hm HM4.out hl)
        have HF5 := Lib.hid (hFK _ _ HF4.out hkp)
        have HMG : Hid (∀ i, i < k + 1 → mg (gt (pops i xs) 0) = true) := Lib.hid fun i hi => by
          by_cases e : i = k
          · subst e; rw [HX.out]; exact HMX.out
          · exact HD3.out.mg i (by omega)
        clear hkp
        rcases hres with ⟨rfl, hJ5⟩ | ⟨rfl, hJx5⟩
        · have HJ5 := Lib.hid hJ5
          have hm5 : lenAt b W5 < lenAt b V := by rw [HM5.out.lenAt, HD.out.hm.lenAt, pops_len, pops_len]; omega
          clear hJ5
          gi_wp2
          go_roundw
          case rel => exact ⟨k + 1, Lib.hid ⟨v2, HM5.out, HF5.out, by rw [HO.out]; exact HJ5.out, hk, HMG.out⟩⟩
          case measure => exact hm5
        · have HJ5 := Lib.hid hJx5
          clear hJx5
          gi_wp2
          refine bodyPost_ret (results_none rfl _ _ _) rfl ?_
          exact ⟨⟨_, rfl⟩, _, .inr ⟨⟨k + 1, v2, rfl, hk, HM5.out, HMG.out, fun e => by cases e⟩, by rw [HO.out]; exact HJ5.out⟩⟩
      | false =>
        gi_wp2
        refine bodyPost_ret (results_none rfl _ _ _) rfl ?_
        exact ⟨⟨_, rfl⟩, _, .inl ⟨⟨k, v1, rfl, hle, HD3.out.hm, HD3.out.mg, fun _ => .inr (by rw [HX.out]; exact HMX.out)⟩, HD3.out.j⟩⟩
    · have hke : k = xs.length := by omega
      have hnil : pops k xs = [] := List.eq_nil_of_length_eq_zero (by omega)
      have hpk := peek_no b v1 ob V (by have := HD.out.hm; rwa [hnil] at this)
      have HPK := Lib.hid hpk
      have HE := Lib.hid hke
      clear hpk hke hnil
      gi_wp2_with fail
      refine ⟨fun h => (by cases h), ?_⟩
      refine (callsIn_wide.2 HPK.out).mono ?_
      rintro e w1 ⟨rfl, hb1⟩
      have HD1 := Lib.hid (HD.out.turn hb1 hFT hJ)
      have HD2 := Lib.hid (HD1.out.turn ((Below.refl _ w1).alloc (Nat.le_refl _) (.cells #[.int .i64 0, .int .i64 0, .int .i64 0] 28)) hFT hJ)
      clear hb1
      gi_wp2
      refine bodyPost_ret (results_none rfl _ _ _) rfl ?_
      exact ⟨⟨_, rfl⟩, _, .inl ⟨⟨k, v1, rfl, hle, HD2.out.hm, HD2.out.mg, fun _ => .inl HE.out⟩, HD2.out.j⟩⟩
end Go.Proofs.Ytbjkeclfcccilaa.Hp
