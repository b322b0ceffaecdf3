/- SeqsLists' law. -/
import Derived.Test.YtkklceblojcbkaaSrT
import Derived.Test.YtkklceblojcbkaaBits
import Derived.Deep.DeepCutAuto
import Derived.Deep.CutBlock
import Derived.BigRegion
import Derived.Deep.RegionLaw
namespace Go.Proofs.Ytkklceblojcbkaa.Sr
open Go.RowKit Go.Proofs.Ytkklceblojcbkaa Go.Proofs.Ytkklceblojcbkaa.Sq
set_option linter.unusedVariables false
set_option linter.unusedSimpArgs false
set_option maxRecDepth 100000
attribute [local go_sem] Oper.semAt_some
theorem step_append_seg {P : Program} {e : TypeId} {v : Value} {n size : Nat} {xs : List Value} {ob : Option Nat} {ops : Array Oper} {o : Oper} {a : Act} {K : Act → World → Prop} {Q : Exit → Act → World → Prop} {E : Prop} (w : World) (hgd : o.guard = none) (s x : Operand) (t : TypeId)
    (hop : o.op = .call { callee := .builtin .append, args := #[s, x], argTypes := #[t, t] })
    (i : TypeInfo) (z : Value) (bytes : Nat) (ht : P.underlying t = some (.slice e)) (hi : P.info? e = some i) (hz : i.zero = some z)
    (hsize : i.size = size) (hby : i.bytes = bytes) (hzs : z.cells.size = size) (hsz : 0 < size) (hs : a.eval s = v) (h : Seg w e size v n xs ob)
    (ad : Addr) (m c : Nat) (news : List Value) (hx : a.eval x = .slice (some ad) m c) (hl : news.length = m * size) (hnews : ∀ j u, news[j]? = some u → w.cell? (ad.add j) = some u) (h1 : ∀ u ∈ news, u.oneCell' = true) (hm : 0 < m)
    (h63 : n + m ≤ maxLen) (hbytes : (n + m) * bytes ≤ 140737488355328)
    (hK : ∀ v' w' ob', Seg w' e size v' (n + m) (xs ++ news) ob' → Turns w w' (fun k => ob = some k) → (ob' = ob ∨ ∃ g, ob' = some g ∧ w.heap.size ≤ g) → K (a.put o.dst v') w') :
    if Region.wanted o (yielded ops a.tmps) = true then Oper.wp P o a w K Q else E := by
  rw [if_pos (by simp [Region.wanted, hgd])]
  obtain ⟨v', w', ob', hrun, r1, r2, r3⟩ := run_append_seg (P := P) t o.type i z bytes ht hi hz hsize hby hzs hsz h ad m c news hl hnews h1 hm h63 hbytes
  unfold Oper.wp
  simp [execOp, hop, resolve, invoke, builtin, hs, hx, hrun, Result.andThen]
  exact hK v' w' ob' r1 r2 r3
theorem drewS {w : World} {e : TypeId} {size : Nat} {v : Value} {n : Nat} {xs : List Value} {ob : Option Nat} (h : Seg w e size v n xs ob) : Seg w.drew e size v n xs ob := h
theorem kq_below {P O : Own} {B : Nat} {A A' : World} (h : Below A.heap.size A A') : Kq P O B A A' :=
  ⟨⟨h.size, fun k o _ hk _ => (h.block k (Array.getElem?_eq_some_iff.1 hk).1).trans hk⟩, fun k cs t hk _ => (h.block k (Array.getElem?_eq_some_iff.1 hk).1).trans hk⟩
theorem keeps_below {B : Nat} {A A' : World} (h : Below A.heap.size A A') : KeepsFrom B A A' := (kq_below (P := fun _ => False) (O := fun _ => False) h).1
theorem seg_putObj {W : World} {e : TypeId} {size n : Nat} {v : Value} {xs : List Value} {ob : Option Nat} {l : Nat} {o : Obj} (o' : Obj) (h : Seg W e size v n xs ob) (ho : W.heap[l]? = some o) (hc : o.isCells = false) : Seg (W.putObj l o') e size v n xs ob :=
  h.keep fun g hg => by
    subst hg
    obtain ⟨c, hr⟩ := seg_row h
    unfold Row at hr
    refine World.putObj_heap_other (fun e => ?_)
    subst e
    rw [hr] at ho
    cases ho
    cases hc
theorem putC (p : Tmp) (t : Array Value) (x : Ck) : ((#[p] : Array Tmp).zip (encC x)).foldl (fun t (p, v) => t.setIfInBounds p v) t = t.setIfInBounds p x.1 := by simp [encC]
/-- A part of a list, by what is ahead of it. -/
theorem part_eq {a b L : List Int} (h : a ++ b <+: L) : (L.drop a.length).take b.length = b := by
  obtain ⟨t, rfl⟩ := h
  rw [List.append_assoc, List.drop_left, List.take_left]
theorem inv_pure {β : Type} {w0 V : World} (b : Nat) (f : β → Array Value) {PP : Own} (hP : Cells PP V) {Ds : List Nat} (hD : ∀ D ∈ Ds, D < V.heap.size) (hB : w0.heap.size ≤ V.heap.size) (p : β → Prop) : Stb V.heap.size (fun O (s : β) A => p s ∧ Inv w0 V b PP Ds O (f s) A) := (inv_stb b f hP hD hB).pure p
theorem rangeTelW_all {F : Fence} {n : Nat} {P : Program} {α : Type} {g : Operand} {ps : Array Tmp} {assign body : Code} {Q : Exit → Act → World → Prop} {a : Act} {w : World}
    (hro : F.round = none) (h1 : 1 ≤ n) {gf : Nat} {lb : Array Value} (hg : a.eval g = .func (.func gf) #[] lb) (hFg : F.fn gf) (eg : ∀ args w, (callFunc gf args).run P w = .ok (.enter gf args) w)
    {encs : α → Array Value} {KP : Own} {d : Nat} {S : Bool → List α → Prop} {G : Own → List α → α → World → Prop} (hseq : TelW d F (n - 1) P gf lb encs KP S G w)
    (hps : ∀ x, (encs x).size = ps.size)
    (I : Own → List α → World → Prop) (hI : Stb w.heap.size I) (h0 : I (fun _ => False) [] w)
    (hround : ∀ (l : Nat) (O : Own) (pre : List α) (x : α) (W : World), w.heap.size ≤ l → I O pre W → G O pre x W → w.heap.size + 2 ≤ W.heap.size →
      assign.wpIn (F.inRound l) (n - 1 - d) P (Exit.then (fun a' W' => KeepsFrom w.heap.size W W' ∧ Kq KP O (w.heap.size + 2) W W' ∧ ∀ o o' : Obj, o.isCells = false → W'.heap[l]? = some o → body.wpIn (F.inRound l) (n - 1 - d) P (Left w.heap.size (Kq KP O (w.heap.size + 2)) (I O) (fun _ _ _ => False) (pre ++ [x]) (W'.putObj l o')) a' (W'.putObj l o')) (fun _ _ _ => False))
        { tmps := (ps.zip (encs x)).foldl (fun t (p, v) => t.setIfInBounds p v) a.tmps, defers := [] } W)
    (hdone : ∀ (D : Nat) (O : Own) (xs : List α) (W : World), w.heap.size ≤ D → ¬ O D → S true xs → I O xs W → W.heap[D]? = some (.deferred (some [])) → Q .normal { a with defers := { target := .collected D, args := #[] } :: a.defers } W) :
    (Code.rangeFunc g ps assign body).wpIn F n P Q a w :=
  wpIn_rangeTelW hro h1 hg hFg eg hseq (Hold.refl _ _) hps I (fun _ _ _ _ => False) hI (fun _ => Stb.no) h0 hround hdone (fun _ _ _ _ _ _ _ _ h _ => h.elim)
theorem rangeTel_all {F : Fence} {n : Nat} {P : Program} {α : Type} {g : Operand} {ps : Array Tmp} {assign body : Code} {Q : Exit → Act → World → Prop} {a : Act} {w : World}
    (hro : F.round = none) (h1 : 1 ≤ n) {gf : Nat} {lb : Array Value} (hg : a.eval g = .func (.func gf) #[] lb) (hFg : F.fn gf) (eg : ∀ args w, (callFunc gf args).run P w = .ok (.enter gf args) w)
    {encs : α → Array Value} {KP : Own} {d : Nat} {S : Bool → List α → Prop} {G : List α → α → Prop} (hseq : Tel d F (n - 1) P gf lb encs KP S G w)
    (hps : ∀ x, (encs x).size = ps.size)
    (I : Own → List α → World → Prop) (hI : Stb w.heap.size I) (h0 : I (fun _ => False) [] w)
    (hround : ∀ (l : Nat) (O : Own) (pre : List α) (x : α) (W : World), w.heap.size ≤ l → I O pre W → G pre x → w.heap.size + 2 ≤ W.heap.size →
      assign.wpIn (F.inRound l) (n - 1 - d) P (Exit.then (fun a' W' => KeepsFrom w.heap.size W W' ∧ Kq KP O (w.heap.size + 2) W W' ∧ ∀ o o' : Obj, o.isCells = false → W'.heap[l]? = some o → body.wpIn (F.inRound l) (n - 1 - d) P (Left w.heap.size (Kq KP O (w.heap.size + 2)) (I O) (fun _ _ _ => False) (pre ++ [x]) (W'.putObj l o')) a' (W'.putObj l o')) (fun _ _ _ => False))
        { tmps := (ps.zip (encs x)).foldl (fun t (p, v) => t.setIfInBounds p v) a.tmps, defers := [] } W)
    (hdone : ∀ (D : Nat) (O : Own) (xs : List α) (W : World), w.heap.size ≤ D → ¬ O D → S true xs → I O xs W → W.heap[D]? = some (.deferred (some [])) → Q .normal { a with defers := { target := .collected D, args := #[] } :: a.defers } W) :
    (Code.rangeFunc g ps assign body).wpIn F n P Q a w :=
  wpIn_rangeTel hro h1 hg hFg eg hseq (Hold.refl _ _) hps I (fun _ _ _ _ => False) hI (fun _ => Stb.no) h0 hround hdone (fun _ _ _ _ _ _ _ _ h _ => h.elim)
/-- What a round of Steps says of the list. -/
theorem next3_at {zs : List Int} {pre : List (Int × Int)} {p : Int × Int} (h : Next3 zs pre p) : ∃ (h1 : pre.length + 1 < zs.length), p.1 = zs[pre.length] ∧ p.2 = zs[pre.length + 1] := by
  obtain ⟨l, y, rfl, hl, rfl, t, ht⟩ := h
  have hn : (stp l).length + 1 = l.length := by
    have := List.length_pos_iff.2 hl
    simp [stp]; omega
  subst ht
  refine ⟨by simp; omega, ?_, ?_⟩
  · show l.getLastD 0 = _
    have e : (l ++ [y] ++ t)[(stp l).length]'(by simp; omega) = l[(stp l).length]'(by omega) := by
      rw [List.getElem_append_left (by simp; omega), List.getElem_append_left (by omega)]
    rw [e, List.getLastD_eq_getLast?, List.getLast?_eq_getElem?]
    have e2 : l.length - 1 = (stp l).length := by omega
    rw [e2, List.getElem?_eq_getElem (by omega)]
    rfl
  · show y = _
    rw [List.getElem_append_left (by simp; omega), List.getElem_append_right (by omega)]
    simp [hn]
theorem next2_at {zs : List Int} {pre : List (Int × Int)} {p : Int × Int} (h : Next2 zs pre p) : ∃ (h1 : pre.length < zs.length), p.1 = (pre.length : Int) ∧ p.2 = zs[pre.length] := by
  obtain ⟨l, x, rfl, rfl, t, ht⟩ := h
  subst ht
  rw [num_len]
  refine ⟨by simp, rfl, ?_⟩
  show x = _
  rw [List.getElem_append_left (by simp), List.getElem_append_right (by omega)]
  simp
theorem stp_len (l : List Int) : (stp l).length = l.length - 1 := by simp [stp]
theorem li_cells {w : World} {B n c : Nat} {A : Option Addr} {L : List Int} (h : LI w B (.slice A n c) L) (k : Nat) (hk : k < L.length) : ∃ g o, A = some ⟨g, o, none⟩ ∧ w.cell? ⟨g, o + k, none⟩ = some (.int .i64 L[k]) := by
  obtain ⟨A', c', e, _, _, hc⟩ := h
  injection e with e1 e2 e3
  subst e1
  obtain ⟨g, o, e, _, h⟩ := hc k hk
  exact ⟨g, o, e, h⟩
theorem li_cells2 {w : World} {B n c : Nat} {A : Option Addr} {L : List Int} (h : LI w B (.slice A n c) L) (k j : Nat) (hk : k < L.length) (hj : j < L.length) : ∃ g o, A = some ⟨g, o, none⟩ ∧ w.cell? ⟨g, o + k, none⟩ = some (.int .i64 L[k]) ∧ w.cell? ⟨g, o + j, none⟩ = some (.int .i64 L[j]) := by
  obtain ⟨g, o, rfl, h1⟩ := li_cells h k hk
  obtain ⟨g2, o2, e, h2⟩ := li_cells h j hj
  injection e with e
  injection e with e1 e2
  subst e1 e2
  exact ⟨g, o, rfl, h1, h2⟩
theorem results_cell0 {fn : Func} {p : Tmp} (h : fn.results = #[.cell p 4]) (tmps : Array Value) (w : World) (g : Nat) (v : Value)
    (hp : tmps.getD p undef = .pointer (some ⟨g, 0, none⟩)) (hc : w.cell? ⟨g, 0, none⟩ = some v) : (results fn tmps).run Try.prog w = .ok v w := by
  have hp' : tmps[p]?.getD undef = .pointer (some ⟨g, 0, none⟩) := by simpa using hp
  have hl : (loadVar 4 ⟨g, 0, none⟩).run Try.prog w = .ok v w := by
    simp [loadVar, go_sem, hc, Result.andThen]
  simp [results, h, hp', asAddr, hl]
/-- The list that the law makes of another one. -/
def sevens (L : List Int) : List Int := (L.take 20).map (· % 8)
/-- While the list is made: the boxed number in b3, the list in b5. -/
structure Mk (w0 : World) (b3 b4 b5 : Nat) (n : Int) (X : World) (v : Value) (xs : List Int) (ob : Option Nat) : Prop where
  r3 : Row X b3 3 #[.int .i64 n]
  r4 : Row X b4 4 #[.bool false]
  r5 : Row X b5 22 #[v]
  seg : Seg X 3 1 v xs.length (ints xs) ob
  own : ∀ g, ob = some g → w0.heap.size ≤ g ∧ g ≠ b3 ∧ g ≠ b4 ∧ g ≠ b5
  be : Below w0.heap.size w0 X
theorem Mk.push {w0 X w5 : World} {b3 b4 b5 i : Nat} {n : Int} {v v2 : Value} {zs : List Int} {ob ob2 : Option Nat} {o : Obj} {x y : Int} (h : Mk w0 b3 b4 b5 n X v ((zs.take i).map (· % 8)) ob) (hb : w0.heap.size + 3 ≤ b5) (n35 : b3 ≠ b5) (n45 : b4 ≠ b5)
    (hs2 : Seg w5 3 1 v2 (i + 1) (ints ((zs.take i).map (· % 8)) ++ [.int .i64 y]) ob2) (ht2 : Turns (X.alloc o).drew w5 (fun k => ob = some k)) (ho2 : ob2 = ob ∨ ∃ g, ob2 = some g ∧ (X.alloc o).drew.heap.size ≤ g)
    (hln : ((zs.take i).map (· % 8)).length = i) {m : Nat} (hm : m = zs.length) {hiz : i < zs.length} (hx : zs[i] = x) (hy : x % 8 = y) (hi : i < zs.length) :
    Mk w0 b3 b4 b5 n (w5.setCell ⟨b5, 0, none⟩ v2) v2 ((zs.take (i + 1)).map (· % 8)) ob2 := by
  have e : (zs.take (i + 1)).map (· % 8) = (zs.take i).map (· % 8) ++ [y] := by
    rw [List.take_succ_eq_append_getElem hi, List.map_append, hx]
    simp [hy]
  have h3 := (Row.drew (h.r3.alloc o)).turns ht2 (fun e => (h.own _ e).2.1 rfl)
  have h4 := (Row.drew (h.r4.alloc o)).turns ht2 (fun e => (h.own _ e).2.2.1 rfl)
  have h5 := (Row.drew (h.r5.alloc o)).turns ht2 (fun e => (h.own _ e).2.2.2 rfl)
  have l5 := h.r5.lt
  have l3 := h.r3.lt
  have l4 := h.r4.lt
  have hown : ∀ g, ob2 = some g → w0.heap.size ≤ g ∧ g ≠ b3 ∧ g ≠ b4 ∧ g ≠ b5 := fun g hg => by
    rcases ho2 with h1 | ⟨g', h1, h2⟩
    · rw [h1] at hg; exact h.own g hg
    · rw [h1] at hg; injection hg with hg; subst hg
      have : X.heap.size + 1 ≤ g' := by simpa using h2
      have := h.be.size
      exact ⟨by omega, by omega, by omega, by omega⟩
  refine ⟨h3.past (p := ⟨b5, 0, none⟩) n35 _, h4.past (p := ⟨b5, 0, none⟩) n45 _, by simpa using h5.put 0 v2, ?_, hown, ?_⟩
  · rw [e, List.length_append, hln]
    have hs3 : ints ((zs.take i).map (· % 8) ++ [y]) = ints ((zs.take i).map (· % 8)) ++ [.int .i64 y] := by simp [ints]
    rw [hs3]
    exact hs2.past (p := ⟨b5, 0, none⟩) (fun e => (hown _ e).2.2.2 rfl) _
  · refine (ht2.below (B := w0.heap.size) (h.be.alloc h.be.size _).drew ?_ (fun g hg e => by have := (h.own g e).1; omega)).setCell (by show w0.heap.size ≤ b5; omega) _
    have := h.be.size
    show w0.heap.size ≤ (X.alloc o).heap.size
    simp; omega
set_option maxHeartbeats 8000000 in
theorem lists_law (A : Option Addr) (m c : Nat) (zs : List Int) (hm : m ≤ c) (hc : c ≤ 9223372036854775807) (k : Int) (hk : -9223372036854775808 ≤ k ∧ k ≤ 9223372036854775807) (w : World) (HL : Hid (LI w w.heap.size (.slice A m c) zs)) :
    CallsIn Fence.wide 60 Try.prog 4 #[.slice A m c, .int .i64 k] w fun e w' => e = .returned (.bool true) ∧ Below w.heap.size w w' := by
  have hF : ∀ k, Fence.wide.fn k := fun _ => trivial
  have hro : Fence.wide.round = none := rfl
  have HLm := Lib.hid HL.out.len
  have HCL : Hid (∀ i (h : i < zs.length), ∃ g o, A = some ⟨g, o, none⟩ ∧ g < w.heap.size ∧ w.cell? ⟨g, o + i, none⟩ = some (.int .i64 zs[i])) := Lib.hid (by
    obtain ⟨A', c', e, _, _, h⟩ := HL.out
    injection e with e1 e2 e3
    subst e1
    exact h)
  obtain ⟨i0, hi0, hz0, hz1, hz2⟩ := info_parts int_info
  refine callsIn_of_wp_marks Try.func4 rfl trivial ?_ rfl
  simp only [Try.ntmps4, List.size_toArray, List.length_cons, List.length_nil, Nat.reduceAdd, Nat.reduceSub, Array.replicate_succ, Array.replicate_zero, List.push_toArray, List.append_toArray, List.nil_append, List.cons_append]
  refine wpIn_wide.2 ?_
  go_wp2_with (go_at_call 8; refine (awake_any _).mono ?_; rintro e w1 ⟨rfl, hb1⟩; have HB := Lib.hid hb1; clear hb1)
  obtain ⟨b5, hb5⟩ : ∃ x, w1.heap.size + 1 = x := ⟨_, rfl⟩
  rw [hb5]
  have hw0 : w.heap.size + 2 ≤ w1.heap.size := by have := HB.out.size; simpa using this
  have r3 : Row w1 w.heap.size 3 #[.int .i64 k] := by
    have h := (Row.made w 3 #[.int .i64 k]).alloc (.cells #[.bool false] 4)
    exact (HB.out.block _ h.lt).trans h
  have r4 : Row w1 (w.heap.size + 1) 4 #[.bool false] := by
    have h := Row.made (w.alloc (.cells #[.int .i64 k] 3)) 4 #[.bool false]
    rw [World.size_alloc] at h
    exact (HB.out.block _ h.lt).trans h
  obtain ⟨w2, hw2⟩ : ∃ x, (w1.alloc (.cells #[] 3)).alloc (.cells #[.slice (some ⟨w1.heap.size, 0, none⟩) 0 0] 22) = x := ⟨_, rfl⟩
  have HM : Hid (Mk w w.heap.size (w.heap.size + 1) b5 k w2 (.slice (some ⟨w1.heap.size, 0, none⟩) 0 0) [] none) := Lib.hid (by
    rw [← hw2]
    refine ⟨(r3.alloc _).alloc _, (r4.alloc _).alloc _, ?_, Sq.seg_zero _ _, (fun g e => by cases e), ?_⟩
    · have h := Row.made (w1.alloc (.cells #[] 3)) 22 #[.slice (some ⟨w1.heap.size, 0, none⟩) 0 0]
      rw [World.size_alloc, hb5] at h
      exact h
    · exact ((((Below.refl _ w).alloc (Nat.le_refl _) _).alloc (by simp) _).trans (HB.out.mono (by simp; omega))).alloc (by omega) _ |>.alloc (by simp; omega) _)
  rw [hw2]
  have hb5' : w.heap.size + 3 ≤ b5 := by omega
  clear r3 r4 hw2 HB hb5 hw0
  generalize (some ⟨w1.heap.size, 0, none⟩ : Option Addr) = A5 at HM ⊢
  have HV : Hid (∃ v xs ob, v = .slice A5 0 0 ∧ xs = (zs.take 0).map (· % 8) ∧ Mk w w.heap.size (w.heap.size + 1) b5 k w2 v xs ob) := Lib.hid ⟨_, _, _, rfl, rfl, HM.out⟩
  go_loopw [6] (fun s wr => ∃ i : Nat, i ≤ 20 ∧ i ≤ m ∧ s = .int .i64 i ∧ Hid (∃ v ob, Mk w w.heap.size (w.heap.size + 1) b5 k wr v ((zs.take i).map (· % 8)) ob)) (fun s _ => 20 - (intOf s).toNat)
  case atStart => exact ⟨0, by omega, by omega, rfl, Lib.hid ⟨_, _, HM.out⟩⟩
  case round =>
    clear HM
    obtain ⟨i, h20, him, rfl, hrel⟩ := hrel
    obtain ⟨v, ob, hM⟩ := hrel.out
    have HM := Lib.hid hM
    have hln : ((zs.take i).map (· % 8)).length = i := by simp; have := HLm.out; omega
    have hfm := hM.seg.form
    rw [hln] at hfm
    obtain ⟨Av, cv, rfl, hcv, hcm⟩ := hfm
    clear hM hrel
    by_cases hlt : i < m ∧ i < 20
    · obtain ⟨hlt, hl20⟩ := hlt
      have hiz : i < zs.length := by have := HLm.out; omega
      obtain ⟨g, o, e2, hg, hcell⟩ := HCL.out i hiz
      subst e2
      have kc := (HM.out.be.cell (p := ⟨g, o + i, none⟩) hg).trans hcell
      have kc1 : ∀ ob, (wr.alloc ob).cell? ⟨g, o + i, none⟩ = some (.int .i64 zs[i]) := fun ob => (World.cell?_alloc_old _ _ _ (by have := HM.out.be.size; show g ≠ _; omega)).trans kc
      have a7 := and7 zs[i]
      obtain ⟨y, hy⟩ : ∃ y, zs[i] % 8 = y := ⟨_, rfl⟩
      have HY := Lib.hid hy
      rw [hy] at a7
      obtain ⟨x, hx⟩ : ∃ x, zs[i] = x := ⟨_, rfl⟩
      rw [hx] at a7 kc kc1
      have x5 : wr.cell? ⟨b5, 0, none⟩ = some (.slice Av i cv) := (HM.out.r5.cell 0).trans rfl
      have hiw : IntKind.i64.wrap ((i : Int) + 1) = (i : Int) + 1 := by rw [IntKind.wrap_i64]; omega
      have hlz : (i : Int) < (m : Int) := by omega
      have HS : Hid (Seg wr 3 1 (.slice Av i cv) i (ints ((zs.take i).map (· % 8))) ob) := Lib.hid (by have h := HM.out.seg; rwa [hln] at h)
      have HX := Lib.hid hx
      rw [hx] at HY
      clear hy hx hcell
      have hz9 : w.heap.size ≤ wr.heap.size := HM.out.be.size
      have hb5l : b5 < wr.heap.size := HM.out.r5.lt
      have hgn : g ≠ wr.heap.size := by omega
      have hbn : b5 ≠ wr.heap.size := by omega
      go_upto_region 7 with fail
      refine wp_region_noPanic ?_
      go_region_law (
        refine step_append_seg _ rfl _ _ 22 rfl i0 _ 8 Try.underlying22 hi0 hz0 hz1 hz2 rfl (by decide) rfl (drewS (HS.out.alloc _)) ⟨wr.heap.size, 0, none⟩ 1 1 [.int .i64 y] rfl rfl (news_row (Row.drew (Row.made wr _ _))) (by simp [Value.oneCell']) (by decide) (by unfold maxLen; omega) (by omega) ?_
        intro v2 w5 ob2 hs2 ht2 ho2
        have r5 := (Row.drew (HM.out.r5.alloc _)).turns ht2 (fun e => (HM.out.own _ e).2.2.2 rfl)
        obtain ⟨A2, cap2, rfl, hn5, hm5⟩ := hs2.form
        have f0 := (r5.cell 0).trans rfl
        have f1 := r5.free 0)
      all_goals refine NoPanic.normal ?_
      all_goals
        have HQ := Lib.hid (HM.out.push hb5' (by omega) (by omega) hs2 ht2 ho2 hln HLm.out HX.out HY.out hiz)
        clear hs2 ht2 ho2 r5 f0 f1
        dsimp only [Exit.inBlock, Exit.then]
        go_wp2
        go_roundw
        case rel => exact ⟨i + 1, by omega, by omega, by go_num, Lib.hid ⟨_, _, HQ.out⟩⟩
        case measure => simp [intOf]; omega
    · have he : (if m < 20 then m else 20) = i := by split <;> omega
      have hex : (m : Int) ≤ (i : Int) ∨ (i : Int) < (m : Int) ∧ (20 : Int) ≤ (i : Int) := by omega
      obtain ⟨X, hX⟩ : ∃ X, (zs.take i).map (· % 8) = X := ⟨_, rfl⟩
      rw [hX] at HM hln
      have HX7 : Hid (∀ x ∈ X, 0 ≤ x ∧ x ≤ 7) := Lib.hid (by
        intro x hx
        rw [← hX] at hx
        obtain ⟨y, _, rfl⟩ := List.mem_map.1 hx
        omega)
      clear hX he HL HCL HLm HV
      go_upto_region 5 with fail
      go_cut [30] from 23 to 31 (fun s30 wx => s30 = .bool false ∧ wr = wx)
      case first =>
        rcases hex with h1 | ⟨h1, h2⟩
        · go_wp2
          go_meet
          exact ⟨rfl, rfl⟩
        · have hd : decide ((i : Int) < 20) = false := decide_eq_false (by omega)
          go_wp2
          go_meet
          exact ⟨rfl, rfl⟩
      obtain ⟨rfl, rfl⟩ := hcut
      clear hex hlt
      have HN := Lib.hid hln
      obtain ⟨q, hq⟩ : ∃ q : Nat, (if k < 1 then (1 : Int) else k) = (q : Int) := ⟨(if k < 1 then (1 : Int) else k).toNat, by split <;> omega⟩
      have hq1 : 1 ≤ q ∧ (q : Int) = max k 1 := by
        constructor
        · split at hq <;> omega
        · split at hq <;> omega
      clear hln
      have x3 : wr.cell? ⟨w.heap.size, 0, none⟩ = some (.int .i64 k) := (HM.out.r3.cell 0).trans rfl
      go_upto_region 9 with fail
      obtain ⟨mk, hmk⟩ : ∃ x, max k 1 = x := ⟨_, rfl⟩
      rw [hmk]
      obtain ⟨sz, hsz⟩ : ∃ x, (if 50 < mk then 50 else mk) = x := ⟨_, rfl⟩
      rw [hsz]
      have HSZ : Hid (1 ≤ mk ∧ sz ≤ mk) := Lib.hid (by constructor <;> (try split at hsz) <;> omega)
      have HMK := Lib.hid hmk
      obtain ⟨b7, hb7⟩ : ∃ x, wr.heap.size = x := ⟨_, rfl⟩
      obtain ⟨b8, hb8⟩ : ∃ x, b7 + 1 = x := ⟨_, rfl⟩
      have hbr : Below wr.heap.size wr ((wr.alloc (.cells #[.int .i64 sz] 3)).alloc (.cells #[.int .i64 0] 3)) := ((Below.refl _ wr).alloc (Nat.le_refl _) _).alloc (by simp) _
      have h7 : Row ((wr.alloc (.cells #[.int .i64 sz] 3)).alloc (.cells #[.int .i64 0] 3)) b7 3 #[.int .i64 sz] := by
        rw [← hb7]; exact (Row.made wr _ _).alloc _
      have h8 : Row ((wr.alloc (.cells #[.int .i64 sz] 3)).alloc (.cells #[.int .i64 0] 3)) b8 3 #[.int .i64 0] := by
        rw [← hb8, ← hb7]; have h := Row.made (wr.alloc (.cells #[.int .i64 sz] 3)) 3 #[.int .i64 0]
        rwa [World.size_alloc] at h
      have hs8 : ((wr.alloc (.cells #[.int .i64 sz] 3)).alloc (.cells #[.int .i64 0] 3)).heap.size = b8 + 1 := by simp; omega
      have hb57 : b5 < b7 := by rw [← hb7]; exact HM.out.r5.lt
      have hob7 : Hid (∀ g, ob = some g → g < b7) := Lib.hid (fun g hg => by rw [← hb7]; exact HM.out.seg.lt g hg)
      rw [hb7, hb8]
      generalize ((wr.alloc (.cells #[.int .i64 sz] 3)).alloc (.cells #[.int .i64 0] 3)) = w3 at hbr h7 h8 hs8 ⊢
      have H3 := Lib.hid (HM.out.r3.below hbr HM.out.r3.lt)
      have H4 := Lib.hid (HM.out.r4.below hbr HM.out.r4.lt)
      have H5 := Lib.hid (HM.out.r5.below hbr HM.out.r5.lt)
      have H7 := Lib.hid h7
      have H8 := Lib.hid h8
      have HOW := Lib.hid HM.out.own
      have HS := Lib.hid (HM.out.seg.keep fun g hg => hbr.block g (HM.out.seg.lt g hg))
      have HBW := Lib.hid (HM.out.be.trans (hbr.mono HM.out.be.size))
      have hs8' := hs8
      clear hbr h7 h8 hb7 x3 hsz hmk hq hq1 q HM
      have HXL : Hid (LI w3 w3.heap.size (.slice Av i cv) X) := Lib.hid (LI.of_seg HS.out)
      have HKP : Hid (∀ V : World, Below w3.heap.size w3 V → V.cell? ⟨w.heap.size, 0, none⟩ = some (.int .i64 k) ∧ V.cell? ⟨b5, 0, none⟩ = some (.slice Av i cv)) := Lib.hid (fun V hV => ⟨((H3.out.below hV H3.out.lt).cell 0).trans rfl, ((H5.out.below hV H5.out.lt).cell 0).trans rfl⟩)
      have HB : Hid (Below w3.heap.size w3 w3.drew) := Lib.hid (Below.refl _ w3).drew
      refine wp_region_noPanic ?_
      refine wp_region_held_drew (S := (fun Y => Y.cell? ⟨w.heap.size, 0, none⟩ = some (.int .i64 k) ∧ Y.cell? ⟨b5, 0, none⟩ = some (.slice Av i cv))) (by kernel_rfl) ?_ (fun hHeld => ?_)
      · exact HKP.out _ HB.out
      refine take_at 0 44 _ (v := ?vr1_0) rfl rfl (by kernel_rfl) (by kernel_rfl) (by kernel_rfl) (fun _ _ _ h => h) (Or.inl ⟨by rfl, ?hyr1_0⟩) (by assumption) ?restr1_0
      case hyr1_0 =>
        intro wX hSw
        try dsimp only at hSw
        go_simp
        first
        | done
        | (with_reducible rfl)
      try simp only [Act.put, List.setIfInBounds_toArray, List.set_cons_zero, List.set_cons_succ]
      refine take_at 2 46 _ (v := ?vr1_2) rfl rfl (by kernel_rfl) (by kernel_rfl) (by kernel_rfl) (fun _ _ _ h => h) (Or.inl ⟨by rfl, ?hyr1_2⟩) (by assumption) ?restr1_2
      case hyr1_2 =>
        intro wX hSw
        try dsimp only at hSw
        go_simp
        first
        | done
        | (with_reducible rfl)
      try simp only [Act.put, List.setIfInBounds_toArray, List.set_cons_zero, List.set_cons_succ]
      refine wpAnyH_ready (rs := [1]) (by kernel_rfl) (by simp) ?_
      refine AllReadyH.cons rfl (fun K hK => ?_) AllReadyH.nil
      go_simp
      go_at_call 11
      refine (of_b X _ _ (HXL.out.below HB.out HB.out.size) (by have := HN.out; omega)).mono ?_
      rintro e w4 ⟨f4, rfl, hit, hb⟩
      have HF4 := Lib.hid hit
      have HBn := Lib.hid (HB.out.trans (hb.mono HB.out.size))
      clear HB
      have HB := HBn
      clear HBn
      clear hb hit
      try go_wp2_with fail
      refine hK.out _ _ ?_ (fun hHeld2 => ?_)
      · exact HKP.out _ HB.out
      clear hK K hHeld
      have hHeld := hHeld2
      clear hHeld2
      try simp only [Act.put, List.setIfInBounds_toArray, List.set_cons_zero, List.set_cons_succ]
      refine wpAnyH_ready (rs := [3]) (by kernel_rfl) (by simp) ?_
      refine AllReadyH.cons rfl (fun K hK => ?_) AllReadyH.nil
      go_simp
      go_at_call 17
      refine (chunk_v f4 X 1 w3.heap.size k _ (by have := HN.out; omega) HB.out.size HF4.out).mono ?_
      rintro e w5 ⟨f5, rfl, hit, hb⟩
      have HF5 := Lib.hid hit
      have HBn := Lib.hid (HB.out.trans (hb.mono HB.out.size))
      clear HB
      have HB := HBn
      clear HBn
      clear hb hit HF4
      try go_wp2_with fail
      refine hK.out _ _ ?_ (fun hHeld2 => ?_)
      · exact HKP.out _ HB.out
      clear hK K hHeld
      have hHeld := hHeld2
      clear hHeld2
      try simp only [Act.put, List.setIfInBounds_toArray, List.set_cons_zero, List.set_cons_succ]
      refine wpAnyH_done (by kernel_rfl) ?_ _
      refine NoPanic.normal ?_

      obtain ⟨gs1, lb1, P1, rfl, hPc1, hPl1, eg1, hT1⟩ := HF5.out
      have HT1 := Lib.hid (hT1 59 (by omega))
      have HPc := Lib.hid hPc1
      have HPl : Hid (∀ j, P1 j → b8 < j) := Lib.hid (fun j hj => by have := hPl1 j hj; omega)
      have h53 : w3.heap.size ≤ w5.heap.size := HB.out.size
      have H3s := H3
      clear H3
      have H3 := Lib.hid (H3s.out.below HB.out H3s.out.lt)
      have H4s := H4
      clear H4
      have H4 := Lib.hid (H4s.out.below HB.out H4s.out.lt)
      have H5s := H5
      clear H5
      have H5 := Lib.hid (H5s.out.below HB.out H5s.out.lt)
      have H7s := H7
      clear H7
      have H7 := Lib.hid (H7s.out.below HB.out H7s.out.lt)
      have H8s := H8
      clear H8
      have H8 := Lib.hid (H8s.out.below HB.out H8s.out.lt)
      have HSs := HS
      clear HS
      have HS := Lib.hid (HSs.out.keep fun g hg => HB.out.block g (HSs.out.lt g hg))
      have HB5 := Lib.hid (HBW.out.trans (HB.out.mono HBW.out.size))
      clear HB HKP HXL hPc1 hPl1 hT1 HF5 hHeld H3s H4s H5s H7s H8s HSs
      obtain ⟨PP, hPP⟩ : ∃ PP : Own, PP = fun j => ((j = w.heap.size ∨ j = w.heap.size + 1) ∨ (j = b5 ∨ j = b7)) ∨ ob = some j := ⟨_, rfl⟩
      have HPP := Lib.hid (fun j => show PP j ↔ (((j = w.heap.size ∨ j = w.heap.size + 1) ∨ (j = b5 ∨ j = b7)) ∨ ob = some j) by rw [hPP])
      clear hPP
      have HCP : Hid (Cells PP w5) := Lib.hid (fun j hj => by
        rcases (HPP.out j).1 hj with ((e | e) | (e | e)) | e
        · subst e; exact ⟨_, _, H3.out⟩
        · subst e; exact ⟨_, _, H4.out⟩
        · subst e; exact ⟨_, _, H5.out⟩
        · subst e; exact ⟨_, _, H7.out⟩
        · have h := HS.out
          rw [e] at h
          obtain ⟨c, hr⟩ := seg_row h
          exact ⟨_, _, hr⟩)
      have HP8 : Hid (¬ PP b8) := Lib.hid (fun h => by
        rcases (HPP.out b8).1 h with ((e | e) | (e | e)) | e
        · omega
        · omega
        · omega
        · omega
        · have := hob7.out _ e; omega)
      have HI0 : Hid (Inv w w5 b8 PP [] (fun _ => False) #[.int .i64 0] w5) := Lib.hid ⟨H8.out, id, ⟨Hold.refl _ _, fun _ _ e => e⟩, HB5.out, fun _ e => e.elim, fun D h => by cases h⟩
      have hlen3 : w.heap.size ≤ w5.heap.size := HB5.out.size
      obtain ⟨I, hI⟩ : ∃ I : Own → List Ck → World → Prop, I = fun O pre Y => flat pre <+: X ∧ Inv w w5 b8 PP [] O #[.int .i64 (flat pre).length] Y := ⟨_, rfl⟩
      have HIE := Lib.hid (fun O pre Y => show I O pre Y ↔ (flat pre <+: X ∧ Inv w w5 b8 PP [] O #[.int .i64 (flat pre).length] Y) by rw [hI])
      have HSI : Hid (Stb w5.heap.size I) := Lib.hid (by
        rw [hI]; exact inv_pure b8 (fun pre : List Ck => #[.int .i64 (flat pre).length]) HCP.out (fun D h => by cases h) hlen3 (fun pre => flat pre <+: X))
      have HI1 : Hid (I (fun _ => False) [] w5) := Lib.hid (by rw [hI]; exact ⟨List.nil_prefix, HI0.out⟩)
      clear hI HI0
      go_wp2_with fail
      refine (wpIn_wide (n := 60)).1 ?_
      refine rangeTelW_all (n := 60) (d := 1 + 4) hro (by omega) (gf := gs1) (lb := lb1) rfl trivial eg1 HT1.out (fun _ => rfl) I HSI.out HI1.out ?round1 ?done1
      case round1 =>
        intro l O pre x X0 hl hI hG hsz
        rw [putC]
        simp only [List.setIfInBounds_toArray, List.set_cons_succ, List.set_cons_zero]
        gi_wp2
        refine ⟨(KeepsOthers.refl _).from _, Kq.refl _ _ _ _, fun o o' ho hlo => ?_⟩
        obtain ⟨⟨hn1, hn2, hn3, hn4⟩, obx, hsx⟩ := hG
        have HIZ := Lib.hid ((HIE.out _ _ _).1 (HSI.out.put o' hI hl hlo ho))
        have HSX := Lib.hid (seg_putObj o' hsx hlo ho)
        have hs1 : w5.heap.size + 2 ≤ (X0.putObj l o').heap.size := by simpa using hsz
        clear hI hlo hsz hsx
        generalize X0.putObj l o' = Z at HIZ hs1 HSX ⊢
        obtain ⟨cv1, c1⟩ := x
        have HSX : Hid (Seg Z 3 1 cv1 c1.length (ints c1) obx) := HSX
        obtain ⟨na, hna⟩ : ∃ na, (flat pre).length = na := ⟨_, rfl⟩
        obtain ⟨mc, hmc⟩ : ∃ mc, c1.length = mc := ⟨_, rfl⟩
        have hz1 : 1 ≤ mc := by rw [← hmc]; exact hn2
        have hz2 : (mc : Int) ≤ mk := by rw [← hmc, ← HMK.out]; exact hn3
        have hz3 : na + mc ≤ i := by
          have h := hn1.length_le
          rw [List.length_append, hna, HN.out] at h
          have e : (cv1, c1).2.length = mc := hmc
          omega
        have hz4 : (mc : Int) < sz → na + mc = i := fun h => by
          have h2 := HSZ.out
          have h9 : ((cv1, c1).2.length : Int) = mc := by rw [← hmc]
          have e := hn4 (by rw [h9, HMK.out]; omega)
          have e2 := congrArg List.length e
          rw [List.length_append, hna, HN.out] at e2
          have : (cv1, c1).2.length = mc := hmc
          omega
        have HPE : Hid ((X.drop na).take mc = c1) := Lib.hid (by rw [← hna, ← hmc]; exact part_eq hn1)
        have HPX : Hid (flat pre ++ c1 <+: X) := Lib.hid hn1
        have HC1 : Hid (LI Z Z.heap.size cv1 c1) := Lib.hid (LI.of_seg HSX.out)
        have hki := HIZ.out.2.keep
        have z3 : Z.cell? ⟨w.heap.size, 0, none⟩ = some (.int .i64 k) := ((hki.1.row ((HPP.out _).2 (.inl (.inl (.inl rfl)))) H3.out).cell 0).trans rfl
        have z5 : Z.cell? ⟨b5, 0, none⟩ = some (.slice Av i cv) := ((hki.1.row ((HPP.out _).2 (.inl (.inr (.inl rfl)))) H5.out).cell 0).trans rfl
        have z7 : Z.cell? ⟨b7, 0, none⟩ = some (.int .i64 sz) := ((hki.1.row ((HPP.out _).2 (.inl (.inr (.inr rfl)))) H7.out).cell 0).trans rfl
        have z8 : Z.cell? ⟨b8, 0, none⟩ = some (.int .i64 na) := by rw [← hna]; exact (HIZ.out.2.row.cell 0).trans rfl
        have HXZ : Hid (LI Z Z.heap.size (.slice Av i cv) X) := Lib.hid (LI.of_seg (hki.1.seg (fun g e => (HPP.out _).2 (.inr e)) HS.out))
        have HNA := Lib.hid hna
        have HMC := Lib.hid hmc
        obtain ⟨A9, hA9⟩ : ∃ A9, (if cv = na then Av else Option.map (fun x => x.add na) Av) = A9 := ⟨_, rfl⟩
        have HLD : Hid (LI Z Z.heap.size (.slice A9 mc (cv - na)) c1) := Lib.hid (by
          have h := (HXZ.out.dropi na (by have := HN.out; omega)).take mc (by rw [List.length_drop]; have := HN.out; omega)
          rwa [hA9, HPE.out] at h)
        have hcf := HC1.out
        obtain ⟨Ac, cc, rfl, hc1, hc2, _⟩ := hcf
        rw [hmc] at hc1
        clear hn1 hn2 hn3 hn4 hki hna
        have hw1 : IntKind.i64.wrap ((na : Int) + (mc : Int)) = (na : Int) + (mc : Int) := by rw [IntKind.wrap_i64]; omega
        have hmx : max k 1 = mk := HMK.out
        rw [hmc] at HC1 ⊢
        clear hmc
        dsimp only
        have g1 : ¬ mk < (mc : Int) := by omega
        have g2 : ¬ (mc : Int) < 1 := by omega
        have g3 : ¬ (i : Int) < (na : Int) + (mc : Int) := by omega
        have g4 : na ≤ i := by omega
        have g5 : (na : Int) ≤ (na : Int) + (mc : Int) := by omega
        have g6 : (na : Int) + (mc : Int) ≤ (i : Int) := by omega
        have HL1 : Hid (c1.length ≤ 1000000) := Lib.hid (by have := HMC.out; omega)
        by_cases hms : (mc : Int) < sz
        · have hz5 : na + mc = i := hz4 hms
          have hz6 : (na : Int) + (mc : Int) = (i : Int) := by omega
          have HZ4 := Lib.hid hz4
          have HZ5 := Lib.hid hz5
          clear hz4 hz5 hz6
          have HSM : Hid (CallsIn (Fence.wide.inRound l) 53 Try.prog 14 #[.slice Ac mc cc, .slice A9 mc (cv - na)] Z fun e w' => e = .returned (.bool true) ∧ ∃ mq, w' = Z.drewN mq) := Lib.hid ((callsIn_wide.2 (same_l c1 _ _ _ HC1.out HLD.out HL1.out)).inRound l)
          gi_wp2_with fail
          all_goals
            refine HSM.out.mono ?_
            rintro e Z2 ⟨rfl, mq, hZ2⟩
            have hbz : Below Z.heap.size Z Z2 := by rw [hZ2]; exact below_drewN rfl
            have y3 : Z2.cell? ⟨w.heap.size, 0, none⟩ = some (.int .i64 k) := by rw [hZ2]; exact z3
            have y5 : Z2.cell? ⟨b5, 0, none⟩ = some (.slice Av i cv) := by rw [hZ2]; exact z5
            have y7 : Z2.cell? ⟨b7, 0, none⟩ = some (.int .i64 sz) := by rw [hZ2]; exact z7
            have y8 : Z2.cell? ⟨b8, 0, none⟩ = some (.int .i64 na) := by rw [hZ2]; exact z8
            have HBZ := Lib.hid hbz
            have hz6 : ((na : Int) + (mc : Int) = (i : Int)) := by have := HZ5.out; omega
            have HI2 := Lib.hid (HSI.out.grow ((HIE.out _ _ _).2 HIZ.out) hbz)
            have y8f : Z2.frozen? ⟨b8, 0, none⟩ = false := ((HIE.out _ _ _).1 HI2.out).2.row.free 0
            clear hbz hZ2 z3 z5 z7 z8 HSM HLD HXZ HC1 HSX HIZ
            gi_wp2
            have HPP8 := HP8
            have hinv := ((HIE.out _ _ _).1 HI2.out).2
            have hk1 : Kq P1 O (w5.heap.size + 2) Z Z2 := kq_below HBZ.out
            have hk2 := hk1.trans (kq_set (P := P1) (O := O) (B := w5.heap.size + 2) Z2 (b := b8) (fun e => e.elim hinv.nb (fun e => by have := HPl.out b8 e; omega)) 0 (.int .i64 (i : Int)))
            refine ⟨⟨hk2.1.size, fun k' o1 hk3 ho1 => ((keeps_below (B := w5.heap.size) HBZ.out).trans ((KeepsOthers.setCell _ _ _).from _)).same k' o1 hk3 ho1⟩, hk2, (HIE.out _ _ _).2 ⟨by rw [flat_snoc]; exact HPX.out, ?_⟩⟩
            have hst := hinv.store (.int .i64 (i : Int)) (by omega) HP8.out
            have e : ((flat (pre ++ [(Value.slice Ac mc cc, c1)])).length : Int) = (i : Int) := by
              rw [flat_snoc, List.length_append, HNA.out]
              show ((na + c1.length : Nat) : Int) = _
              rw [HMC.out]; omega
            rw [e]
            exact hst
        · have HZ4 := Lib.hid hz4
          clear hz4
          have HSM : Hid (CallsIn (Fence.wide.inRound l) 53 Try.prog 14 #[.slice Ac mc cc, .slice A9 mc (cv - na)] Z fun e w' => e = .returned (.bool true) ∧ ∃ mq, w' = Z.drewN mq) := Lib.hid ((callsIn_wide.2 (same_l c1 _ _ _ HC1.out HLD.out HL1.out)).inRound l)
          gi_wp2_with fail
          all_goals
            refine HSM.out.mono ?_
            rintro e Z2 ⟨rfl, mq, hZ2⟩
            have hbz : Below Z.heap.size Z Z2 := by rw [hZ2]; exact below_drewN rfl
            have y3 : Z2.cell? ⟨w.heap.size, 0, none⟩ = some (.int .i64 k) := by rw [hZ2]; exact z3
            have y5 : Z2.cell? ⟨b5, 0, none⟩ = some (.slice Av i cv) := by rw [hZ2]; exact z5
            have y7 : Z2.cell? ⟨b7, 0, none⟩ = some (.int .i64 sz) := by rw [hZ2]; exact z7
            have y8 : Z2.cell? ⟨b8, 0, none⟩ = some (.int .i64 na) := by rw [hZ2]; exact z8
            have HBZ := Lib.hid hbz
            have HI2 := Lib.hid (HSI.out.grow ((HIE.out _ _ _).2 HIZ.out) hbz)
            have y8f : Z2.frozen? ⟨b8, 0, none⟩ = false := ((HIE.out _ _ _).1 HI2.out).2.row.free 0
            clear hbz hZ2 z3 z5 z7 z8 HSM HLD HXZ HC1 HSX HIZ
            gi_wp2
            have HPP8 := HP8
            have hinv := ((HIE.out _ _ _).1 HI2.out).2
            have hk1 : Kq P1 O (w5.heap.size + 2) Z Z2 := kq_below HBZ.out
            have hk2 := hk1.trans (kq_set (P := P1) (O := O) (B := w5.heap.size + 2) Z2 (b := b8) (fun e => e.elim hinv.nb (fun e => by have := HPl.out b8 e; omega)) 0 (.int .i64 ((na : Int) + (mc : Int))))
            refine ⟨⟨hk2.1.size, fun k' o1 hk3 ho1 => ((keeps_below (B := w5.heap.size) HBZ.out).trans ((KeepsOthers.setCell _ _ _).from _)).same k' o1 hk3 ho1⟩, hk2, (HIE.out _ _ _).2 ⟨by rw [flat_snoc]; exact HPX.out, ?_⟩⟩
            have hst := hinv.store (.int .i64 ((na : Int) + (mc : Int))) (by omega) HP8.out
            have e : ((flat (pre ++ [(Value.slice Ac mc cc, c1)])).length : Int) = ((na : Int) + (mc : Int)) := by
              rw [flat_snoc, List.length_append, HNA.out]
              show ((na + c1.length : Nat) : Int) = _
              rw [HMC.out]; omega
            rw [e]
            exact hst
      case done1 =>
        intro D1 O1 xs w6 hD hO hS hI hK
        have hfl : flat xs = X := hS rfl
        have hinv := ((HIE.out _ _ _).1 hI).2
        rw [hfl, HN.out] at hinv
        have HK1 := Lib.hid hK
        have HD1 : Hid (w5.heap.size ≤ D1) := Lib.hid hD
        have H8s := H8
        have H3s := H3
        have H4s := H4
        have H5s := H5
        have H7s := H7
        have HSs := HS
        clear H3 H4 H5 H7 H8 HS
        have H3 := Lib.hid (hinv.keep.1.row ((HPP.out _).2 (.inl (.inl (.inl rfl)))) H3s.out)
        have H4 := Lib.hid (hinv.keep.1.row ((HPP.out _).2 (.inl (.inl (.inr rfl)))) H4s.out)
        have H5 := Lib.hid (hinv.keep.1.row ((HPP.out _).2 (.inl (.inr (.inl rfl)))) H5s.out)
        have H7 := Lib.hid (hinv.keep.1.row ((HPP.out _).2 (.inl (.inr (.inr rfl)))) H7s.out)
        have HS := Lib.hid (hinv.keep.1.seg (fun g e => (HPP.out _).2 (.inr e)) HSs.out)
        have H8 := Lib.hid hinv.row
        have HB6 := Lib.hid hinv.be
        have h56 : w5.heap.size ≤ w6.heap.size := hinv.keep.1.1
        have hb8w : b8 < w5.heap.size := H8s.out.lt
        clear H3s H4s H5s H7s H8s HSs hinv hI hfl hS hK hO hD HIE HSI HI1 HCP HP8 HPP HPc HPl HT1 HB5 HBW O1 HMK HSZ
        clear I PP P1 eg1
        dsimp only [Exit.inBlock, Exit.then]
        go_upto_region 15 with fail
        obtain ⟨b10, hb10⟩ : ∃ x, w6.heap.size = x := ⟨_, rfl⟩
        have hbr : Below w6.heap.size w6 (w6.alloc (.cells #[.int .i64 0] 3)) := (Below.refl _ w6).alloc (Nat.le_refl _) _
        have h10 : Row (w6.alloc (.cells #[.int .i64 0] 3)) b10 3 #[.int .i64 0] := by rw [← hb10]; exact Row.made w6 _ _
        have hs10 : (w6.alloc (.cells #[.int .i64 0] 3)).heap.size = b10 + 1 := by simp; omega
        rw [hb10]
        generalize (w6.alloc (.cells #[.int .i64 0] 3)) = w7 at hbr h10 hs10 ⊢
        have hD16 : D1 < w6.heap.size := (Array.getElem?_eq_some_iff.1 HK1.out).1
        have T3 := Lib.hid (H3.out.below hbr H3.out.lt)
        have T4 := Lib.hid (H4.out.below hbr H4.out.lt)
        have T5 := Lib.hid (H5.out.below hbr H5.out.lt)
        have T8 := Lib.hid (H8.out.below hbr H8.out.lt)
        have T10 := Lib.hid h10
        have TK1 : Hid (w7.heap[D1]? = some (.deferred (some []))) := Lib.hid ((hbr.block D1 hD16).trans HK1.out)
        have TS := Lib.hid (HS.out.keep fun g hg => hbr.block g (HS.out.lt g hg))
        have TBW := Lib.hid (HB6.out.trans (hbr.mono HB6.out.size))
        have x5 : w7.cell? ⟨b5, 0, none⟩ = some (.slice Av i cv) := (T5.out.cell 0).trans rfl
        clear hbr h10 H3 H4 H5 H7 H8 HS HB6 HK1
        have HXL : Hid (LI w7 w7.heap.size (.slice Av i cv) X) := Lib.hid (LI.of_seg TS.out)
        have HB : Hid (Below w7.heap.size w7 w7) := Lib.hid (Below.refl _ w7)
        go_wp2_with (first
          | (go_at_call 11; refine (of_b X _ _ HXL.out (by have := HN.out; omega)).mono ?_; rintro e w8 ⟨f8, rfl, hit, hb⟩; have HF8 := Lib.hid hit; have HBn := Lib.hid (HB.out.trans hb); clear hb hit HB; have HB := HBn; clear HBn)
          | (go_at_call 18; refine (step_v f8 X 1 w7.heap.size _ (by have := HN.out; omega) HB.out.size HF8.out).mono ?_; rintro e w9 ⟨f9, rfl, hit, hb⟩; have HF9 := Lib.hid hit; have HBn := Lib.hid (HB.out.trans (hb.mono HB.out.size)); clear hb hit HF8 HB; have HB := HBn; clear HBn)
          | fail)
        obtain ⟨gs2, lb2, P2, rfl, hPc2, hPl2, eg2, hT2⟩ := HF9.out
        have HT2 := Lib.hid (hT2 59 (by omega))
        have HPl2 : Hid (∀ j, P2 j → b10 < j) := Lib.hid (fun j hj => by have := hPl2 j hj; omega)
        have hVW : w7.heap.size ≤ w9.heap.size := HB.out.size
        have U3 := Lib.hid (T3.out.below HB.out T3.out.lt)
        have U4 := Lib.hid (T4.out.below HB.out T4.out.lt)
        have U5 := Lib.hid (T5.out.below HB.out T5.out.lt)
        have U8 := Lib.hid (T8.out.below HB.out T8.out.lt)
        have U10 := Lib.hid (T10.out.below HB.out T10.out.lt)
        have UK1 : Hid (w9.heap[D1]? = some (.deferred (some []))) := Lib.hid ((HB.out.block D1 (Array.getElem?_eq_some_iff.1 TK1.out).1).trans TK1.out)
        have US := Lib.hid (TS.out.keep fun g hg => HB.out.block g (TS.out.lt g hg))
        have UBW := Lib.hid (TBW.out.trans (HB.out.mono TBW.out.size))
        clear HB HXL hPc2 hPl2 hT2 HF9 T3 T4 T5 T8 T10 TK1 TS TBW
        obtain ⟨PP, hPP⟩ : ∃ PP : Own, PP = fun j => (j = w.heap.size ∨ j = w.heap.size + 1 ∨ j = b5 ∨ j = b8) ∨ ob = some j := ⟨_, rfl⟩
        have HPP := Lib.hid (fun j => show PP j ↔ ((j = w.heap.size ∨ j = w.heap.size + 1 ∨ j = b5 ∨ j = b8) ∨ ob = some j) by rw [hPP])
        clear hPP
        have HCP : Hid (Cells PP w9) := Lib.hid (fun j hj => by
          rcases (HPP.out j).1 hj with (e | e | e | e) | e
          · subst e; exact ⟨_, _, U3.out⟩
          · subst e; exact ⟨_, _, U4.out⟩
          · subst e; exact ⟨_, _, U5.out⟩
          · subst e; exact ⟨_, _, U8.out⟩
          · have h := US.out
            rw [e] at h
            obtain ⟨c, hr⟩ := seg_row h
            exact ⟨_, _, hr⟩)
        have HPB : Hid (¬ PP b10) := Lib.hid (fun h => by
          rcases (HPP.out b10).1 h with (e | e | e | e) | e
          · omega
          · omega
          · omega
          · omega
          · have := hob7.out _ e; omega)
        have hlenV : w.heap.size ≤ w9.heap.size := UBW.out.size
        have HDl : Hid (∀ D ∈ [D1], D < w9.heap.size) := Lib.hid (fun D h => by
          simp at h
          rcases h with h
          · subst h; exact (Array.getElem?_eq_some_iff.1 UK1.out).1)
        have HI0 : Hid (Inv w w9 b10 PP [D1] (fun _ => False) #[.int .i64 0] w9) := Lib.hid ⟨U10.out, id, ⟨Hold.refl _ _, fun _ _ e => e⟩, UBW.out, fun _ e => e.elim, fun D h => by
          simp at h
          rcases h with h
          · subst h; exact ⟨UK1.out, id⟩⟩
        obtain ⟨I, hI⟩ : ∃ I : Own → List (Int × Int) → World → Prop, I = fun O pre Y => Inv w w9 b10 PP [D1] O #[.int .i64 pre.length] Y := ⟨_, rfl⟩
        have HIE := Lib.hid (fun O pre Y => show I O pre Y ↔ Inv w w9 b10 PP [D1] O #[.int .i64 pre.length] Y by rw [hI])
        have HSI : Hid (Stb w9.heap.size I) := Lib.hid (by
          rw [hI]; exact inv_stb b10 (fun pre : List (Int × Int) => #[.int .i64 pre.length]) HCP.out HDl.out hlenV)
        have HI1 : Hid (I (fun _ => False) [] w9) := Lib.hid (by rw [hI]; exact HI0.out)
        clear hI HI0
        go_wp2_with fail
        refine (wpIn_wide (n := 60)).1 ?_
        refine rangeTel_all (n := 60) (d := 1 + 6) hro (by omega) (gf := gs2) (lb := lb2) rfl trivial eg2 HT2.out (fun _ => rfl) I HSI.out HI1.out ?round2 ?done2
        case round2 =>
          intro l O pre x X0 hl hI hnx hsz
          rw [put2]
          simp only [List.setIfInBounds_toArray, List.set_cons_succ, List.set_cons_zero]
          gi_wp2
          refine ⟨(KeepsOthers.refl _).from _, Kq.refl _ _ _ _, fun o o' ho hlo => ?_⟩
          have HIZ := Lib.hid ((HIE.out _ _ _).1 (HSI.out.put o' hI hl hlo ho))
          have hs1 : w9.heap.size + 2 ≤ (X0.putObj l o').heap.size := by simpa using hsz
          clear hI hlo hsz ho
          generalize X0.putObj l o' = Z at HIZ hs1 ⊢
          clear o o'
          obtain ⟨x1, x2⟩ := x
          obtain ⟨hlt, e1, e2⟩ := next3_at hnx
          clear hnx
          obtain ⟨np, hnp⟩ : ∃ np, pre.length = np := ⟨_, rfl⟩
          simp only [hnp] at hlt e1 e2
          have hki := HIZ.out.keep
          have z5 : Z.cell? ⟨b5, 0, none⟩ = some (.slice Av i cv) := ((hki.1.row ((HPP.out _).2 (.inl (.inr (.inr (.inl rfl))))) U5.out).cell 0).trans rfl
          have zc : Z.cell? ⟨b10, 0, none⟩ = some (.int .i64 np) := by rw [← hnp]; exact (HIZ.out.row.cell 0).trans rfl
          have zf : Z.frozen? ⟨b10, 0, none⟩ = false := HIZ.out.row.free 0
          have hxz : LI Z Z.heap.size (.slice Av i cv) X := LI.of_seg (hki.1.seg (fun g e => (HPP.out _).2 (.inr e)) US.out)
          obtain ⟨g, o, rfl, kc1, kc2⟩ := li_cells2 hxz np (np + 1) (by omega) hlt
          generalize hy1 : X[np] = y1 at kc1 e1
          generalize hy2 : X[np + 1] = y2 at kc2 e2
          have HNP := Lib.hid hnp
          have hw1 : IntKind.i64.wrap ((np : Int) + 1) = (np : Int) + 1 := by rw [IntKind.wrap_i64]; have := HN.out; omega
          have hni : np + 1 < i := by have := HN.out; omega
          have hni2 : ¬ (i : Int) ≤ (np : Int) + 1 := by omega
          clear hki hxz hnp hlt hy1 hy2
          obtain rfl : x1 = y1 := e1
          obtain rfl : x2 = y2 := e2
          gi_wp2
          have hinv := HIZ.out
          have hk2 : Kq P2 O (w9.heap.size + 2) Z (Z.setCell ⟨b10, 0, none⟩ (.int .i64 ((np : Int) + 1))) := kq_set Z (b := b10) (fun e => e.elim hinv.nb (fun e => by have := HPl2.out b10 e; omega)) 0 _
          refine ⟨(KeepsOthers.setCell _ _ _).from _, hk2, (HIE.out _ _ _).2 ?_⟩
          have hst := hinv.store (.int .i64 ((np : Int) + 1)) (by omega) HPB.out
          have e : ((pre ++ [(x1, x2)]).length : Int) = (np : Int) + 1 := by
            rw [List.length_append, HNP.out]; rfl
          rw [e]
          exact hst
        case done2 =>
          intro D2 O2 xs2 w10 hD hO hS hI hK
          have hxs : xs2 = stp X := by obtain ⟨l, h1, h2⟩ := hS; rw [h1]; exact congrArg stp h2
          have hinv := (HIE.out _ _ _).1 hI
          have hpn : ((xs2.length : Nat) : Int) = ((i - 1 : Nat) : Int) := by rw [hxs, stp_len, HN.out]
          rw [hpn] at hinv
          obtain ⟨np, hnp⟩ : ∃ np, i - 1 = np := ⟨_, rfl⟩
          rw [hnp] at hinv
          have HNP := Lib.hid hnp
          have HK2 := Lib.hid hK
          have HD2 : Hid (w9.heap.size ≤ D2) := Lib.hid hD
          have H3 := Lib.hid (hinv.keep.1.row ((HPP.out _).2 (.inl (.inl rfl))) U3.out)
          have H4 := Lib.hid (hinv.keep.1.row ((HPP.out _).2 (.inl (.inr (.inl rfl)))) U4.out)
          have H5 := Lib.hid (hinv.keep.1.row ((HPP.out _).2 (.inl (.inr (.inr (.inl rfl))))) U5.out)
          have H8 := Lib.hid (hinv.keep.1.row ((HPP.out _).2 (.inl (.inr (.inr (.inr rfl))))) U8.out)
          have HS := Lib.hid (hinv.keep.1.seg (fun g e => (HPP.out _).2 (.inr e)) US.out)
          have H10 := Lib.hid hinv.row
          have HK1 := Lib.hid (hinv.dfs D1 (by simp)).1
          have HB10 := Lib.hid hinv.be
          have h910 : w9.heap.size ≤ w10.heap.size := hinv.keep.1.1
          have hD1w : D1 < w9.heap.size := (Array.getElem?_eq_some_iff.1 UK1.out).1
          have hb10w : b10 < w9.heap.size := U10.out.lt
          clear hinv hI hxs hpn hS hK hO hD HIE HSI HI1 HCP HPB HPP HPl2 HT2 HDl O2 U3 U4 U5 U8 U10 UK1 US UBW hnp hlenV
          clear xs2 I PP P2
          dsimp only [Exit.inBlock, Exit.then]
          go_upto_region 22 with fail
          obtain ⟨w11, hw11⟩ : ∃ x, w10.alloc (.cells #[] 3) = x := ⟨_, rfl⟩
          have hbr : Below w10.heap.size w10 w11 := by rw [← hw11]; exact (Below.refl _ w10).alloc (Nat.le_refl _) _
          have T3 := Lib.hid (H3.out.below hbr H3.out.lt)
          have T4 := Lib.hid (H4.out.below hbr H4.out.lt)
          have T5 := Lib.hid (H5.out.below hbr H5.out.lt)
          have T8 := Lib.hid (H8.out.below hbr H8.out.lt)
          have T10 := Lib.hid (H10.out.below hbr H10.out.lt)
          have TK1 : Hid (w11.heap[D1]? = some (.deferred (some []))) := Lib.hid ((hbr.block D1 (by omega)).trans HK1.out)
          have TK2 : Hid (w11.heap[D2]? = some (.deferred (some []))) := Lib.hid ((hbr.block D2 (Array.getElem?_eq_some_iff.1 HK2.out).1).trans HK2.out)
          have TS := Lib.hid (HS.out.keep fun g hg => hbr.block g (HS.out.lt g hg))
          have TBW := Lib.hid (HB10.out.trans (hbr.mono HB10.out.size))
          have h1110 : w10.heap.size ≤ w11.heap.size := hbr.size
          rw [hw11]
          clear hbr hw11 H3 H4 H5 H8 H10 HS HB10 HK1 HK2
          generalize (some ⟨w10.heap.size, 0, none⟩ : Option Addr) = A13
          have HV0 : Hid (∃ ob2, Seg w11 3 1 (.slice A13 0 0) (onc (X.take 0)).length (ints (onc (X.take 0))) ob2 ∧ (∀ g, ob2 = some g → w11.heap.size ≤ g) ∧ Below w11.heap.size w11 w11) := Lib.hid ⟨none, Sq.seg_zero _ _, (fun g e => by cases e), Below.refl _ _⟩
          go_wp2_with fail
          go_loopw [13, 14, 15, 16] (fun s13 s14 s15 s16 wr => ∃ j : Nat, j ≤ i ∧ s14 = .int .i64 j ∧ Hid (∃ ob2, Seg wr 3 1 s13 (onc (X.take j)).length (ints (onc (X.take j))) ob2 ∧ (∀ g, ob2 = some g → w11.heap.size ≤ g) ∧ Below w11.heap.size w11 wr)) (fun _ s14 _ _ _ => i - (intOf s14).toNat)
          case atStart => exact ⟨0, Nat.zero_le _, rfl, HV0⟩
          case round =>
            obtain ⟨j, hji, rfl, hrel⟩ := hrel
            obtain ⟨wr0, rfl⟩ : ∃ x, x = wr := ⟨_, rfl⟩
            obtain ⟨ob2, hs2, hown2, hbe2⟩ := hrel.out
            have HS2 := Lib.hid hs2
            have HOW2 := Lib.hid hown2
            have HBE2 := Lib.hid hbe2
            have x5 : wr0.cell? ⟨b5, 0, none⟩ = some (.slice Av i cv) := ((T5.out.below hbe2 T5.out.lt).cell 0).trans rfl
            have HXW : Hid (LI wr0 wr0.heap.size (.slice Av i cv) X) := Lib.hid (LI.of_seg (TS.out.keep fun g hg => hbe2.block g (TS.out.lt g hg)))
            have hlo : (onc (X.take j)).length ≤ 20 := by
              have h1 := onc_le (X.take j) _ rfl
              rw [List.length_take] at h1
              omega
            obtain ⟨no, hno⟩ : ∃ no, (onc (X.take j)).length = no := ⟨_, rfl⟩
            rw [hno] at hlo HS2
            obtain ⟨A7, c7, rfl, hn7, hm7⟩ := HS2.out.form
            have HNO := Lib.hid hno
            clear hs2 hown2 hbe2 hrel hno
            by_cases hlt : j < i
            · have hltz : (j : Int) < (i : Int) := by omega
              have hjx : j < X.length := by have := HN.out; omega
              obtain ⟨y, hy⟩ : ∃ y, X[j] = y := ⟨_, rfl⟩
              have HY := Lib.hid hy
              have hjw : IntKind.i64.wrap ((j : Int) + 1) = (j : Int) + 1 := by rw [IntKind.wrap_i64]; omega
              clear hy
              go_wp2_with fail
              go_loopw [15, 16] (fun s15 s16 wx => ∃ q : Nat, q ≤ j ∧ s16 = .int .i64 q ∧ s15 = .bool (decide (y ∈ X.take q)) ∧ Hid (∃ n, wx = wr0.drewN n)) (fun _ s16 _ => j - (intOf s16).toNat)
              case atStart => exact ⟨0, Nat.zero_le _, rfl, by simp, Lib.hid ⟨0, rfl⟩⟩
              case round =>
                obtain ⟨q, hqj, rfl, rfl, hwx⟩ := hrel
                have hcells : ∀ a, wr.cell? a = wr0.cell? a := by
                  obtain ⟨m, rfl⟩ := hwx.out
                  exact fun _ => rfl
                by_cases hq : q < j
                · have hqz : (q : Int) < (j : Int) := by omega
                  have hqw : IntKind.i64.wrap ((q : Int) + 1) = (q : Int) + 1 := by rw [IntKind.wrap_i64]; omega
                  have hqx : q < X.length := by have := HN.out; omega
                  obtain ⟨g, o, e, kc1, kc2⟩ := li_cells2 HXW.out q j hqx hjx
                  rw [HY.out] at kc2
                  obtain ⟨u, hu⟩ : ∃ u, X[q] = u := ⟨_, rfl⟩
                  rw [hu] at kc1
                  have k5 := (hcells _).trans x5
                  have k1 := (hcells _).trans kc1
                  have k2 := (hcells _).trans kc2
                  subst e
                  have HSN : Hid (decide (y ∈ X.take (q + 1)) = (decide (y ∈ X.take q) || decide (u = y))) := Lib.hid (by
                    rw [List.take_succ_eq_append_getElem hqx, hu]
                    by_cases h1 : y ∈ X.take q
                    · simp [h1]
                    · by_cases h2 : u = y
                      · simp [h1, h2]
                      · simp [h1, h2, Ne.symm h2])
                  have hqi : (q : Int) < (i : Int) := by omega
                  clear kc1 kc2 hcells hu
                  by_cases hm : y ∈ X.take q
                  · have hd : decide (y ∈ X.take q) = true := decide_eq_true hm
                    rw [hd] at HSN ⊢
                    clear hd hm
                    go_wp2_with fail
                    go_quiet (fail)
                    go_wp2
                    go_roundw
                    case rel => exact ⟨q + 1, by omega, by go_num, by rw [HSN.out]; rfl, by
                      obtain ⟨m, rfl⟩ := hwx.out
                      exact Lib.hid ⟨m + _, World.drewN_drewN ..⟩⟩
                    case measure => simp [intOf]; omega
                  · have hd : decide (y ∈ X.take q) = false := decide_eq_false hm
                    rw [hd] at HSN ⊢
                    clear hd hm
                    go_wp2_with fail
                    go_quiet (fail)
                    go_wp2
                    go_roundw
                    case rel => exact ⟨q + 1, by omega, by go_num, by rw [HSN.out, Bool.false_or]; exact congrArg Value.bool (Bool.eq_iff_iff.2 (by simp)), by
                      obtain ⟨m, rfl⟩ := hwx.out
                      exact Lib.hid ⟨m + _, World.drewN_drewN ..⟩⟩
                    case measure => simp [intOf]; omega
                · obtain rfl : q = j := by omega
                  obtain ⟨mq, hmq⟩ := hwx.out
                  have hbw : Below w11.heap.size w11 wr := by rw [hmq]; exact ⟨HBE2.out.os, HBE2.out.tape, HBE2.out.output, HBE2.out.size, HBE2.out.block⟩
                  have hsw : Seg wr 3 1 (.slice A7 no c7) no (ints (onc (X.take q))) ob2 := by rw [hmq]; exact HS2.out
                  have y5 := (hcells _).trans x5
                  have HXW2 : Hid (LI wr wr.heap.size (.slice Av i cv) X) := Lib.hid (LI.of_seg (TS.out.keep fun g hg => hbw.block g (TS.out.lt g hg)))
                  obtain ⟨g, o, e, kc1⟩ := li_cells HXW2.out q hjx
                  rw [HY.out] at kc1
                  subst e
                  have HBW2 := Lib.hid hbw
                  have HSW := Lib.hid hsw
                  have hon : onc (X.take (q + 1)) = if y ∈ X.take q then onc (X.take q) else onc (X.take q) ++ [y] := by
                    rw [List.take_succ_eq_append_getElem hjx, HY.out, onc_snoc]
                    by_cases h : y ∈ X.take q
                    · rw [if_pos h, if_pos ((onc_mem _ _).2 h)]
                    · rw [if_neg h, if_neg (fun x => h ((onc_mem _ _).1 x))]
                  have HON := Lib.hid hon
                  clear hbw hsw hmq hcells hwx hon HBE2 HS2 HXW x5
                  by_cases hm : y ∈ X.take q
                  · have hd : decide (y ∈ X.take q) = true := decide_eq_true hm
                    have HM9 := Lib.hid hm
                    rw [hd]
                    clear hd hm
                    go_wp2
                    go_roundw
                    case rel => exact ⟨q + 1, by omega, by go_num, Lib.hid ⟨ob2, by rw [HON.out, if_pos HM9.out, HNO.out]; exact HSW.out, HOW2.out, HBW2.out⟩⟩
                    case measure => simp [intOf]; omega
                  · have hd : decide (y ∈ X.take q) = false := decide_eq_false hm
                    have HM9 := Lib.hid hm
                    rw [hd]
                    clear hd hm
                    go_wp2_with (at_builtin; refine wpList_append_seg _ rfl _ _ 22 rfl 3 i0 _ 1 8 Try.underlying22 hi0 hz0 hz1 hz2 rfl (by decide) _ no (ints (onc (X.take q))) ob2 rfl (HSW.out.alloc _) ⟨wr.heap.size, 0, none⟩ 1 1 [.int .i64 y] rfl rfl (news_row (Row.made wr _ _)) (by simp [Value.oneCell']) (by decide) (by unfold maxLen; omega) (by omega) ?_; intro v2 z5 ob3 hs3 ht3 ho3; have HS3 := Lib.hid hs3; have HT3 := Lib.hid ht3; have HO3 := Lib.hid ho3; clear hs3 ht3 ho3)
                    go_roundw
                    case rel => exact ⟨q + 1, by omega, by go_num, Lib.hid ⟨ob3, by
                        rw [HON.out, if_neg HM9.out, List.length_append, HNO.out]
                        have e2 : ints (onc (X.take q) ++ [y]) = ints (onc (X.take q)) ++ [.int .i64 y] := by simp [ints]
                        rw [e2]; exact HS3.out, fun g hg => by
                        rcases HO3.out with h | ⟨g', h, hg'⟩
                        · rw [h] at hg; exact HOW2.out g hg
                        · rw [h] at hg; injection hg with hg; subst hg
                          have := HBW2.out.size
                          simp at hg'
                          omega, HT3.out.below (HBW2.out.alloc HBW2.out.size _) (by have := HBW2.out.size; simp; omega) (fun g hg e => by have := HOW2.out g e; omega)⟩⟩
                    case measure => simp [intOf]; omega
            · have hje : j = i := by omega
              have hTI : X.take j = X := List.take_of_length_le (by rw [HN.out]; omega)
              rw [hTI] at HS2 HNO
              have V3 := Lib.hid (T3.out.below HBE2.out T3.out.lt)
              have V4 := Lib.hid (T4.out.below HBE2.out T4.out.lt)
              have V5 := Lib.hid (T5.out.below HBE2.out T5.out.lt)
              have V8 := Lib.hid (T8.out.below HBE2.out T8.out.lt)
              have V10 := Lib.hid (T10.out.below HBE2.out T10.out.lt)
              have VK1 : Hid (wr0.heap[D1]? = some (.deferred (some []))) := Lib.hid ((HBE2.out.block D1 (Array.getElem?_eq_some_iff.1 TK1.out).1).trans TK1.out)
              have VK2 : Hid (wr0.heap[D2]? = some (.deferred (some []))) := Lib.hid ((HBE2.out.block D2 (Array.getElem?_eq_some_iff.1 TK2.out).1).trans TK2.out)
              have VS := Lib.hid (TS.out.keep fun g hg => HBE2.out.block g (TS.out.lt g hg))
              have VBW := Lib.hid (TBW.out.trans (HBE2.out.mono TBW.out.size))
              have hw11 : w11.heap.size ≤ wr0.heap.size := HBE2.out.size
              clear T3 T4 T5 T8 T10 TK1 TK2 TS TBW HBE2 HXW hTI
              go_upto_region 33 with fail
              obtain ⟨b17, hb17⟩ : ∃ x, wr0.heap.size = x := ⟨_, rfl⟩
              have hbr : Below wr0.heap.size wr0 (wr0.alloc (.cells #[.int .i64 0] 3)) := (Below.refl _ wr0).alloc (Nat.le_refl _) _
              have h17 : Row (wr0.alloc (.cells #[.int .i64 0] 3)) b17 3 #[.int .i64 0] := by rw [← hb17]; exact Row.made wr0 _ _
              have hs17 : (wr0.alloc (.cells #[.int .i64 0] 3)).heap.size = b17 + 1 := by simp; omega
              rw [hb17]
              generalize (wr0.alloc (.cells #[.int .i64 0] 3)) = w12 at hbr h17 hs17 ⊢
              have T3 := Lib.hid (V3.out.below hbr V3.out.lt)
              have T4 := Lib.hid (V4.out.below hbr V4.out.lt)
              have T5 := Lib.hid (V5.out.below hbr V5.out.lt)
              have T8 := Lib.hid (V8.out.below hbr V8.out.lt)
              have T10 := Lib.hid (V10.out.below hbr V10.out.lt)
              have T17 := Lib.hid h17
              have TK1 : Hid (w12.heap[D1]? = some (.deferred (some []))) := Lib.hid ((hbr.block D1 (Array.getElem?_eq_some_iff.1 VK1.out).1).trans VK1.out)
              have TK2 : Hid (w12.heap[D2]? = some (.deferred (some []))) := Lib.hid ((hbr.block D2 (Array.getElem?_eq_some_iff.1 VK2.out).1).trans VK2.out)
              have TS := Lib.hid (VS.out.keep fun g hg => hbr.block g (VS.out.lt g hg))
              have TO := Lib.hid (HS2.out.keep fun g hg => hbr.block g (HS2.out.lt g hg))
              have TBW := Lib.hid (VBW.out.trans (hbr.mono VBW.out.size))
              have hob3 : Hid (∀ g, ob2 = some g → g < b17) := Lib.hid (fun g hg => by rw [← hb17]; exact HS2.out.lt g hg)
              have x5 : w12.cell? ⟨b5, 0, none⟩ = some (.slice Av i cv) := (T5.out.cell 0).trans rfl
              clear hbr h17 V3 V4 V5 V8 V10 VK1 VK2 VS VBW HS2
              have HXL : Hid (LI w12 w12.heap.size (.slice Av i cv) X) := Lib.hid (LI.of_seg TS.out)
              have HB : Hid (Below w12.heap.size w12 w12) := Lib.hid (Below.refl _ w12)
              go_wp2_with (first
                | (go_at_call 11; refine (of_b X _ _ HXL.out (by have := HN.out; omega)).mono ?_; rintro e w13 ⟨f13, rfl, hit, hb⟩; have HF13 := Lib.hid hit; have HBn := Lib.hid (HB.out.trans hb); clear hb hit HB; have HB := HBn; clear HBn)
                | (go_at_call 19; refine (numb_v f13 X 1 w12.heap.size _ (by have := HN.out; omega) HB.out.size HF13.out).mono ?_; rintro e w14 ⟨f14, rfl, hit, hb⟩; have HF14 := Lib.hid hit; have HBn := Lib.hid (HB.out.trans (hb.mono HB.out.size)); clear hb hit HF13 HB; have HB := HBn; clear HBn)
                | fail)
              obtain ⟨gs3, lb3, P3, rfl, hPc3, hPl3, eg3, hT3⟩ := HF14.out
              have HT3 := Lib.hid (hT3 59 (by omega))
              have HPl3 : Hid (∀ j, P3 j → b17 < j) := Lib.hid (fun j hj => by have := hPl3 j hj; omega)
              have hVW : w12.heap.size ≤ w14.heap.size := HB.out.size
              have U4 := Lib.hid (T4.out.below HB.out T4.out.lt)
              have U5 := Lib.hid (T5.out.below HB.out T5.out.lt)
              have U8 := Lib.hid (T8.out.below HB.out T8.out.lt)
              have U10 := Lib.hid (T10.out.below HB.out T10.out.lt)
              have U17 := Lib.hid (T17.out.below HB.out T17.out.lt)
              have UK1 : Hid (w14.heap[D1]? = some (.deferred (some []))) := Lib.hid ((HB.out.block D1 (Array.getElem?_eq_some_iff.1 TK1.out).1).trans TK1.out)
              have UK2 : Hid (w14.heap[D2]? = some (.deferred (some []))) := Lib.hid ((HB.out.block D2 (Array.getElem?_eq_some_iff.1 TK2.out).1).trans TK2.out)
              have US := Lib.hid (TS.out.keep fun g hg => HB.out.block g (TS.out.lt g hg))
              have UO := Lib.hid (TO.out.keep fun g hg => HB.out.block g (TO.out.lt g hg))
              have UBW := Lib.hid (TBW.out.trans (HB.out.mono TBW.out.size))
              clear HB HXL hPc3 hPl3 hT3 HF14 T4 T5 T8 T10 T17 TK1 TK2 TS TO TBW
              obtain ⟨PP, hPP⟩ : ∃ PP : Own, PP = fun j => (j = w.heap.size + 1 ∨ j = b5 ∨ j = b8 ∨ j = b10) ∨ (ob = some j ∨ ob2 = some j) := ⟨_, rfl⟩
              have HPP := Lib.hid (fun j => show PP j ↔ ((j = w.heap.size + 1 ∨ j = b5 ∨ j = b8 ∨ j = b10) ∨ (ob = some j ∨ ob2 = some j)) by rw [hPP])
              clear hPP
              have HCP : Hid (Cells PP w14) := Lib.hid (fun j hj => by
                rcases (HPP.out j).1 hj with (e | e | e | e) | (e | e)
                · subst e; exact ⟨_, _, U4.out⟩
                · subst e; exact ⟨_, _, U5.out⟩
                · subst e; exact ⟨_, _, U8.out⟩
                · subst e; exact ⟨_, _, U10.out⟩
                · have h := US.out
                  rw [e] at h
                  obtain ⟨c, hr⟩ := seg_row h
                  exact ⟨_, _, hr⟩
                · have h := UO.out
                  rw [e] at h
                  obtain ⟨c, hr⟩ := seg_row h
                  exact ⟨_, _, hr⟩)
              have HPB : Hid (¬ PP b17) := Lib.hid (fun h => by
                rcases (HPP.out b17).1 h with (e | e | e | e) | (e | e)
                · omega
                · omega
                · omega
                · omega
                · have := hob7.out _ e; omega
                · have := hob3.out _ e; omega)
              have hlenV : w.heap.size ≤ w14.heap.size := UBW.out.size
              have HDl : Hid (∀ D ∈ [D1, D2], D < w14.heap.size) := Lib.hid (fun D h => by
                simp at h
                rcases h with h | h
                · subst h; exact (Array.getElem?_eq_some_iff.1 UK1.out).1
                · subst h; exact (Array.getElem?_eq_some_iff.1 UK2.out).1)
              have HI0 : Hid (Inv w w14 b17 PP [D1, D2] (fun _ => False) #[.int .i64 0] w14) := Lib.hid ⟨U17.out, id, ⟨Hold.refl _ _, fun _ _ e => e⟩, UBW.out, fun _ e => e.elim, fun D h => by
                simp at h
                rcases h with h | h
                · subst h; exact ⟨UK1.out, id⟩
                · subst h; exact ⟨UK2.out, id⟩⟩
              obtain ⟨I, hI⟩ : ∃ I : Own → List (Int × Int) → World → Prop, I = fun O pre Y => Inv w w14 b17 PP [D1, D2] O #[.int .i64 pre.length] Y := ⟨_, rfl⟩
              have HIE := Lib.hid (fun O pre Y => show I O pre Y ↔ Inv w w14 b17 PP [D1, D2] O #[.int .i64 pre.length] Y by rw [hI])
              have HSI : Hid (Stb w14.heap.size I) := Lib.hid (by
                rw [hI]; exact inv_stb b17 (fun pre : List (Int × Int) => #[.int .i64 pre.length]) HCP.out HDl.out hlenV)
              have HI1 : Hid (I (fun _ => False) [] w14) := Lib.hid (by rw [hI]; exact HI0.out)
              clear hI HI0
              go_wp2_with fail
              refine (wpIn_wide (n := 60)).1 ?_
              refine rangeTel_all (n := 60) (d := 1 + 4) hro (by omega) (gf := gs3) (lb := lb3) rfl trivial eg3 HT3.out (fun _ => rfl) I HSI.out HI1.out ?round3 ?done3
              case round3 =>
                intro l O pre x X0 hl hI hnx hsz
                rw [put2]
                simp only [List.setIfInBounds_toArray, List.set_cons_succ, List.set_cons_zero]
                gi_wp2
                refine ⟨(KeepsOthers.refl _).from _, Kq.refl _ _ _ _, fun o o' ho hlo => ?_⟩
                have HIZ := Lib.hid ((HIE.out _ _ _).1 (HSI.out.put o' hI hl hlo ho))
                have hs1 : w14.heap.size + 2 ≤ (X0.putObj l o').heap.size := by simpa using hsz
                clear hI hlo hsz ho
                generalize X0.putObj l o' = Z at HIZ hs1 ⊢
                clear o o'
                obtain ⟨x1, x2⟩ := x
                obtain ⟨hlt, e1, e2⟩ := next2_at hnx
                clear hnx
                obtain ⟨np, hnp⟩ : ∃ np, pre.length = np := ⟨_, rfl⟩
                simp only [hnp] at hlt e1 e2
                have hki := HIZ.out.keep
                have z5 : Z.cell? ⟨b5, 0, none⟩ = some (.slice Av i cv) := ((hki.1.row ((HPP.out _).2 (.inl (.inr (.inl rfl)))) U5.out).cell 0).trans rfl
                have zc : Z.cell? ⟨b17, 0, none⟩ = some (.int .i64 np) := by rw [← hnp]; exact (HIZ.out.row.cell 0).trans rfl
                have zf : Z.frozen? ⟨b17, 0, none⟩ = false := HIZ.out.row.free 0
                have hxz : LI Z Z.heap.size (.slice Av i cv) X := LI.of_seg (hki.1.seg (fun g e => (HPP.out _).2 (.inr (.inl e))) US.out)
                obtain ⟨g, o, rfl, kc1⟩ := li_cells hxz np hlt
                generalize hy1 : X[np] = y1 at kc1 e2
                have HNP := Lib.hid hnp
                have hw1 : IntKind.i64.wrap ((np : Int) + 1) = (np : Int) + 1 := by rw [IntKind.wrap_i64]; have := HN.out; omega
                have hni : np < i := by have := HN.out; omega
                have hni2 : ¬ (i : Int) ≤ (np : Int) := by omega
                clear hki hxz hnp hlt hy1
                obtain rfl : x1 = (np : Int) := e1
                obtain rfl : x2 = y1 := e2
                gi_wp2
                have hinv := HIZ.out
                have hk2 : Kq P3 O (w14.heap.size + 2) Z (Z.setCell ⟨b17, 0, none⟩ (.int .i64 ((np : Int) + 1))) := kq_set Z (b := b17) (fun e => e.elim hinv.nb (fun e => by have := HPl3.out b17 e; omega)) 0 _
                refine ⟨(KeepsOthers.setCell _ _ _).from _, hk2, (HIE.out _ _ _).2 ?_⟩
                have hst := hinv.store (.int .i64 ((np : Int) + 1)) (by omega) HPB.out
                have e : ((pre ++ [((np : Int), x2)]).length : Int) = (np : Int) + 1 := by
                  rw [List.length_append, HNP.out]; rfl
                rw [e]
                exact hst
              case done3 =>
                intro D3 O3 xs3 w15 hD hO hS hI hK
                have hinv := (HIE.out _ _ _).1 hI
                have hxl : xs3.length = i := by obtain ⟨l, h1, h2⟩ := hS; have h2 : l = X := h2; rw [h1, h2, num_len, HN.out]
                rw [hxl] at hinv
                have HK3 := Lib.hid hK
                have HD3 : Hid (w14.heap.size ≤ D3) := Lib.hid hD
                have H4 := Lib.hid (hinv.keep.1.row ((HPP.out _).2 (.inl (.inl rfl))) U4.out)
                have H5 := Lib.hid (hinv.keep.1.row ((HPP.out _).2 (.inl (.inr (.inl rfl)))) U5.out)
                have H8 := Lib.hid (hinv.keep.1.row ((HPP.out _).2 (.inl (.inr (.inr (.inl rfl))))) U8.out)
                have H10 := Lib.hid (hinv.keep.1.row ((HPP.out _).2 (.inl (.inr (.inr (.inr rfl))))) U10.out)
                have H17 := Lib.hid hinv.row
                have HS := Lib.hid (hinv.keep.1.seg (fun g e => (HPP.out _).2 (.inr (.inl e))) US.out)
                have HO := Lib.hid (hinv.keep.1.seg (fun g e => (HPP.out _).2 (.inr (.inr e))) UO.out)
                have HK1 := Lib.hid (hinv.dfs D1 (by simp)).1
                have HK2 := Lib.hid (hinv.dfs D2 (by simp)).1
                have HB15 := Lib.hid hinv.be
                have h1415 : w14.heap.size ≤ w15.heap.size := hinv.keep.1.1
                have hD1w : D1 < w14.heap.size := (Array.getElem?_eq_some_iff.1 UK1.out).1
                have hD2w : D2 < w14.heap.size := (Array.getElem?_eq_some_iff.1 UK2.out).1
                have hD12 : D1 ≠ D2 := by have h1 := HD2.out; omega
                have hD13 : D1 ≠ D3 := by have h1 := HD3.out; omega
                have hD23 : D2 ≠ D3 := by have h1 := HD3.out; omega
                have hb17w : b17 < w14.heap.size := U17.out.lt
                clear hinv hI hS hK hO hD HIE HSI HI1 HCP HPB HPP HPl3 HT3 HDl O3 U4 U5 U8 U10 U17 UK1 UK2 US UO UBW hlenV hxl
                clear xs3 I PP P3
                dsimp only [Exit.inBlock, Exit.then]
                have hjw : IntKind.i64.wrap ((i : Int) - 1) = (i : Int) - 1 := by rw [IntKind.wrap_i64]; omega
                have hmx : max ((i : Int) - 1) 0 = (np : Int) := by have := HNP.out; omega
                have HXR : Hid (∀ x ∈ X, -9223372036854775808 ≤ x ∧ x ≤ 9223372036854775807) := Lib.hid (fun x hx => by have := HX7.out x hx; omega)
                have HOL : Hid ((onc X).length ≤ 20) := Lib.hid (by have h := onc_le X _ rfl; rw [HN.out] at h; rw [← HN.out] at h20; have := HN.out; omega)
                have HXL : Hid (LI w15 w15.heap.size (.slice Av i cv) X) := Lib.hid (LI.of_seg HS.out)
                have HOX : Hid (LI w15 w15.heap.size (.slice A7 no c7) (onc X)) := Lib.hid (LI.of_seg (by have h := HO.out; rw [← HNO.out] at h ⊢; exact h))
                have HKP : Hid (∀ V : World, Below w15.heap.size w15 V → (V.cell? ⟨b8, 0, none⟩ = some (.int .i64 i) ∧ V.cell? ⟨b5, 0, none⟩ = some (.slice Av i cv)) ∧ V.cell? ⟨b10, 0, none⟩ = some (.int .i64 np) ∧ V.cell? ⟨b17, 0, none⟩ = some (.int .i64 i)) := Lib.hid (fun V hV =>
                  ⟨⟨((H8.out.below hV H8.out.lt).cell 0).trans rfl, ((H5.out.below hV H5.out.lt).cell 0).trans rfl⟩, ((H10.out.below hV H10.out.lt).cell 0).trans rfl, ((H17.out.below hV H17.out.lt).cell 0).trans rfl⟩)
                have HKS : Hid (∀ V : World, Below w15.heap.size w15 V → ∀ u : Value, ((V.setCell ⟨w.heap.size + 1, 0, none⟩ u).cell? ⟨b8, 0, none⟩ = some (.int .i64 i) ∧ (V.setCell ⟨w.heap.size + 1, 0, none⟩ u).cell? ⟨b5, 0, none⟩ = some (.slice Av i cv)) ∧ (V.setCell ⟨w.heap.size + 1, 0, none⟩ u).cell? ⟨b10, 0, none⟩ = some (.int .i64 np) ∧ (V.setCell ⟨w.heap.size + 1, 0, none⟩ u).cell? ⟨b17, 0, none⟩ = some (.int .i64 i)) := Lib.hid (fun V hV u =>
                  ⟨⟨(((H8.out.below hV H8.out.lt).past (p := ⟨w.heap.size + 1, 0, none⟩) (by show b8 ≠ w.heap.size + 1; omega) u).cell 0).trans rfl, (((H5.out.below hV H5.out.lt).past (p := ⟨w.heap.size + 1, 0, none⟩) (by show b5 ≠ w.heap.size + 1; omega) u).cell 0).trans rfl⟩, (((H10.out.below hV H10.out.lt).past (p := ⟨w.heap.size + 1, 0, none⟩) (by show b10 ≠ w.heap.size + 1; omega) u).cell 0).trans rfl, (((H17.out.below hV H17.out.lt).past (p := ⟨w.heap.size + 1, 0, none⟩) (by show b17 ≠ w.heap.size + 1; omega) u).cell 0).trans rfl⟩)
                have HB : Hid (Below w15.heap.size w15 w15) := Lib.hid (Below.refl _ w15)
                go_wp2_with (first
                  | (
                    go_at_call 8
                    refine (awake_any _).mono ?_
                    rintro e V1 ⟨rfl, hb⟩
                    have HBn := Lib.hid (HB.out.trans (hb.mono HB.out.size))
                    clear HB
                    have HB := HBn
                    clear HBn
                    clear hb
                    obtain ⟨⟨k8, k5⟩, k10, k17⟩ := HKP.out _ HB.out)
                  | (
                    go_at_call 11
                    refine (of_b X _ _ (HXL.out.below HB.out HB.out.size) (by have := HN.out; omega)).mono ?_
                    rintro e V2 ⟨f2, rfl, hit, hb⟩
                    have HF2 := Lib.hid hit.it
                    have HBn := Lib.hid (HB.out.trans (hb.mono HB.out.size))
                    clear HB
                    have HB := HBn
                    clear HBn
                    clear hb hit
                    obtain ⟨⟨k8, k5⟩, k10, k17⟩ := HKP.out _ HB.out)
                  | (
                    go_at_call 20
                    refine (once_it f2 X 1 _ (by have := HN.out; omega) HXR.out HF2.out).mono ?_
                    rintro e V3 ⟨f3, rfl, hit, hb⟩
                    have HF3 := Lib.hid hit
                    have HBn := Lib.hid (HB.out.trans (hb.mono HB.out.size))
                    clear HB
                    have HB := HBn
                    clear HBn
                    clear hb hit HF2
                    obtain ⟨⟨k8, k5⟩, k10, k17⟩ := HKP.out _ HB.out)
                  | (
                    go_at_call 9
                    refine (all_it f3 (onc X) _ _ (by have := HOL.out; omega) HF3.out).mono ?_
                    rintro e V4 ⟨v4, ob4, rfl, hs4, hb⟩
                    have HS4 := Lib.hid (LI.of_seg hs4)
                    have HBn := Lib.hid (HB.out.trans (hb.mono HB.out.size))
                    clear HB
                    have HB := HBn
                    clear HBn
                    clear hb hs4 HF3
                    obtain ⟨⟨k8, k5⟩, k10, k17⟩ := HKP.out _ HB.out)
                  | (
                    go_at_call 14
                    have HSM := Lib.hid (same_l (onc X) v4 (.slice A7 no c7) _ HS4.out (HOX.out.below HB.out HB.out.size) (by have := HOL.out; omega))
                    with_reducible refine HSM.out.mono ?_
                    clear HSM
                    rintro e V5 ⟨rfl, mq, hq⟩
                    have hb : Below V4.heap.size V4 V5 := by rw [hq]; exact ⟨rfl, rfl, rfl, Nat.le_refl _, fun _ _ => rfl⟩
                    have HBn := Lib.hid (HB.out.trans (hb.mono HB.out.size))
                    clear HB
                    have HB := HBn
                    clear HBn
                    clear hb hq HS4
                    have hr4 := H4.out.below HB.out H4.out.lt
                    have c4 : V5.cell? ⟨w.heap.size + 1, 0, none⟩ = some (.bool false) := (hr4.cell 0).trans rfl
                    have fr4 : V5.frozen? ⟨w.heap.size + 1, 0, none⟩ = false := hr4.free 0
                    clear hr4
                    obtain ⟨⟨k8, k5⟩, k10, k17⟩ := HKP.out _ HB.out)
                  | fail)
                all_goals
                  have hbw := HB15.out.trans (HB.out.mono HB15.out.size)
                  have kd3 := (HB.out.block D3 (Array.getElem?_eq_some_iff.1 HK3.out).1).trans HK3.out
                  have kd2 := (HB.out.block D2 (Array.getElem?_eq_some_iff.1 HK2.out).1).trans HK2.out
                  have kd1 := (HB.out.block D1 (Array.getElem?_eq_some_iff.1 HK1.out).1).trans HK1.out
                  have rX : Row (V5.setCell ⟨w.heap.size + 1, 0, none⟩ (.bool true)) (w.heap.size + 1) 4 #[.bool true] := Row.put (H4.out.below HB.out H4.out.lt) 0 (.bool true)
                  have bX : Below w.heap.size w (V5.setCell ⟨w.heap.size + 1, 0, none⟩ (.bool true)) := hbw.setCell (by show w.heap.size ≤ w.heap.size + 1; omega) _
                  have hd1 := HD1.out
                  have hd2 := HD2.out
                  have hd3 := HD3.out
                  have x3 : (V5.setCell ⟨w.heap.size + 1, 0, none⟩ (.bool true)).heap[D3]? = some (.deferred (some [])) := (heap_setCell_other _ _ _ _ (by show D3 ≠ w.heap.size + 1; omega)).trans kd3
                  have x2 : (V5.setCell ⟨w.heap.size + 1, 0, none⟩ (.bool true)).heap[D2]? = some (.deferred (some [])) := (heap_setCell_other _ _ _ _ (by show D2 ≠ w.heap.size + 1; omega)).trans kd2
                  have x1 : (V5.setCell ⟨w.heap.size + 1, 0, none⟩ (.bool true)).heap[D1]? = some (.deferred (some [])) := (heap_setCell_other _ _ _ _ (by show D1 ≠ w.heap.size + 1; omega)).trans kd1
                  generalize V5.setCell ⟨w.heap.size + 1, 0, none⟩ (.bool true) = X9 at rX bX x3 x2 x1 ⊢
                  have y2 : (X9.putObj D3 (.deferred none)).heap[D2]? = some (.deferred (some [])) := (World.putObj_heap_other hD23).trans x2
                  have y1 : ((X9.putObj D3 (.deferred none)).putObj D2 (.deferred none)).heap[D1]? = some (.deferred (some [])) := (World.putObj_heap_other hD12).trans ((World.putObj_heap_other hD13).trans x1)
                  have rY1 := row_kept' rX (grownBy_putObj' X9 D3 (.deferred none)) (fun r e => by injection e with e; subst e; exact ⟨_, x3, rfl⟩)
                  have rY2 := row_kept' rY1 (grownBy_putObj' _ D2 (.deferred none)) (fun r e => by injection e with e; subst e; exact ⟨_, y2, rfl⟩)
                  have rY3 := row_kept' rY2 (grownBy_putObj' _ D1 (.deferred none)) (fun r e => by injection e with e; subst e; exact ⟨_, y1, rfl⟩)
                  have b3 := bX.trans (belowK_b (w := w) (Nat.le_refl _) X9 D3 _ (.deferred none) (by omega) x3 rfl rfl)
                  have b2 := b3.trans (belowK_b (w := w) (Nat.le_refl _) _ D2 _ (.deferred none) (by omega) y2 rfl rfl)
                  have b1 := b2.trans (belowK_b (w := w) (Nat.le_refl _) _ D1 _ (.deferred none) (by omega) y1 rfl rfl)
                  refine ⟨by simp, .inl ⟨_, _, rfl, run_takeDeferred x3, ?_⟩⟩
                  refine ⟨by simp, .inl ⟨_, _, rfl, run_takeDeferred y2, ?_⟩⟩
                  refine ⟨by simp, .inl ⟨_, _, rfl, run_takeDeferred y1, ?_⟩⟩
                  have y0 := (rY3.cell 0).trans rfl
                  exact ⟨_, results_cell0 rfl _ _ _ _ rfl y0, rfl, b1⟩
end Go.Proofs.Ytkklceblojcbkaa.Sr
