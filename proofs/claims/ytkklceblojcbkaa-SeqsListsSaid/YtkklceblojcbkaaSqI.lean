/- told of Of's things. -/
import Derived.Test.YtkklceblojcbkaaSqH
namespace Go.Proofs.Ytkklceblojcbkaa.Sq
open Go.RowKit Go.Proofs.Ytkklceblojcbkaa
set_option linter.unusedVariables false
set_option maxRecDepth 100000
attribute [local go_sem] Oper.semAt_some
/-- What a round keeps: truths, ears, and the things that are told. -/
def Kp (P : Nat → Prop) (m : Nat) (B : Nat) (W W' : World) : Prop := KeepsFrom B W W' ∧ ∀ k cs t, W.heap[k]? = some (.cells cs t) → (t = 4 ∨ t = 43 ∨ P k ∨ (B ≤ k ∧ k < B + m)) → W'.heap[k]? = some (.cells cs t)
theorem Kp.refl (P : Nat → Prop) (m b : Nat) (A : World) : Kp P m b A A := ⟨KeepsFrom.refl _ _, fun _ _ _ h _ => h⟩
theorem Kp.trans {P : Nat → Prop} {m b : Nat} {A B C : World} (h : Kp P m b A B) (k : Kp P m b B C) : Kp P m b A C := ⟨h.1.trans k.1, fun i cs t hi ht => k.2 i cs t (h.2 i cs t hi ht) ht⟩
theorem Kp.less {P : Nat → Prop} {m b b' : Nat} {A B : World} (h : Kp P m b A B) (hb : b ≤ b') : Kp P 0 b' A B := ⟨⟨h.1.size, fun k o hk => h.1.same k o (Nat.le_trans hb hk)⟩, fun i cs t hi ht => h.2 i cs t hi (by rcases ht with e | e | e | e; exact .inl e; exact .inr (.inl e); exact .inr (.inr (.inl e)); omega)⟩
theorem Kp.seg {P : Nat → Prop} {ob : Option Nat} {m b : Nat} {A B : World} (h : Kp P m b A B) (hP : ∀ g, ob = some g → P g) {e : TypeId} {size n : Nat} {v : Value} {xs : List Value} (hs : Seg A e size v n xs ob) : Seg B e size v n xs ob := by
  obtain ⟨h0, A, cap, hv, h1, h2, h3⟩ := hs
  refine ⟨h0, A, cap, hv, h1, h2, ?_⟩
  rcases h3 with h3 | ⟨g, o2, cur, a1, a2, a3, a4, a5⟩
  · exact .inl h3
  · exact .inr ⟨g, o2, cur, a1, a2, h.2 g _ _ a3 (.inr (.inr (.inl (hP g a2)))), a4, a5⟩
/-- Those of zs, all or the first ones. -/
def Firsts (zs : List Int) (c : Bool) (ys : List Int) : Prop := if c then ys = zs else ys <+: zs
def Next (zs : List Int) (pre : List Int) (x : Int) : Prop := pre ++ [x] <+: zs
def enc (x : Int) : Array Value := #[.int .i64 x]
set_option maxHeartbeats 1000000 in
theorem told1_of (F : Fence) (n : Nat) (hF : ∀ k, F.fn k) (hro : F.round = none) (hn : 3 ≤ n) (P : Nat → Prop) (Bs Bn : Nat) (zs : List Int) (A : Option Addr) (cap : Nat) (ob : Option Nat) (w : World) (hP : ∀ g, ob = some g → P g) (hz : zs.length ≤ 1000000)
    (hs : w.cell? ⟨Bs, 0, none⟩ = some (.func (.func 28) #[] #[.pointer (some ⟨Bn, 0, none⟩)])) (hBs : Bs < w.heap.size)
    (hB : w.cell? ⟨Bn, 0, none⟩ = some (.slice A zs.length cap)) (hBn : Bn < w.heap.size) (hS : Seg w 3 1 (.slice A zs.length cap) zs.length (ints zs) ob) :
    Tells 0 3 F n Try.prog 39 #[.pointer (some ⟨Bs, 0, none⟩)] enc (Kp P 0) (Firsts zs) (Next zs) w := fun l J Jx W hW hJ hJx hY h0 => by
  have c0 : W.cell? ⟨Bs, 0, none⟩ = some (.func (.func 28) #[] #[.pointer (some ⟨Bn, 0, none⟩)]) := (hW.cell (p := ⟨Bs, 0, none⟩) hBs).trans hs
  have d0 : W.cell? ⟨Bn, 0, none⟩ = some (.slice A zs.length cap) := (hW.cell (p := ⟨Bn, 0, none⟩) hBn).trans hB
  have hl : Bs < W.heap.size := Nat.lt_of_lt_of_le hBs hW.size
  have hl2 : Bn < W.heap.size := Nat.lt_of_lt_of_le hBn hW.size
  have hSW : Seg W 3 1 (.slice A zs.length cap) zs.length (ints zs) ob := hS.keep fun g hg => hW.block g (hS.lt g hg)
  obtain ⟨o1, ho1⟩ : ∃ o, o = Obj.cells #[.func (.yield l) #[] #[]] 43 := ⟨_, rfl⟩
  obtain ⟨o2, ho2⟩ : ∃ o, o = Obj.cells #[.bool true] 4 := ⟨_, rfl⟩
  have hb2 : Below W.heap.size W ((W.alloc o1).alloc o2) := ((Below.refl _ W).alloc (Nat.le_refl _) _).alloc (by simp) _
  have HQ : Hid (CallsIn F (n - 1) Try.prog 28 #[.func (.func 40) #[] #[.pointer (some ⟨W.heap.size + 1, 0, none⟩), .pointer (some ⟨W.heap.size, 0, none⟩)], .pointer (some ⟨Bn, 0, none⟩)] ((W.alloc o1).alloc o2)
      fun e W' => (∃ v, e = .returned v) ∧ ∃ ys, (Firsts zs true ys ∧ J ys W') ∨ (Firsts zs false ys ∧ Jx ys W')) := Lib.hid <| by
    refine (of1_in F (n - 1) hF hro (by omega) _ _ Bn zs A cap ob
      (fun pre wr => J pre wr ∧ wr.heap[W.heap.size]? = some (.cells #[.func (.yield l) #[] #[]] 43) ∧ wr.heap[W.heap.size + 1]? = some (.cells #[.bool true] 4) ∧ Seg wr 3 1 (.slice A zs.length cap) zs.length (ints zs) ob)
      (fun pre wr => Jx pre wr) _ (fun _ _ h => h.2.2.2) ((hb2.cell (p := ⟨Bn, 0, none⟩) hl2).trans d0) hz ?_ ?_).mono ?_
    · rintro pre x W1 ⟨hj, hy1, ha1, hs1⟩ hg
      have ry : Row W1 W.heap.size 43 #[.func (.yield l) #[] #[]] := hy1
      have ra : Row W1 (W.heap.size + 1) 4 #[.bool true] := ha1
      refine told11_in F (n - 1 - 1) hF hro (by omega) x (W.heap.size + 1) W.heap.size l _ W1 ((ra.cell 0).trans rfl) ((ry.cell 0).trans rfl) ((hY pre x W1 hj hg (by have := ra.lt; omega)).mono ?_)
      rintro e W' ⟨hk, h2⟩
      have ra' : Row W' (W.heap.size + 1) 4 #[.bool true] := hk.2 _ _ _ ra (.inl rfl)
      have ry' : Row W' W.heap.size 43 #[.func (.yield l) #[] #[]] := hk.2 _ _ _ ry (.inr (.inl rfl))
      have hm : ∀ v, Mv 0 W.heap.size W' (W'.setCell ⟨W.heap.size + 1, 0, none⟩ v) := fun v => .inr (.inl ⟨_, v, _, by omega, ra', rfl⟩)
      rcases h2 with ⟨rfl, h2⟩ | ⟨rfl, h2⟩
      · refine ⟨true, rfl, (ra'.cell 0).trans rfl, frozen_of_row _ _ _ _ _ ra', .inl ⟨rfl, hJ _ _ _ h2 (hm _), (hm _).row (by decide) (by omega) ry', ?_, (hm _).seg (by decide) (fun _ _ => by omega) (hk.seg hP hs1)⟩⟩
        have := Row.put ra' 0 (.bool true)
        exact this
      · exact ⟨false, rfl, (ra'.cell 0).trans rfl, frozen_of_row _ _ _ _ _ ra', .inr ⟨rfl, hJx _ _ _ h2 (hm _)⟩⟩
    · refine ⟨hJ [] W _ h0 (.inl ⟨none, grown_of_below hb2, fun r e => by cases e⟩), ?_, ?_, hSW.alloc _ |>.alloc _⟩
      · rw [Below.heap_alloc _ _ _ (by simp), World.alloc_heap_new, ho1]
      · have := World.alloc_heap_new (W.alloc o1) o2
        rw [World.size_alloc] at this
        rw [this, ho2]
    · rintro e W' ⟨hv, h | ⟨pre, hp, h⟩⟩
      · exact ⟨hv, zs, .inl ⟨rfl, h.1⟩⟩
      · exact ⟨hv, pre, .inr ⟨hp, h⟩⟩
  refine callsIn_of_wp Try.func39 rfl (hF _) ?_ hro
  simp only [Try.ntmps39, List.size_toArray, List.length_cons, List.length_nil, Nat.reduceAdd, Nat.reduceSub, Array.replicate_succ, Array.replicate_zero, List.push_toArray, List.append_toArray, List.nil_append, List.cons_append]
  have q : ∀ wx, (binOp .eql 26 (.func (.func 28) #[] #[.pointer (some ⟨Bn, 0, none⟩)]) .nilFunc).run Try.prog wx = .ok (.bool false) wx := fun wx => rfl
  clear hs hB hW hS hSW hJ hJx hY h0 d0
  subst ho1 ho2
  gi_wp2
  refine ⟨fun _ => by omega, ?_⟩
  refine HQ.out.mono ?_
  rintro e w' ⟨⟨v, rfl⟩, hys⟩
  gi_wp2
  go_end0
  exact ⟨⟨_, rfl⟩, hys⟩
end Go.Proofs.Ytkklceblojcbkaa.Sq
