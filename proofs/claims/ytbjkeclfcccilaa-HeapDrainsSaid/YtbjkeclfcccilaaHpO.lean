/- A heap in memory: Drain, Upto. -/
import Derived.Test.YtbjkeclfcccilaaHpN
import Derived.Test.YtbjkeclfcccilaaHpMu
namespace Go.Proofs.Ytbjkeclfcccilaa.Hp
open Go.RowKit Go.Proofs.Ytbjkeclfcccilaa Go.Proofs.Ytbjkeclfcccilaa.Mut
set_option linter.unusedVariables false
set_option maxRecDepth 100000
theorem drain1_any (y : St) (w : World) : Calls Try.prog 15 #[.agg #[.int .i64 y.t, .int .i64 y.q, .int .i64 y.a]] w fun e w' => e = .returned (.bool true) ∧ Below w.heap.size w w' := by
  go_enter Try.func15, Try.ntmps15
  go_wp2
  go_ret
  exact ⟨rfl, by go_grown⟩
theorem while_any (p : Option Addr) (i : Fn) (l c : Array Value) (w : World) : Calls Try.prog 14 #[.pointer p, .func i l c] w fun e w' =>
    e = .returned (.func (.func 21) #[] #[.pointer (some ⟨w.heap.size, 0, none⟩), .pointer (some ⟨w.heap.size + 1, 0, none⟩)]) ∧ w' = (w.alloc (.cells #[.pointer p] 34)).alloc (.cells #[.func i l c] 29) := by
  go_enter Try.func14, Try.ntmps14
  go_wp2
  go_ret
  exact ⟨rfl, rfl⟩
theorem drain_any (p : Option Addr) (w : World) : Calls Try.prog 7 #[.pointer p] w fun e w' =>
    e = .returned (.func (.func 21) #[] #[.pointer (some ⟨w.heap.size, 0, none⟩), .pointer (some ⟨w.heap.size + 1, 0, none⟩)]) ∧
      w' = (w.alloc (.cells #[.pointer p] 34)).alloc (.cells #[.func (.func 15) #[] #[]] 29) := by
  go_enter Try.func7, Try.ntmps7
  go_wp2_with fail
  refine (while_any p _ _ _ _).mono ?_
  rintro e w' ⟨rfl, rfl⟩
  go_wp2
  go_ret
  exact ⟨rfl, rfl⟩
theorem pulled_own (B b : Nat) (ob : Option Nat) (xs : List St) (mg : St → Bool) (c : Bool) : OwnFrom B (Pulled b ob xs mg c) := by
  intro ys W W' row h hg hr
  obtain ⟨k, v, h1, h2, h3, h4, h5⟩ := h
  refine ⟨k, v, h1, h2, ⟨?_, ?_⟩, h4, h5⟩
  · exact (hg.block b h3.row.lt (fun e => by
      obtain ⟨o, ho1, ho2⟩ := (hr b e.symm).2
      have := h3.row
      unfold Row at this
      rw [this] at ho1
      cases ho1
      cases ho2)).trans h3.row
  · refine h3.seg.keep fun g hgo => hg.block g (h3.seg.lt g hgo) (fun e => ?_)
    obtain ⟨o, ho1, ho2⟩ := (hr g e.symm).2
    have hs := h3.seg
    rw [hgo] at hs
    obtain ⟨c', hr'⟩ := seg_row hs
    unfold Row at hr'
    rw [hr'] at ho1
    cases ho1
    cases ho2
/-- What Drain's closure does. -/
theorem walks_drain (n hB mB b : Nat) (ob : Option Nat) (v : Value) (xs : List St) (h64 : xs.length ≤ 65536) (B0 aB : Nat) (w : World) (hl : Old b ob B0 aB) (hh : hB < B0 ∧ hB ≠ aB) (hm : mB < B0 ∧ mB ≠ aB)
    (n1 : ¬ (hB = b ∨ ob = some hB)) (n2 : ¬ (mB = b ∨ ob = some mB)) (r1 : Row w hB 34 #[.pointer (some ⟨b, 0, none⟩)])
    (r2 : Row w mB 29 #[.func (.func 15) #[] #[]]) (hL : Hm w b v ob xs) :
    Walks Fence.wide n Try.prog 21 #[.pointer (some ⟨hB, 0, none⟩), .pointer (some ⟨mB, 0, none⟩)] (fun x : St => #[Value.agg #[.int .i64 x.t, .int .i64 x.q, .int .i64 x.a]]) (KpB B0 aB)
      (fun k => k = b ∨ ob = some k) (Pulled b ob xs (fun _ => true)) (Nx xs) w := fun l J Jx W hW hJ hJx hY h0 =>
  drain_inA n l hB mB b ob v xs h64 B0 aB (fun _ => true) () J Jx W hl (fun W => Row W hB 34 #[.pointer (some ⟨b, 0, none⟩)] ∧ Row W mB 29 #[.func (.func 15) #[] #[]])
    (fun _ h => h.1) (fun _ h => h.2) (fun _ _ h t => ⟨h.1.turns t n1, h.2.turns t n2⟩) (fun _ _ h t => ⟨t.row h.1 hh.1 hh.2, t.row h.2 hm.1 hm.2⟩) (fun y W _ => drain1_any y W) hJ hJx hY (hL.call hW)
    ⟨r1.below hW r1.lt, r2.below hW r2.lt⟩ h0
/-- A list of stamps that a call has made. -/
structure Gl (w w' : World) (v : Value) (ob : Option Nat) (ys : List St) : Prop where
  seg : Seg w' 28 3 v ys.length (hcells ys) ob
  own : ∀ g, ob = some g → w.heap.size ≤ g
end Go.Proofs.Ytbjkeclfcccilaa.Hp
