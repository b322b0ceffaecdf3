/- A heap in memory: Drain, Upto. -/
import Derived.Test.YtickliklghecgaaHpN
import Derived.Test.YtickliklghecgaaHpMu
namespace Go.Proofs.Ytickliklghecgaa.Hp
open Go.RowKit Go.Proofs.Ytickliklghecgaa Go.Proofs.Ytickliklghecgaa.Mut
set_option linter.unusedVariables false
set_option maxRecDepth 100000
theorem drain1_any (y : St) (w : World) : Calls Try.prog 25 #[.agg #[.int .i64 y.t, .int .i64 y.q, .int .i64 y.a]] w fun e w' => e = .returned (.bool true) ∧ Below w.heap.size w w' := by
  go_enter Try.func25, Try.ntmps25
  go_wp2
  go_ret
  exact ⟨rfl, by go_grown⟩
theorem while_any (p : Option Addr) (i : Fn) (l c : Array Value) (w : World) : Calls Try.prog 18 #[.pointer p, .func i l c] w fun e w' =>
    e = .returned (.func (.func 24) #[] #[.pointer (some ⟨w.heap.size, 0, none⟩), .pointer (some ⟨w.heap.size + 1, 0, none⟩)]) ∧ w' = (w.alloc (.cells #[.pointer p] 41)).alloc (.cells #[.func i l c] 31) := by
  go_enter Try.func18, Try.ntmps18
  go_wp2
  go_ret
  exact ⟨rfl, rfl⟩
theorem drain_any (p : Option Addr) (w : World) : Calls Try.prog 21 #[.pointer p] w fun e w' =>
    e = .returned (.func (.func 24) #[] #[.pointer (some ⟨w.heap.size, 0, none⟩), .pointer (some ⟨w.heap.size + 1, 0, none⟩)]) ∧
      w' = (w.alloc (.cells #[.pointer p] 41)).alloc (.cells #[.func (.func 25) #[] #[]] 31) := by
  go_enter Try.func21, Try.ntmps21
  go_wp2_with fail
  refine (while_any p _ _ _ _).mono ?_
  rintro e w' ⟨rfl, rfl⟩
  go_wp2
  go_ret
  exact ⟨rfl, rfl⟩
theorem upto1_any (x y : St) (xB : Nat) (w : World) (h : Row w xB 30 #[.int .i64 x.t, .int .i64 x.q, .int .i64 x.a]) :
    Calls Try.prog 19 #[.agg #[.int .i64 y.t, .int .i64 y.q, .int .i64 y.a], .pointer (some ⟨xB, 0, none⟩)] w fun e w' => e = .returned (.bool (!decide (lt x y))) ∧ Below w.heap.size w w' := by
  have x0 : w.cell? ⟨xB, 0, none⟩ = some (.int .i64 x.t) := (h.cell 0).trans rfl
  have x1 : w.cell? ⟨xB, 1, none⟩ = some (.int .i64 x.q) := (h.cell 1).trans rfl
  have x2 : w.cell? ⟨xB, 2, none⟩ = some (.int .i64 x.a) := (h.cell 2).trans rfl
  have hlt := h.lt
  clear h
  go_enter Try.func19, Try.ntmps19
  go_wp2_with fail
  refine (less_any x y _).mono ?_
  rintro e w2 ⟨rfl, hb2⟩
  have HB2 : Hid (Below w.heap.size w w2) := Lib.hid (Below.trans ((Below.refl _ w).alloc (Nat.le_refl _) _) (hb2.mono (by simp)))
  clear hb2
  go_wp2
  go_ret
  exact ⟨rfl, HB2.out⟩
theorem pulled_own (B b : Nat) (ob : Option Nat) (xs : List St) (mg : St → Bool) (c : Bool) : OwnFrom B (Pulled b ob xs mg c) := by
  intro ys W W' row h hg hr
  obtain ⟨k, v, h1, h2, h3, h4, h5⟩ := h
  refine ⟨k, v, h1, h2, ⟨?_, ?_⟩, h4, h5⟩
  · exact (hg.block b h3.row.lt (fun e => by
      obtain ⟨o, ho1, ho2⟩ := (hr b e.symm).2
      have := h3.row
      unfold Row at this
      rw [this] at ho1
      cases ho1
      cases ho2)).trans h3.row
  · refine h3.seg.keep fun g hgo => hg.block g (h3.seg.lt g hgo) (fun e => ?_)
    obtain ⟨o, ho1, ho2⟩ := (hr g e.symm).2
    have hs := h3.seg
    rw [hgo] at hs
    obtain ⟨c', hr'⟩ := seg_row hs
    unfold Row at hr'
    rw [hr'] at ho1
    cases ho1
    cases ho2
/-- What Drain's closure does. -/
theorem walks_drain (n hB mB b : Nat) (ob : Option Nat) (v : Value) (xs : List St) (h64 : xs.length ≤ 65536) (B0 aB : Nat) (w : World) (hl : Old b ob B0 aB) (hh : hB < B0 ∧ hB ≠ aB) (hm : mB < B0 ∧ mB ≠ aB)
    (n1 : ¬ (hB = b ∨ ob = some hB)) (n2 : ¬ (mB = b ∨ ob = some mB)) (r1 : Row w hB 41 #[.pointer (some ⟨b, 0, none⟩)])
    (r2 : Row w mB 31 #[.func (.func 25) #[] #[]]) (hL : Hm w b v ob xs) :
    Walks Fence.wide n Try.prog 24 #[.pointer (some ⟨hB, 0, none⟩), .pointer (some ⟨mB, 0, none⟩)] (fun x : St => #[Value.agg #[.int .i64 x.t, .int .i64 x.q, .int .i64 x.a]]) (KpB B0 aB)
      (fun k => k = b ∨ ob = some k) (Pulled b ob xs (fun _ => true)) (Nx xs) w := fun l J Jx W hW hJ hJx hY h0 =>
  drain_inA n l hB mB b ob v xs h64 B0 aB (fun _ => true) () J Jx W hl (fun W => Row W hB 41 #[.pointer (some ⟨b, 0, none⟩)] ∧ Row W mB 31 #[.func (.func 25) #[] #[]])
    (fun _ h => h.1) (fun _ h => h.2) (fun _ _ h t => ⟨h.1.turns t n1, h.2.turns t n2⟩) (fun _ _ h t => ⟨t.row h.1 hh.1 hh.2, t.row h.2 hm.1 hm.2⟩) (fun y W _ => drain1_any y W) hJ hJx hY (hL.call hW)
    ⟨r1.below hW r1.lt, r2.below hW r2.lt⟩ h0
theorem walks_upto (x : St) (n hB mB xB b : Nat) (ob : Option Nat) (v : Value) (xs : List St) (h64 : xs.length ≤ 65536) (B0 aB : Nat) (w : World) (hl : Old b ob B0 aB) (hh : hB < B0 ∧ hB ≠ aB) (hm : mB < B0 ∧ mB ≠ aB) (hx : xB < B0 ∧ xB ≠ aB)
    (n1 : ¬ (hB = b ∨ ob = some hB)) (n2 : ¬ (mB = b ∨ ob = some mB)) (n3 : ¬ (xB = b ∨ ob = some xB)) (r1 : Row w hB 41 #[.pointer (some ⟨b, 0, none⟩)])
    (r2 : Row w mB 31 #[.func (.func 19) #[] #[.pointer (some ⟨xB, 0, none⟩)]]) (r3 : Row w xB 30 #[.int .i64 x.t, .int .i64 x.q, .int .i64 x.a]) (hL : Hm w b v ob xs) :
    Walks Fence.wide n Try.prog 24 #[.pointer (some ⟨hB, 0, none⟩), .pointer (some ⟨mB, 0, none⟩)] (fun x : St => #[Value.agg #[.int .i64 x.t, .int .i64 x.q, .int .i64 x.a]]) (KpB B0 aB)
      (fun k => k = b ∨ ob = some k) (Pulled b ob xs (fun y => !decide (lt x y))) (Nx xs) w := fun l J Jx W hW hJ hJx hY h0 =>
  drain_inU n l hB mB b ob v xs h64 B0 aB (fun y => !decide (lt x y)) xB J Jx W hl (fun W => Row W hB 41 #[.pointer (some ⟨b, 0, none⟩)] ∧ Row W mB 31 #[.func (.func 19) #[] #[.pointer (some ⟨xB, 0, none⟩)]] ∧ Row W xB 30 #[.int .i64 x.t, .int .i64 x.q, .int .i64 x.a])
    (fun _ h => h.1) (fun _ h => h.2.1) (fun _ _ h t => ⟨h.1.turns t n1, h.2.1.turns t n2, h.2.2.turns t n3⟩) (fun _ _ h t => ⟨t.row h.1 hh.1 hh.2, t.row h.2.1 hm.1 hm.2, t.row h.2.2 hx.1 hx.2⟩) (fun y W h => upto1_any x y xB W h.2.2) hJ hJx hY (hL.call hW)
    ⟨r1.below hW r1.lt, r2.below hW r2.lt, r3.below hW r3.lt⟩ h0
/-- A list of stamps that a call has made. -/
structure Gl (w w' : World) (v : Value) (ob : Option Nat) (ys : List St) : Prop where
  seg : Seg w' 30 3 v ys.length (hcells ys) ob
  own : ∀ g, ob = some g → w.heap.size ≤ g
set_option maxHeartbeats 1000000 in
theorem upto_any (x : St) (b : Nat) (ob : Option Nat) (v : Value) (xs : List St) (h64 : xs.length ≤ 65536) (w : World) (hL : Hm w b v ob xs) :
    Calls Try.prog 9 #[.pointer (some ⟨b, 0, none⟩), .agg #[.int .i64 x.t, .int .i64 x.q, .int .i64 x.a]] w fun e w' =>
      ∃ v' ob' ys, e = .returned v' ∧ Gl w w' v' ob' ys ∧ Pulled b ob xs (fun y => !decide (lt x y)) true ys w' ∧ Turns w w' (fun k => k = b ∨ ob = some k) := by
  have HL := Lib.hid hL
  clear hL
  go_enter Try.func9, Try.ntmps9
  go_wp2_with fail
  refine (while_any _ _ _ _ _).mono ?_
  rintro e w' ⟨rfl, rfl⟩
  go_wp2_with fail
  have hb : b < w.heap.size := HL.out.row.lt
  have hob := HL.out.seg.lt
  have r1 := ((Row.made w 30 #[.int .i64 x.t, .int .i64 x.q, .int .i64 x.a]).alloc (.cells #[.pointer (some ⟨b, 0, none⟩)] 41)).alloc (.cells #[.func (.func 19) #[] #[.pointer (some ⟨w.heap.size, 0, none⟩)]] 31)
  have r2 := (Row.made (w.alloc (.cells #[.int .i64 x.t, .int .i64 x.q, .int .i64 x.a] 30)) 41 #[.pointer (some ⟨b, 0, none⟩)]).alloc (.cells #[.func (.func 19) #[] #[.pointer (some ⟨w.heap.size, 0, none⟩)]] 31)
  have r3 := Row.made ((w.alloc (.cells #[.int .i64 x.t, .int .i64 x.q, .int .i64 x.a] 30)).alloc (.cells #[.pointer (some ⟨b, 0, none⟩)] 41)) 31 #[.func (.func 19) #[] #[.pointer (some ⟨w.heap.size, 0, none⟩)]]
  have hB : Below w.heap.size w (((w.alloc (.cells #[.int .i64 x.t, .int .i64 x.q, .int .i64 x.a] 30)).alloc (.cells #[.pointer (some ⟨b, 0, none⟩)] 41)).alloc (.cells #[.func (.func 19) #[] #[.pointer (some ⟨w.heap.size, 0, none⟩)]] 31)) := by go_grown
  have hs3 : (((w.alloc (.cells #[.int .i64 x.t, .int .i64 x.q, .int .i64 x.a] 30)).alloc (.cells #[.pointer (some ⟨b, 0, none⟩)] 41)).alloc (.cells #[.func (.func 19) #[] #[.pointer (some ⟨w.heap.size, 0, none⟩)]] 31)).heap.size = w.heap.size + 3 := by simp
  simp only [World.size_alloc] at r2 r3
  generalize ((w.alloc (.cells #[.int .i64 x.t, .int .i64 x.q, .int .i64 x.a] 30)).alloc (.cells #[.pointer (some ⟨b, 0, none⟩)] 41)).alloc (.cells #[.func (.func 19) #[] #[.pointer (some ⟨w.heap.size, 0, none⟩)]] 31) = W at r1 r2 r3 hB hs3 ⊢
  have hob2 : ∀ k, w.heap.size ≤ k → ¬ (k = b ∨ ob = some k) := fun k hk => by
    rintro (e | e)
    · omega
    · have := hob k e; omega
  refine (listed_any (w.heap.size + 1) (w.heap.size + 1 + 1) _ _ xs.length h64 (Nx xs) (fun _ _ h => h.1) W (walks_upto x 5 _ _ w.heap.size b ob v xs h64 W.heap.size W.heap.size W ⟨by omega, by omega, fun g hg => by have := hob g hg; omega⟩ (by omega) (by omega) (by omega)
    (hob2 _ (by omega)) (hob2 _ (by omega)) (hob2 _ (Nat.le_refl _)) r2 r3 r1 (HL.out.call hB)) (fun k hk => by rcases hk with e | e; omega; have := hob k e; omega) (fun c => pulled_own _ _ _ _ _ _)).mono ?_
  rintro e w5 ⟨v', ob', ys, rfl, hsg, hown, hpl, htr⟩
  have HG : Hid (Gl w w5 v' ob' ys) := Lib.hid ⟨hsg, fun g hg => by have := hown g hg; omega⟩
  have HT : Hid (Turns w w5 (fun k => k = b ∨ ob = some k)) := Lib.hid (((Turns.of_below hB).mono (S' := fun k => k = b ∨ ob = some k) (fun _ _ h => h.elim)).trans htr (fun _ _ h => h))
  have HP := Lib.hid hpl
  obtain ⟨A', c', rfl, _⟩ := hsg.form
  clear hsg hown hpl htr r1 r2 r3 hB
  go_wp2
  go_ret
  exact ⟨_, ob', ys, rfl, HG.out, HP.out, HT.out⟩
end Go.Proofs.Ytickliklghecgaa.Hp
