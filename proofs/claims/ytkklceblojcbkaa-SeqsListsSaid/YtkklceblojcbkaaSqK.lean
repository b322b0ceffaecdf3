/- Take of Of's things. -/
import Derived.Test.YtkklceblojcbkaaSqJ
namespace Go.Proofs.Ytkklceblojcbkaa.Sq
open Go.RowKit Go.Proofs.Ytkklceblojcbkaa
set_option linter.unusedVariables false
set_option maxRecDepth 100000
attribute [local go_sem] Oper.semAt_some
set_option maxHeartbeats 1000000 in
theorem take1_of (F : Fence) (n : Nat) (hF : ∀ k, F.fn k) (hro : F.round = none) (hn : 9 ≤ n) (Bk Bs Bn : Nat) (k : Int) (zs : List Int) (A : Option Addr) (cap : Nat) (ob : Option Nat) (w : World) (hz : zs.length ≤ 1000000)
    (hk0 : 0 < k) (hk : Row w Bk 3 #[.int .i64 k])
    (hs : w.cell? ⟨Bs, 0, none⟩ = some (.func (.func 28) #[] #[.pointer (some ⟨Bn, 0, none⟩)])) (hBs : Bs < w.heap.size)
    (hB : w.cell? ⟨Bn, 0, none⟩ = some (.slice A zs.length cap)) (hBn : Bn < w.heap.size) (hS : Seg w 3 1 (.slice A zs.length cap) zs.length (ints zs) ob) :
    Tells 2 5 F n Try.prog 25 #[.pointer (some ⟨Bk, 0, none⟩), .pointer (some ⟨Bs, 0, none⟩)] enc (Kp (fun j => ob = some j ∨ j = Bk) 2) (Firsts (zs.take k.toNat)) (Next (zs.take k.toNat)) w := fun l J Jx W hW hJ hJx hY h0 => by
  have h1 : 1 ≤ n := by omega
  have rk : Row W Bk 3 #[.int .i64 k] := (hW.block Bk hk.lt).trans hk
  have lk : Bk < W.heap.size := rk.lt
  have ck : W.cell? ⟨Bk, 0, none⟩ = some (.int .i64 k) := (rk.cell 0).trans rfl
  have ls : Bs < W.heap.size := Nat.lt_of_lt_of_le hBs hW.size
  have cs : W.cell? ⟨Bs, 0, none⟩ = some (.func (.func 28) #[] #[.pointer (some ⟨Bn, 0, none⟩)]) := (hW.cell (p := ⟨Bs, 0, none⟩) hBs).trans hs
  have cn : W.cell? ⟨Bn, 0, none⟩ = some (.slice A zs.length cap) := (hW.cell (p := ⟨Bn, 0, none⟩) hBn).trans hB
  have ln : Bn < W.heap.size := Nat.lt_of_lt_of_le hBn hW.size
  have sW : Seg W 3 1 (.slice A zs.length cap) zs.length (ints zs) ob := hS.keep fun g hg => hW.block g (hS.lt g hg)
  have HJ := Lib.hid hJ
  have HJX := Lib.hid hJx
  have HY := Lib.hid hY
  have H0 := Lib.hid h0
  have HSW := Lib.hid sW
  have HCN := Lib.hid cn
  have HRK := Lib.hid rk
  clear hW hk hs hB hS sW cn hJ hJx hY h0 hBs hBn rk
  refine callsIn_of_wp_marks Try.func25 rfl (hF _) ?_ hro
  simp only [Try.ntmps25, List.size_toArray, List.length_cons, List.length_nil, Nat.reduceAdd, Nat.reduceSub, Array.replicate_succ, Array.replicate_zero, List.push_toArray, List.append_toArray, List.nil_append, List.cons_append]
  have hk2 : ¬ k ≤ 0 := by omega
  gi_wp2_with (gi_at_call 26; refine (told_in F (n - 1) (hF _) hro _ ⟨_, _, _, .inl rfl⟩ _).mono ?_; rintro e w' ⟨rfl, rfl⟩)
  obtain ⟨V, hV⟩ : ∃ V, ((W.alloc (.cells #[.func (.yield l) #[] #[]] 43)).alloc (.cells #[.int .i64 0] 3)).alloc (.cells #[.func (.func 28) #[] #[.pointer (some ⟨Bn, 0, none⟩)]] 26) = V := ⟨_, rfl⟩
  have bV : Below W.heap.size W V := by rw [← hV]; exact (((Below.refl _ W).alloc (Nat.le_refl _) _).alloc (by simp) _).alloc (by simp; omega) _
  have zV : V.heap.size = W.heap.size + 3 := by rw [← hV]; simp
  have rY : Row V W.heap.size 43 #[.func (.yield l) #[] #[]] := by rw [← hV]; exact ((Row.made W _ _).alloc _).alloc _
  have rC : Row V (W.heap.size + 1) 3 #[.int .i64 0] := by
    rw [← hV]; have := (Row.made (W.alloc (.cells #[.func (.yield l) #[] #[]] 43)) 3 #[.int .i64 0]).alloc (.cells #[.func (.func 28) #[] #[.pointer (some ⟨Bn, 0, none⟩)]] 26)
    rwa [World.size_alloc] at this
  have rS : Row V (W.heap.size + 2) 26 #[.func (.func 28) #[] #[.pointer (some ⟨Bn, 0, none⟩)]] := by
    rw [← hV]; have := Row.made ((W.alloc (.cells #[.func (.yield l) #[] #[]] 43)).alloc (.cells #[.int .i64 0] 3)) 26 #[.func (.func 28) #[] #[.pointer (some ⟨Bn, 0, none⟩)]]
    rwa [World.size_alloc, World.size_alloc] at this
  have sS : Seg V 3 1 (.slice A zs.length cap) zs.length (ints zs) ob := HSW.out.keep fun g hg => bV.block g (HSW.out.lt g hg)
  have cB : V.cell? ⟨Bn, 0, none⟩ = some (.slice A zs.length cap) := (bV.cell (p := ⟨Bn, 0, none⟩) ln).trans HCN.out
  have jV : J [] V := HJ.out [] W V H0.out (.inl ⟨none, grown_of_below bV, fun r e => by cases e⟩)
  have hob : ¬ (ob = some (W.heap.size + 1) ∨ W.heap.size + 1 = Bk) := fun e => by
    rcases e with e | e
    · have := HSW.out.lt _ e; omega
    · omega
  rw [hV]
  have HT := Lib.hid (told1_of F (n - 1) hF hro (by omega) (fun j => ob = some j ∨ j = Bk) (W.heap.size + 2) Bn zs A cap ob V (fun g e => .inl e) hz ((rS.cell 0).trans rfl) (by omega) cB (by omega) sS)
  clear hV rS sS cB
  refine wpIn_rangeTells (m := 0) (d := 3) hro h1 (gf := 39) (lb := #[.pointer (some ⟨W.heap.size + 2, 0, none⟩)]) rfl (hF _) (enters_of Try.func39 (by kernel_rfl) rfl) HT.out
    (Kp := Kp (fun j => ob = some j ∨ j = Bk) 0 (V.heap.size + 2)) (fun h => h) (fun h k => h.trans k) (fun W l o o' _ hB h hc => kp_put W l o o' (by omega) h hc) (Below.refl _ _) (fun _ => rfl)
    (fun pre X => J pre X ∧ Row X W.heap.size 43 #[.func (.yield l) #[] #[]] ∧ Row X (W.heap.size + 1) 3 #[.int .i64 pre.length] ∧ (pre.length : Int) < k ∧ Row X Bk 3 #[.int .i64 k])
    (fun c pre X => c = .ret ∧ ((pre = zs.take k.toNat ∧ J pre X) ∨ (pre <+: zs.take k.toNat ∧ Jx pre X)))
    (fun pre A B row h hg hr => ⟨HJ.out _ _ _ h.1 (.inl ⟨row, hg, fun r e => ⟨by have := (hr r e).1; omega, (hr r e).2⟩⟩), row_kept' h.2.1 hg (fun x e => (hr x e).2), row_kept' h.2.2.1 hg (fun x e => (hr x e).2), h.2.2.2.1, row_kept' h.2.2.2.2 hg (fun x e => (hr x e).2)⟩)
    (fun s A B h t => ⟨HJ.out _ _ _ h.1 (t.mono (by omega)), t.row (by decide) (by omega) h.2.1, t.row (by decide) (by omega) h.2.2.1, h.2.2.2.1, t.row (by decide) (by omega) h.2.2.2.2⟩)
    (fun c pre A B row h hg hr => ⟨h.1, h.2.imp (fun h => ⟨h.1, HJ.out _ _ _ h.2 (.inl ⟨row, hg, fun r e => ⟨by have := (hr r e).1; omega, (hr r e).2⟩⟩)⟩) (fun h => ⟨h.1, HJX.out _ _ _ h.2 (.inl ⟨row, hg, fun r e => ⟨by have := (hr r e).1; omega, (hr r e).2⟩⟩)⟩)⟩)
    (fun c s A B h t => ⟨h.1, h.2.imp (fun h => ⟨h.1, HJ.out _ _ _ h.2 (t.mono (by omega))⟩) (fun h => ⟨h.1, HJX.out _ _ _ h.2 (t.mono (by omega))⟩)⟩)
    ⟨jV, rY, rC, hk0, (bV.block Bk lk).trans HRK.out⟩ ?round ?done ?stop
  case round =>
    intro l2 pre x X0 hl hI hnx hsz
    have hpl : pre.length + 1 ≤ zs.length := by simpa using List.IsPrefix.length_le hnx
    rw [put1]
    simp only [List.setIfInBounds_toArray, List.set_cons_succ, List.set_cons_zero]
    gi_wp2
    refine ⟨(KeepsOthers.refl _).from _, Kp.refl _ _ _ _, fun o o' ho hlo => ?_⟩
    have hg := grownBy_putObj' X0 l2 o'
    have hr : ∀ r, some l2 = some r → ∃ o : Obj, X0.heap[r]? = some o ∧ o.isCells = false := fun r e => by injection e with e; subst e; exact ⟨o, hlo, ho⟩
    have j1 : J pre (X0.putObj l2 o') := HJ.out _ _ _ hI.1 (.inl ⟨_, hg, fun r e => ⟨by injection e with e; omega, hr r e⟩⟩)
    have y1 := row_kept' hI.2.1 hg hr
    have c1 := row_kept' hI.2.2.1 hg hr
    have k1 := row_kept' hI.2.2.2.2 hg hr
    have hlt := hI.2.2.2.1
    have hs1 : V.heap.size + 4 ≤ (X0.putObj l2 o').heap.size := by simpa using hsz
    clear hI hg hr hlo hsz
    generalize X0.putObj l2 o' = X at j1 y1 c1 k1 hs1 ⊢
    have x0 : X.cell? ⟨W.heap.size + 1, 0, none⟩ = some (.int .i64 pre.length) := (c1.cell 0).trans rfl
    have f0 : X.frozen? ⟨W.heap.size + 1, 0, none⟩ = false := frozen_of_row _ _ _ _ _ c1
    have x1 : X.cell? ⟨W.heap.size, 0, none⟩ = some (.func (.yield l) #[] #[]) := (y1.cell 0).trans rfl
    have hnt : Next (zs.take k.toNat) pre x := by
      have h1 : pre ++ [x] <+: zs := hnx
      exact List.prefix_take_iff.2 ⟨h1, by simp; omega⟩
    have j2 : J pre (X.setCell ⟨W.heap.size + 1, 0, none⟩ (.int .i64 ((pre.length : Int) + 1))) := HJ.out _ _ _ j1 (.inr (.inr ⟨_, _, by omega, by omega, rfl⟩))
    have c2 := Row.put c1 0 (.int .i64 ((pre.length : Int) + 1))
    have y2 := Row.past y1 (p := ⟨W.heap.size + 1, 0, none⟩) (by simp) (.int .i64 ((pre.length : Int) + 1))
    have k2 := Row.past k1 (p := ⟨W.heap.size + 1, 0, none⟩) (by simp; omega) (.int .i64 ((pre.length : Int) + 1))
    have kp2 : Kp (fun j => ob = some j ∨ j = Bk) 0 (V.heap.size + 2) X (X.setCell ⟨W.heap.size + 1, 0, none⟩ (.int .i64 ((pre.length : Int) + 1))) := kp_set c1 (by decide) (by decide) hob (by omega) _ _
    obtain ⟨fn, tmps, assign, body, hy, hR⟩ := HY.out pre x _ j2 hnt (by simp; omega)
    unfold enc at hy
    rw [show n - 5 = n - 1 - 3 - 1 by omega] at hR
    have hlt2 : (pre ++ [x]).length ≤ k.toNat := by simp; omega
    gi_wp2
    refine ⟨fun _ => by omega, (show RoundIn (F.inRound l2) (n - 1 - 3 - 1) Try.prog l fn tmps assign body _ _ from hR).mono ?_⟩
    rintro e W3 ⟨hk3, ⟨rfl, hj3⟩ | ⟨rfl, hj3⟩⟩
    · have c3 : Row W3 (W.heap.size + 1) 3 #[.int .i64 ((pre.length : Int) + 1)] := hk3.2 _ _ _ c2 (.inr (.inr (.inr (by omega))))
      have y3 : Row W3 W.heap.size 43 #[.func (.yield l) #[] #[]] := hk3.2 _ _ _ y2 (.inr (.inl rfl))
      have k3 : Row W3 Bk 3 #[.int .i64 k] := hk3.2 _ _ _ k2 (.inr (.inr (.inl (.inr rfl))))
      have x3 : W3.cell? ⟨W.heap.size + 1, 0, none⟩ = some (.int .i64 ((pre.length : Int) + 1)) := (c3.cell 0).trans rfl
      have x4 : W3.cell? ⟨Bk, 0, none⟩ = some (.int .i64 k) := (k3.cell 0).trans rfl
      have kpF := kp2.trans (hk3.less (b' := V.heap.size + 2) (by omega))
      have kfF : KeepsFrom V.heap.size X W3 := ((KeepsOthers.setCell X ⟨W.heap.size + 1, 0, none⟩ (.int .i64 ((pre.length : Int) + 1))).from V.heap.size).trans (hk3.less (b' := V.heap.size) (by omega)).1
      by_cases he : (pre.length : Int) + 1 = k
      · gi_wp2
        refine ⟨kfF, kpF, rfl, .inl ⟨?_, hj3⟩⟩
        have h1 : pre ++ [x] <+: zs.take k.toNat := hnt
        refine h1.eq_of_length ?_
        have h2 := h1.length_le
        simp at h2 ⊢
        omega
      · gi_wp2
        refine ⟨kfF, kpF, hj3, y3, ?_, ?_, k3⟩
        · simpa using c3
        · simp; omega
    · have kpF := kp2.trans (hk3.less (b' := V.heap.size + 2) (by omega))
      have kfF : KeepsFrom V.heap.size X W3 := ((KeepsOthers.setCell X ⟨W.heap.size + 1, 0, none⟩ (.int .i64 ((pre.length : Int) + 1))).from V.heap.size).trans (hk3.less (b' := V.heap.size) (by omega)).1
      gi_wp2
      exact ⟨kfF, kpF, rfl, .inr ⟨hnt, hj3⟩⟩
  case done =>
    intro D xs W2 hD hS hI hK
    have e : xs = zs := hS
    subst e
    have e2 : xs.take k.toNat = xs := List.take_of_length_le (by have := hI.2.2.2.1; omega)
    refine ⟨by simp, .inl ⟨_, _, rfl, run_takeDeferred hK, ?_⟩⟩
    exact ⟨_, results_none rfl _ _ _, ⟨_, rfl⟩, xs, .inl ⟨e2.symm, HJ.out _ _ _ hI.1 (.inl ⟨some D, grownBy_putObj' W2 D _, fun r e => by injection e with e; subst e; exact ⟨by omega, _, hK, rfl⟩⟩)⟩⟩
  case stop =>
    intro D c pre W2 hD hS hI hK
    obtain ⟨rfl, hI⟩ := hI
    refine wpIn_ret ?_
    refine ⟨by simp, .inl ⟨_, _, rfl, run_takeDeferred hK, ?_⟩⟩
    have hp : ∀ {J : List Int → World → Prop}, Stab 2 W.heap.size J → J pre W2 → J pre (W2.putObj D (.deferred none)) := fun hJ hj => hJ _ _ _ hj (.inl ⟨some D, grownBy_putObj' W2 D _, fun r e => by injection e with e; subst e; exact ⟨by omega, _, hK, rfl⟩⟩)
    rcases hI with ⟨e, hj⟩ | ⟨e, hj⟩
    · exact ⟨_, results_none rfl _ _ _, ⟨_, rfl⟩, pre, .inl ⟨e, hp HJ.out hj⟩⟩
    · exact ⟨_, results_none rfl _ _ _, ⟨_, rfl⟩, pre, .inr ⟨e, hp HJX.out hj⟩⟩
end Go.Proofs.Ytkklceblojcbkaa.Sq
