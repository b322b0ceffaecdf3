/- Of's things told to told's own ear. -/
import Derived.Test.YtkklceblojcbkaaSqG
namespace Go.Proofs.Ytkklceblojcbkaa.Sq
open Go.RowKit Go.Proofs.Ytkklceblojcbkaa
set_option linter.unusedVariables false
set_option maxRecDepth 100000
attribute [local go_sem] Oper.semAt_some
def ints (zs : List Int) : List Value := zs.map (Value.int .i64)
set_option maxHeartbeats 1000000 in
theorem of1_in (F : Fence) (n : Nat) (hF : ∀ k, F.fn k) (hro : F.round = none) (hn : 1 ≤ n) (a1 a2 : Value) (Bn : Nat) (zs : List Int) (A : Option Addr) (cap : Nat) (ob : Option Nat) (J Jx : List Int → World → Prop) (W : World)
    (hS : ∀ pre wr, J pre wr → Seg wr 3 1 (.slice A zs.length cap) zs.length (ints zs) ob)
    (hB : W.cell? ⟨Bn, 0, none⟩ = some (.slice A zs.length cap)) (hz : zs.length ≤ 1000000)
    (hY : ∀ pre x W1, J pre W1 → pre ++ [x] <+: zs → CallsIn F (n - 1) Try.prog 40 #[.int .i64 x, a1, a2] W1 fun e W' =>
      (e = .returned (.bool true) ∧ J (pre ++ [x]) W') ∨ (e = .returned (.bool false) ∧ Jx (pre ++ [x]) W'))
    (h0 : J [] W) :
    CallsIn F n Try.prog 28 #[.func (.func 40) #[] #[a1, a2], .pointer (some ⟨Bn, 0, none⟩)] W fun e W' => (∃ v, e = .returned v) ∧
      (J zs W' ∨ (∃ pre, pre <+: zs ∧ Jx pre W')) := by
  have HJ := Lib.hid hS
  have HY := Lib.hid hY
  clear hS hY
  refine callsIn_of_wp Try.func28 rfl (hF _) ?_ hro
  simp only [Try.ntmps28, List.size_toArray, List.length_cons, List.length_nil, Nat.reduceAdd, Nat.reduceSub, Array.replicate_succ, Array.replicate_zero, List.push_toArray, List.append_toArray, List.nil_append, List.cons_append]
  gi_wp2
  gi_loopw [7] (fun s wr => ∃ (pre : List Int), pre <+: zs ∧ s = .int .i64 pre.length ∧ J pre wr) (fun s _ => zs.length - (intOf s).toNat)
  case atStart => exact ⟨[], ⟨zs, rfl⟩, rfl, h0⟩
  case round =>
    obtain ⟨pre, hpre, rfl, hJs⟩ := hrel
    have hle := hpre.length_le
    by_cases hlt : pre.length < zs.length
    · obtain ⟨g2, o2, cap2, e2, _, _, _, h33, _⟩ := (HJ.out pre wr hJs).shape (by omega)
      injection e2 with e2 _ e3
      subst e2 e3
      have hcx : wr.cell? ⟨g2, o2 + pre.length, none⟩ = some (.int .i64 (zs[pre.length])) := h33 _ _ (by simp [ints, hlt])
      obtain ⟨x, hx⟩ : ∃ x, x = zs[pre.length] := ⟨_, rfl⟩
      rw [← hx] at hcx
      have hpre2 : pre ++ [x] <+: zs := by
        obtain ⟨t, rfl⟩ := hpre
        cases t with
        | nil => simp at hlt
        | cons y t =>
          have : x = y := by rw [hx]; simp
          subst this
          exact ⟨t, by simp⟩
      have HP2 := Lib.hid hpre2
      clear hx hpre2 h33
      gi_wp2_with (gi_at_call 40; refine (HY.out pre x _ hJs HP2.out).mono ?_; rintro e W3 (⟨rfl, hJ3⟩ | ⟨rfl, hJx3⟩))
      · gi_wp2
        go_roundw
        case rel => exact ⟨pre ++ [x], HP2.out, by simp, hJ3⟩
        case measure => simp [intOf]; omega
      · gi_wp2
        refine bodyPost_ret (results_none rfl _ _ _) rfl ?_
        exact ⟨⟨_, rfl⟩, .inr ⟨pre ++ [x], HP2.out, hJx3⟩⟩
    · have e : pre = zs := hpre.eq_of_length (by omega)
      subst e
      clear hlt
      gi_wp2
      go_end0
      exact ⟨⟨_, rfl⟩, .inl hJs⟩
set_option maxHeartbeats 1000000 in
theorem told11_in (F : Fence) (n : Nat) (hF : ∀ k, F.fn k) (hro : F.round = none) (hn : 1 ≤ n) (x : Int) (A Y l : Nat) (Q : Ending → World → Prop) (W : World)
    (hA : W.cell? ⟨A, 0, none⟩ = some (.bool true)) (hYc : W.cell? ⟨Y, 0, none⟩ = some (.func (.yield l) #[] #[]))
    (hy : YieldAt F (n - 1) Try.prog l #[.int .i64 x] W fun e W' => ∃ b, e = .returned (.bool b) ∧ W'.cell? ⟨A, 0, none⟩ = some (.bool true) ∧ W'.frozen? ⟨A, 0, none⟩ = false ∧ Q (.returned (.bool b)) (W'.setCell ⟨A, 0, none⟩ (.bool b))) :
    CallsIn F n Try.prog 40 #[.int .i64 x, .pointer (some ⟨A, 0, none⟩), .pointer (some ⟨Y, 0, none⟩)] W Q := by
  obtain ⟨fn, tmps, assign, body, hy, hR⟩ := hy
  refine callsIn_of_wp Try.func40 rfl (hF _) ?_ hro
  simp only [Try.ntmps40, List.size_toArray, List.length_cons, List.length_nil, Nat.reduceAdd, Nat.reduceSub, Array.replicate_succ, Array.replicate_zero, List.push_toArray, List.append_toArray, List.nil_append, List.cons_append]
  gi_wp2
  refine hR.mono ?_
  rintro e W' ⟨b, rfl, hA', hfr, hQ⟩
  cases b
  · gi_wp2
    exact hQ
  · gi_wp2
    exact hQ
end Go.Proofs.Ytkklceblojcbkaa.Sq
