/- seqs' iterators, of nothing (written by gen_sq). -/
import Derived.Test.YtkklceblojcbkaaSqA
namespace Go.Proofs.Ytkklceblojcbkaa.Sq
open Go.RowKit Go.Proofs.Ytkklceblojcbkaa
set_option linter.unusedVariables false
set_option maxRecDepth 100000
attribute [local go_sem] Oper.semAt_some
theorem row_new {W : World} {g : Nat} {t : TypeId} {v : Value} (hg : g = W.heap.size) : (W.alloc (.cells #[v] t)).cell? ⟨g, 0, none⟩ = some v := by
  subst hg
  exact ((Row.made W t #[v]).cell 0).trans rfl
theorem skip_nil (F : Fence) (n : Nat) (hF : ∀ k, F.fn k) (hro : F.round = none) (hn : 4 ≤ n) (C : Nat) (B : Nat) (w : World) (hC : C < w.heap.size) (dC : w.cell? ⟨C, 0, none⟩ = some .nilFunc) (hB : B < w.heap.size) (kB : Int) (dB : w.cell? ⟨B, 0, none⟩ = some (.int .i64 kB)) : Silent F n 29 #[.pointer (some ⟨C, 0, none⟩), .pointer (some ⟨B, 0, none⟩)] w := fun fn b1 b2 W hW => by
  have h1 : 1 ≤ n := by omega
  have cC : W.cell? ⟨C, 0, none⟩ = some .nilFunc := (hW.cell (p := ⟨C, 0, none⟩) hC).trans dC
  have lC : C < W.heap.size := Nat.lt_of_lt_of_le hC hW.size
  have cB : W.cell? ⟨B, 0, none⟩ = some (.int .i64 kB) := (hW.cell (p := ⟨B, 0, none⟩) hB).trans dB
  have lB : B < W.heap.size := Nat.lt_of_lt_of_le hB hW.size
  refine callsIn_of_wp_marks Try.func29 rfl (hF _) ?_ hro
  simp only [Try.ntmps29, List.size_toArray, List.length_cons, List.length_nil, Nat.reduceAdd, Nat.reduceSub, Array.replicate_succ, Array.replicate_zero, List.push_toArray, List.append_toArray, List.nil_append, List.cons_append]
  clear dC dB hW
  gi_wp2_with (gi_at_call 26; refine (told_in F (n - 1) (hF _) hro .nilFunc ⟨.func 0, #[], #[], .inr rfl⟩ _).mono ?_; rintro e w' ⟨rfl, rfl⟩)
  refine wpIn_range_silent hro h1 rfl (hF _) (enters_of Try.func39 (by kernel_rfl) rfl) (told_nil F (n - 1) (hF _) hro _ _ (by simp) (row_new (by simp))) ?_
  intro D W2 hD hb hK
  have hb0 : Below W.heap.size W W2 := ((((Below.refl _ W).alloc (by first | exact Nat.le_refl _ | (simp; done) | (simp; omega)) _).alloc (by first | exact Nat.le_refl _ | (simp; done) | (simp; omega)) _).alloc (by first | exact Nat.le_refl _ | (simp; done) | (simp; omega)) _).trans (hb.mono (by simp; try omega))
  have hDW : W.heap.size ≤ D := by simp at hD; omega
  refine ⟨by simp, .inl ⟨_, _, rfl, run_takeDeferred hK, ?_⟩⟩
  exact ⟨_, results_none rfl _ _ _, ⟨_, rfl⟩, hb0.trans (belowK_b (w := W) (Nat.le_refl _) W2 D _ _ hDW hK rfl rfl)⟩
theorem numb_nil (F : Fence) (n : Nat) (hF : ∀ k, F.fn k) (hro : F.round = none) (hn : 4 ≤ n) (C : Nat) (w : World) (hC : C < w.heap.size) (dC : w.cell? ⟨C, 0, none⟩ = some .nilFunc) : Silent F n 33 #[.pointer (some ⟨C, 0, none⟩)] w := fun fn b1 b2 W hW => by
  have h1 : 1 ≤ n := by omega
  have cC : W.cell? ⟨C, 0, none⟩ = some .nilFunc := (hW.cell (p := ⟨C, 0, none⟩) hC).trans dC
  have lC : C < W.heap.size := Nat.lt_of_lt_of_le hC hW.size
  refine callsIn_of_wp_marks Try.func33 rfl (hF _) ?_ hro
  simp only [Try.ntmps33, List.size_toArray, List.length_cons, List.length_nil, Nat.reduceAdd, Nat.reduceSub, Array.replicate_succ, Array.replicate_zero, List.push_toArray, List.append_toArray, List.nil_append, List.cons_append]
  clear dC hW
  gi_wp2_with (gi_at_call 26; refine (told_in F (n - 1) (hF _) hro .nilFunc ⟨.func 0, #[], #[], .inr rfl⟩ _).mono ?_; rintro e w' ⟨rfl, rfl⟩)
  refine wpIn_range_silent hro h1 rfl (hF _) (enters_of Try.func39 (by kernel_rfl) rfl) (told_nil F (n - 1) (hF _) hro _ _ (by simp) (row_new (by simp))) ?_
  intro D W2 hD hb hK
  have hb0 : Below W.heap.size W W2 := ((((Below.refl _ W).alloc (by first | exact Nat.le_refl _ | (simp; done) | (simp; omega)) _).alloc (by first | exact Nat.le_refl _ | (simp; done) | (simp; omega)) _).alloc (by first | exact Nat.le_refl _ | (simp; done) | (simp; omega)) _).trans (hb.mono (by simp; try omega))
  have hDW : W.heap.size ≤ D := by simp at hD; omega
  refine ⟨by simp, .inl ⟨_, _, rfl, run_takeDeferred hK, ?_⟩⟩
  exact ⟨_, results_none rfl _ _ _, ⟨_, rfl⟩, hb0.trans (belowK_b (w := W) (Nat.le_refl _) W2 D _ _ hDW hK rfl rfl)⟩
theorem numb_in (F : Fence) (n : Nat) (hF : F.fn 19) (hro : F.round = none) (w : World) :
    CallsIn F n Try.prog 19 #[.nilFunc] w fun e w' => e = .returned (.func (.func 33) #[] #[.pointer (some ⟨w.heap.size, 0, none⟩)]) ∧ w' = w.alloc (.cells #[.nilFunc] 26) := by
  refine callsIn_of_wp Try.func19 rfl hF ?_ hro
  simp only [Try.ntmps19, List.size_toArray, List.length_cons, List.length_nil, Nat.reduceAdd, Nat.reduceSub, Array.replicate_succ, Array.replicate_zero, List.push_toArray, List.append_toArray, List.nil_append, List.cons_append]
  gi_wp2
  go_ret
  exact ⟨rfl, rfl⟩
theorem once_nil (F : Fence) (n : Nat) (hF : ∀ k, F.fn k) (hro : F.round = none) (hn : 4 ≤ n) (C : Nat) (w : World) (hC : C < w.heap.size) (dC : w.cell? ⟨C, 0, none⟩ = some .nilFunc) : Silent F n 34 #[.pointer (some ⟨C, 0, none⟩)] w := fun fn b1 b2 W hW => by
  have h1 : 1 ≤ n := by omega
  have cC : W.cell? ⟨C, 0, none⟩ = some .nilFunc := (hW.cell (p := ⟨C, 0, none⟩) hC).trans dC
  have lC : C < W.heap.size := Nat.lt_of_lt_of_le hC hW.size
  refine callsIn_of_wp_marks Try.func34 rfl (hF _) ?_ hro
  simp only [Try.ntmps34, List.size_toArray, List.length_cons, List.length_nil, Nat.reduceAdd, Nat.reduceSub, Array.replicate_succ, Array.replicate_zero, List.push_toArray, List.append_toArray, List.nil_append, List.cons_append]
  clear dC hW
  have hmm := @run_makeMap Try.prog
  have b1 : ∀ o : Obj, (W.alloc o).cell? ⟨C, 0, none⟩ = some .nilFunc := fun o => (((Below.refl W.heap.size W).alloc (Nat.le_refl _) o).cell (p := ⟨C, 0, none⟩) lC).trans cC
  have b2 : ∀ o o2 : Obj, ((W.alloc o).alloc o2).cell? ⟨C, 0, none⟩ = some .nilFunc := fun o o2 => ((((Below.refl W.heap.size W).alloc (Nat.le_refl _) o).alloc (by simp) o2).cell (p := ⟨C, 0, none⟩) lC).trans cC
  have b3 : ∀ o o2 o3 : Obj, (((W.alloc o).alloc o2).alloc o3).cell? ⟨C, 0, none⟩ = some .nilFunc := fun o o2 o3 => (((((Below.refl W.heap.size W).alloc (Nat.le_refl _) o).alloc (by simp) o2).alloc (by simp; omega) o3).cell (p := ⟨C, 0, none⟩) lC).trans cC
  gi_wp2_with (gi_at_call 26; refine (told_in F (n - 1) (hF _) hro .nilFunc ⟨.func 0, #[], #[], .inr rfl⟩ _).mono ?_; rintro e w' ⟨rfl, rfl⟩)
  refine wpIn_range_silent hro h1 rfl (hF _) (enters_of Try.func39 (by kernel_rfl) rfl) (told_nil F (n - 1) (hF _) hro _ _ (by simp) (row_new (by simp))) ?_
  intro D W2 hD hb hK
  have hb0 : Below W.heap.size W W2 := (((((Below.refl _ W).alloc (by first | exact Nat.le_refl _ | (simp; done) | (simp; omega)) _).alloc (by first | exact Nat.le_refl _ | (simp; done) | (simp; omega)) _).alloc (by first | exact Nat.le_refl _ | (simp; done) | (simp; omega)) _).alloc (by first | exact Nat.le_refl _ | (simp; done) | (simp; omega)) _).trans (hb.mono (by simp; try omega))
  have hDW : W.heap.size ≤ D := by simp at hD; omega
  refine ⟨by simp, .inl ⟨_, _, rfl, run_takeDeferred hK, ?_⟩⟩
  exact ⟨_, results_none rfl _ _ _, ⟨_, rfl⟩, hb0.trans (belowK_b (w := W) (Nat.le_refl _) W2 D _ _ hDW hK rfl rfl)⟩
theorem chun_nil (F : Fence) (n : Nat) (hF : ∀ k, F.fn k) (hro : F.round = none) (hn : 4 ≤ n) (C : Nat) (B : Nat) (w : World) (hC : C < w.heap.size) (dC : w.cell? ⟨C, 0, none⟩ = some .nilFunc) (hB : B < w.heap.size) (kB : Int) (dB : w.cell? ⟨B, 0, none⟩ = some (.int .i64 kB)) : Silent F n 31 #[.pointer (some ⟨C, 0, none⟩), .pointer (some ⟨B, 0, none⟩)] w := fun fn b1 b2 W hW => by
  have h1 : 1 ≤ n := by omega
  have cC : W.cell? ⟨C, 0, none⟩ = some .nilFunc := (hW.cell (p := ⟨C, 0, none⟩) hC).trans dC
  have lC : C < W.heap.size := Nat.lt_of_lt_of_le hC hW.size
  have cB : W.cell? ⟨B, 0, none⟩ = some (.int .i64 kB) := (hW.cell (p := ⟨B, 0, none⟩) hB).trans dB
  have lB : B < W.heap.size := Nat.lt_of_lt_of_le hB hW.size
  refine callsIn_of_wp_marks Try.func31 rfl (hF _) ?_ hro
  simp only [Try.ntmps31, List.size_toArray, List.length_cons, List.length_nil, Nat.reduceAdd, Nat.reduceSub, Array.replicate_succ, Array.replicate_zero, List.push_toArray, List.append_toArray, List.nil_append, List.cons_append]
  clear dC dB hW
  gi_wp2_with (gi_at_call 26; refine (told_in F (n - 1) (hF _) hro .nilFunc ⟨.func 0, #[], #[], .inr rfl⟩ _).mono ?_; rintro e w' ⟨rfl, rfl⟩)
  refine wpIn_range_silent hro h1 rfl (hF _) (enters_of Try.func39 (by kernel_rfl) rfl) (told_nil F (n - 1) (hF _) hro _ _ (by simp) (row_new (by simp))) ?_
  intro D W2 hD hb hK
  have e0 : W2.cell? ⟨W.heap.size + 1, 0, none⟩ = some (.slice none 0 0) := (hb.cell (p := ⟨W.heap.size + 1, 0, none⟩) (by simp; try omega)).trans (by
    have r0 := ((Row.made (W.alloc (.cells #[.func fn b1 b2] 55)) 22 #[.slice none 0 0]).alloc (.cells #[.nilFunc] 26)).cell 0
    rw [World.size_alloc] at r0
    exact r0.trans rfl)
  gi_wp2
  have hb0 : Below W.heap.size W W2 := ((((Below.refl _ W).alloc (by first | exact Nat.le_refl _ | (simp; done) | (simp; omega)) _).alloc (by first | exact Nat.le_refl _ | (simp; done) | (simp; omega)) _).alloc (by first | exact Nat.le_refl _ | (simp; done) | (simp; omega)) _).trans (hb.mono (by simp; try omega))
  have hDW : W.heap.size ≤ D := by simp at hD; omega
  refine ⟨by simp, .inl ⟨_, _, rfl, run_takeDeferred hK, ?_⟩⟩
  exact ⟨_, results_none rfl _ _ _, ⟨_, rfl⟩, hb0.trans (belowK_b (w := W) (Nat.le_refl _) W2 D _ _ hDW hK rfl rfl)⟩
theorem step_nil (F : Fence) (n : Nat) (hF : ∀ k, F.fn k) (hro : F.round = none) (hn : 5 ≤ n) (C : Nat) (w : World) (hC : C < w.heap.size) (dC : w.cell? ⟨C, 0, none⟩ = some .nilFunc) : Silent F n 32 #[.pointer (some ⟨C, 0, none⟩)] w := fun fn b1 b2 W hW => by
  have h1 : 1 ≤ n := by omega
  have cC : W.cell? ⟨C, 0, none⟩ = some .nilFunc := (hW.cell (p := ⟨C, 0, none⟩) hC).trans dC
  have lC : C < W.heap.size := Nat.lt_of_lt_of_le hC hW.size
  refine callsIn_of_wp_marks Try.func32 rfl (hF _) ?_ hro
  simp only [Try.ntmps32, List.size_toArray, List.length_cons, List.length_nil, Nat.reduceAdd, Nat.reduceSub, Array.replicate_succ, Array.replicate_zero, List.push_toArray, List.append_toArray, List.nil_append, List.cons_append]
  clear dC hW
  gi_wp2_with (gi_at_call 19; refine (numb_in F (n - 1) (hF _) hro _).mono ?_; rintro e w' ⟨rfl, rfl⟩)
  refine wpIn_range_silent hro h1 rfl (hF _) (enters_of Try.func33 (by kernel_rfl) rfl) (numb_nil F (n - 1) hF hro (by omega) _ _ (by simp) (row_new (by simp))) ?_
  intro D W2 hD hb hK
  have hb0 : Below W.heap.size W W2 := ((((Below.refl _ W).alloc (by first | exact Nat.le_refl _ | (simp; done) | (simp; omega)) _).alloc (by first | exact Nat.le_refl _ | (simp; done) | (simp; omega)) _).alloc (by first | exact Nat.le_refl _ | (simp; done) | (simp; omega)) _).trans (hb.mono (by simp; try omega))
  have hDW : W.heap.size ≤ D := by simp at hD; omega
  refine ⟨by simp, .inl ⟨_, _, rfl, run_takeDeferred hK, ?_⟩⟩
  exact ⟨_, results_none rfl _ _ _, ⟨_, rfl⟩, hb0.trans (belowK_b (w := W) (Nat.le_refl _) W2 D _ _ hDW hK rfl rfl)⟩
end Go.Proofs.Ytkklceblojcbkaa.Sq
