/- A lock's calls that turn its line: who asks, and who gives back. -/
import Derived.Test.YtmkofjdmjilpiaaTickA
import Derived.Test.YtmkofjdmjilpiaaApp2
import Derived.StillTailTactics
namespace Go.Proofs.Ytmkofjdmjilpiaa.Tick
open Go.RowKit Go.Proofs.Ytmkofjdmjilpiaa
set_option linter.unusedVariables false

theorem clear_one (w : World) (g o cap : Nat) (u : Value) (hc : w.cell? ⟨g, o, none⟩ = some u) (hf : w.frozen? ⟨g, o, none⟩ = false) : ∀ ty,
    (Builtin.clear_ #[28] ty #[.slice (some ⟨g, o, none⟩) 1 cap]).run Try.prog w = .ok (.tuple #[]) (w.setCell ⟨g, o, none⟩ (.int .i64 0)) := fun ty =>
  Lib.run_clear_slice w _ _ ty _ Try.underlying28 Try.zeroValue3 rfl rfl g o 1 cap (by omega)
    (fun t ht => by
      obtain rfl : t = 0 := by omega
      rw [Nat.add_zero, hc]; rfl)
    (fun t ht => by
      obtain rfl : t = 0 := by omega
      exact hf)
def DelP (w : World) (g : Nat) (r : List Int) (e : Ending) (w' : World) : Prop := ∃ v, e = .returned v ∧ Seg w' 3 1 v r.length (r.map (Value.int .i64)) (some g) ∧ Turns w w' (fun k => k = g)
theorem oneCells (r : List Int) : ∀ u ∈ r.map (Value.int .i64), u.oneCell' = true := by
  intro u hu
  obtain ⟨x, _, rfl⟩ := List.mem_map.1 hu
  rfl
set_option maxRecDepth 100000 in
set_option maxHeartbeats 1000000 in
theorem delete_first (g o cap : Nat) (x : Int) (r : List Int) (w : World) (h : Seg w 3 1 (.slice (some ⟨g, o, none⟩) (x :: r).length cap) (x :: r).length ((x :: r).map (Value.int .i64)) (some g)) :
    Calls Try.prog 62 #[.slice (some ⟨g, o, none⟩) (x :: r).length cap, .int .i64 0, .int .i64 1] w (DelP w g r) := by
  obtain ⟨g', o', cap', hv, _, hn, hcm, hc, hfz⟩ := h.shape (by simp)
  injection hv with e1 _ e3
  injection e1 with e1
  injection e1 with e1 e2
  subst e1 e2 e3
  have hcm' : cap ≤ 9223372036854775807 := by unfold maxLen at hcm; omega
  have hn' : r.length + 1 ≤ cap := by simpa using hn
  have HS := Lib.hid h
  have hlen : (x :: r).length = r.length + 1 := rfl
  rw [hlen]
  clear hcm h hc hfz hn hlen
  obtain ⟨i0, hi0, hz0, hz1, hz2⟩ := info_parts int_info
  by_cases hc1 : cap = 1
  · obtain rfl : r = [] := List.eq_nil_of_length_eq_zero (by omega)
    subst hc1
    go_enter Try.func62, Try.ntmps62
    go_wp2
    go_still_tail 6, (by kernel_rfl)
    change wpList _ _ _ _ _ w.drew
    have D0 : Seg w.drew 3 1 (.slice (some ⟨g, o, none⟩) 1 1) 1 [.int .i64 x] (some g) := HS.out
    have T0 : Turns w w.drew (fun k => k = g) := (Turns.refl w _).drewN 1
    generalize w.drew = wd at D0 T0 ⊢
    obtain ⟨⟨u, c0⟩, f0⟩ := D0.spare (j := 0) (by omega)
    rw [Nat.add_zero] at c0 f0
    have hcl := clear_one wd g o 1 _ c0 f0
    have HD := Lib.hid D0
    have HT := Lib.hid T0
    clear D0 T0
    go_wp2_with (at_builtin; refine wpList_append_none rfl _ _ 28 rfl i0 Try.underlying28 hi0 rfl (by omega) _ _ rfl ?_)
    go_ret
    exact ⟨_, rfl, (HD.out.head (k := 0) (by omega)).beyond o (by omega) _, HT.out.put g o _ (fun _ => rfl)⟩
  · rcases Nat.eq_zero_or_pos r.length with h0 | h0
    · obtain rfl : r = [] := List.eq_nil_of_length_eq_zero h0
      clear h0
      go_enter Try.func62, Try.ntmps62
      go_wp2
      go_still_tail 6, (by kernel_rfl)
      change wpList _ _ _ _ _ w.drew
      have D0 : Seg w.drew 3 1 (.slice (some ⟨g, o, none⟩) 1 cap) 1 [.int .i64 x] (some g) := HS.out
      have T0 : Turns w w.drew (fun k => k = g) := (Turns.refl w _).drewN 1
      generalize w.drew = wd at D0 T0 ⊢
      obtain ⟨⟨u, c0⟩, f0⟩ := D0.spare (j := 0) (by omega)
      rw [Nat.add_zero] at c0 f0
      have hcl := clear_one wd g o cap _ c0 f0
      have HD := Lib.hid D0
      have HT := Lib.hid T0
      clear D0 T0
      go_wp2_with (at_builtin; refine wpList_append_none rfl _ _ 28 rfl i0 Try.underlying28 hi0 rfl (by omega) _ _ rfl ?_)
      go_ret
      exact ⟨_, rfl, (HD.out.head (k := 0) (by omega)).beyond o (by omega) _, HT.out.put g o _ (fun _ => rfl)⟩
    · have l1 : (1 : Int) ≤ (r.length : Int) + 1 := by omega
      have l2 : 1 ≤ r.length + 1 := by omega
      go_enter Try.func62, Try.ntmps62
      go_wp2
      go_still_tail 6, (by kernel_rfl)
      change wpList _ _ _ _ _ w.drew
      have D0 : Seg w.drew 3 1 (.slice (some ⟨g, o, none⟩) (r.length + 1) cap) (r.length + 1) ((x :: r).map (Value.int .i64)) (some g) := HS.out
      have T0 : Turns w w.drew (fun k => k = g) := (Turns.refl w _).drewN 1
      generalize w.drew = wd at D0 T0 ⊢
      have hN : ∀ j u, (r.map (Value.int .i64))[j]? = some u → wd.cell? ((⟨g, o + 1, none⟩ : Addr).add j) = some u := by
        obtain ⟨g', o', cap', hv, _, _, _, hc, _⟩ := D0.shape (by omega)
        injection hv with e1 _ e3
        injection e1 with e1
        injection e1 with e1 e2
        subst e1 e2
        intro j u hj
        rw [Addr.add_lit]
        simpa [Nat.add_assoc, Nat.add_comm 1] using hc (j + 1) u (by simpa using hj)
      have HD := Lib.hid D0
      have HT := Lib.hid T0
      have HN := Lib.hid hN
      have hone := oneCells r
      have HO := Lib.hid hone
      clear D0 T0 hN hone
      go_wp2_with (at_builtin; refine wpList_append_room_seg rfl _ _ 28 rfl i0 Try.underlying28 hi0 hz1 rfl (HD.out.head (k := 0) (by omega)) (by omega) ⟨g, o + 1, none⟩ r.length _ (r.map (Value.int .i64)) rfl (by simp) HN.out HO.out (by omega) ?_; intro w2 hs2 ht2; simp only [Nat.zero_add, Nat.zero_mul, List.take_zero, List.nil_append] at hs2; obtain ⟨⟨u, c2⟩, f2⟩ := hs2.spare (j := r.length) (by omega); have hcl := clear_one w2 g (o + r.length) (cap - r.length) u c2 f2; have HS2 := Lib.hid hs2; have HT2 := Lib.hid ht2; clear hs2 ht2)
      go_ret
      exact ⟨_, rfl, HS2.out.beyond (o + r.length) (by omega) _, (HT.out.trans HT2.out (fun k _ e => by injection e with e; exact e.symm)).put g (o + r.length) _ (fun _ => rfl)⟩
end Go.Proofs.Ytmkofjdmjilpiaa.Tick
