/- The iterators of a map; keys that are numbers (written by gen_omx). -/
import Derived.Test.YtnibmfijkbfaeaaOmV
namespace Go.Proofs.Ytnibmfijkbfaeaa.Om
open Go.RowKit Go.Proofs.Ytnibmfijkbfaeaa
set_option linter.unusedVariables false
set_option linter.unusedSimpArgs false
set_option maxRecDepth 100000
attribute [local go_sem] Oper.semAt_some
open Key (lt)
theorem yieldAt_any {n n' : Nat} {P : Program} {l : Nat} {args : Array Value} {W : World} {R : Ending → World → Prop} (h : YieldAt Fence.wide n P l args W R) : YieldAt Fence.wide n' P l args W R := by
  obtain ⟨fn, tmps, a, b, h1, h2⟩ := h
  exact ⟨fn, tmps, a, b, h1, roundIn_any h2⟩
/-- What is told: all of a list, or its first ones. -/
def FstL {α : Type} (L : List α) (c : Bool) (ys : List α) : Prop := if c then ys = L else ys <+: L
def NxtL {α : Type} (L : List α) (pre : List α) (x : α) : Prop := pre ++ [x] <+: L
theorem NxtL.of {α : Type} {L a b : List α} {x : α} (h : L = a ++ x :: b) : NxtL L ([] ++ a) x := ⟨b, by rw [h]; simp⟩
/-- A map's pointer (nil: no map), and its top. -/
def MpV (M : TypeId) (P : Own) (w : World) (mv p : Value) : Prop := (∃ b, mv = .pointer (some ⟨b, 0, none⟩) ∧ P b ∧ Row w b M #[p]) ∨ (mv = .pointer none ∧ p = .pointer none)
theorem MpV.isPtr {M : TypeId} {P : Own} {w : World} {mv p : Value} (h : MpV M P w mv p) : ∃ q, mv = .pointer q := by
  rcases h with ⟨b, h, _⟩ | ⟨h, _⟩
  · exact ⟨_, h⟩
  · exact ⟨_, h⟩
theorem MpV.hold {M : TypeId} {P : Own} {w W : World} {mv p : Value} (h : MpV M P w mv p) (hW : Hold P w W) : MpV M P W mv p := by
  rcases h with ⟨b, h, hb, hr⟩ | h
  · exact .inl ⟨b, h, hb, hW.row hb hr⟩
  · exact .inr h
theorem Wk.tel {α : Type} {P : Own} {w0 : World} {B : Nat} {J Jx : Own → List α → World → Prop} {O : Own} {L : List α} {e : Ending} {W' : World} (h : Wk P w0 B J Jx O ([] ++ L) e W') : (∃ ys, (FstL L true ys ∧ J O ys W') ∨ (FstL L false ys ∧ Jx O ys W')) := by
  obtain ⟨_, _, ⟨rfl, h⟩ | ⟨rfl, ys, hp, h⟩⟩ := h
  · exact ⟨_, .inl ⟨rfl, h⟩⟩
  · exact ⟨ys, .inr ⟨hp, h⟩⟩

theorem tree_i (P : Own) (mv p : Value) (w : World) (h : MpV 26 P w mv p) : Calls Try.prog 23 #[mv] w fun e w' => e = .returned p ∧ w = w' := by
  rcases h with ⟨b, rfl, _, hr⟩ | ⟨rfl, rfl⟩
  · have c0 : w.cell? ⟨b, 0, none⟩ = some p := (hr.cell 0).trans rfl
    clear hr
    go_enter Try.func23, Try.ntmps23
    go_wp2
    go_ret
    exact ⟨rfl, rfl⟩
  · go_enter Try.func23, Try.ntmps23
    go_wp2
    go_ret
    exact ⟨rfl, rfl⟩
set_option maxHeartbeats 1000000 in
theorem alltel_i (P : Own) (Bm : Nat) (mv p : Value) (t : Tr Int Int) (w : World) (hPc : Cells P w) (hm : P Bm) (rm : Row w Bm 47 #[mv]) (hv : MpV 26 P w mv p) (ht : TmPI P w t p) (n : Nat) :
    Tel 0 Fence.wide n Try.prog 33 #[.pointer (some ⟨Bm, 0, none⟩)] encI P (FstL t.toL) (NxtL t.toL) w := fun l J Jx O0 W hW hJ hJx hY h0 => by
  refine callsIn_any (n := 60) ?_
  obtain ⟨q, rfl⟩ := hv.isPtr
  have c0 : W.cell? ⟨Bm, 0, none⟩ = some (.pointer q) := ((hW.row hm rm).cell 0).trans rfl
  have HT := Lib.hid (tree_i P _ p W (hv.hold hW))
  have HA := Lib.hid (all_y_i l P W.heap.size J Jx hJ (NxtL t.toL) w hPc (fun O pre x W1 hj hg _ hB => yieldAt_any (hY O pre x W1 hj hg hB)) t p [] O0 W ht hW (Nat.le_refl _) h0 (fun a x b e => NxtL.of e))
  obtain ⟨q2, rfl⟩ := ht.isPtr
  have hF : ∀ k, Fence.wide.fn k := fun _ => trivial
  clear hW hJ hJx hY h0 hPc rm hv ht
  refine callsIn_of_wp_marks Try.func33 rfl trivial ?_ rfl
  simp only [Try.ntmps33, List.size_toArray, List.length_cons, List.length_nil, Nat.reduceAdd, Nat.reduceSub, Array.replicate_succ, Array.replicate_zero, List.push_toArray, List.append_toArray, List.nil_append, List.cons_append]
  gi_wp2_with (first
    | (gi_at_call 23; refine (callsIn_wide.2 HT.out).mono ?_; rintro e w' ⟨rfl, rfl⟩)
    | (gi_at_call 34; refine (callsIn_any HA.out).mono ?_; rintro e W1 hk; obtain ⟨v, rfl⟩ : ∃ v, e = .returned v := (by obtain ⟨_, _, ⟨h, _⟩ | ⟨h, _⟩⟩ := hk <;> exact ⟨_, h⟩); have HK := Lib.hid hk.tel; clear hk)
    | fail)
  obtain ⟨ys, h⟩ := HK.out
  exact ⟨_, results_none rfl _ _ _, ⟨_, rfl⟩, O0, ys, h⟩
theorem allmk_i (q : Option Addr) (w : World) : Calls Try.prog 16 #[.pointer q] w fun e w' => e = .returned (.func (.func 33) #[] #[.pointer (some ⟨w.heap.size, 0, none⟩)]) ∧ w' = w.alloc (.cells #[.pointer q] 47) := by
  go_enter Try.func16, Try.ntmps16
  go_wp2
  go_ret
  exact ⟨rfl, rfl⟩

set_option maxHeartbeats 1000000 in
theorem fromtel_i (P : Own) (Bm Bk : Nat) (k : Int) (mv p : Value) (t : Tr Int Int) (w : World) (hPc : Cells P w) (hm : P Bm) (hk : P Bk) (rm : Row w Bm 47 #[mv]) (rk : Row w Bk 3 #[.int .i64 k]) (hv : MpV 26 P w mv p) (ht : TmPI P w t p) (n : Nat) :
    Tel 0 Fence.wide n Try.prog 35 #[.pointer (some ⟨Bm, 0, none⟩), .pointer (some ⟨Bk, 0, none⟩)] encI P (FstL (frm k t)) (NxtL (frm k t)) w := fun l J Jx O0 W hW hJ hJx hY h0 => by
  refine callsIn_any (n := 60) ?_
  obtain ⟨q, rfl⟩ := hv.isPtr
  have hWd : Hold P w W.drew := hW.trans (Hold.below (Below.refl _ W).drew)
  have c0 : W.drew.cell? ⟨Bm, 0, none⟩ = some (.pointer q) := ((hWd.row hm rm).cell 0).trans rfl
  have c1 : W.drew.cell? ⟨Bk, 0, none⟩ = some (.int .i64 k) := ((hWd.row hk rk).cell 0).trans rfl
  have HT := Lib.hid (tree_i P _ p W.drew (hv.hold hWd))
  have HA := Lib.hid (from_y_i k l P W.heap.size J Jx hJ (NxtL (frm k t)) w hPc (fun O pre x W1 hj hg _ hB => yieldAt_any (hY O pre x W1 hj hg hB)) t p [] O0 W.drew ht hWd (Nat.le_refl _) (hJ.grow h0 (Below.refl _ W).drew) (fun a x b e => NxtL.of e))
  obtain ⟨q2, rfl⟩ := ht.isPtr
  clear hW hJ hJx hY h0 hPc rm hv ht hWd rk
  have hF : ∀ k, Fence.wide.fn k := fun _ => trivial
  have hro : Fence.wide.round = none := rfl
  refine callsIn_of_wp_marks Try.func35 rfl trivial ?_ rfl
  simp only [Try.ntmps35, List.size_toArray, List.length_cons, List.length_nil, Nat.reduceAdd, Nat.reduceSub, Array.replicate_succ, Array.replicate_zero, List.push_toArray, List.append_toArray, List.nil_append, List.cons_append]
  refine wpIn_mono ?_ NoPanic.imp
  refine wpIn_region_any (by kernel_rfl) ?_
  try (change wpAnyIn _ _ _ _ _ _ _ _ _ (World.drew _))
  refine take_in hro 3 7 _ (v := ?vq1_3) rfl rfl (by kernel_rfl) (by kernel_rfl) (by kernel_rfl) (fun _ _ _ h => h) ⟨Or.inl ⟨by rfl, ?hyq1_3⟩, fun _ => rfl⟩ ?restq1_3
  case hyq1_3 =>
    intro wX
    go_simp
    first
    | done
    | (with_reducible rfl)
  try simp only [Act.put, List.setIfInBounds_toArray, List.set_cons_zero, List.set_cons_succ]
  refine wpAnyIn_ready (rs := [0, 2]) (by kernel_rfl) (by simp) ?_
  refine AllReadyIn.cons rfl (fun K hK => ?_) (AllReadyIn.cons rfl (fun K hK => ?_) AllReadyIn.nil)
  · go_simp
    refine hK _ _ ?_
    clear hK K
    try simp only [Act.put, List.setIfInBounds_toArray, List.set_cons_zero, List.set_cons_succ]
    refine wpAnyIn_ready (rs := [1, 2]) (by kernel_rfl) (by simp) ?_
    refine AllReadyIn.cons rfl (fun K hK => ?_) (AllReadyIn.cons rfl (fun K hK => ?_) AllReadyIn.nil)
    · go_simp
      gi_wp2_with (gi_at_call 23; refine (callsIn_wide.2 HT.out).mono ?_; rintro e w' ⟨rfl, rfl⟩)
      · skip
        try (refine hK _ _ ?_)
        try clear hK K
        try simp only [Act.put, List.setIfInBounds_toArray, List.set_cons_zero, List.set_cons_succ]
        refine wpAnyIn_ready (rs := [2]) (by kernel_rfl) (by simp) ?_
        refine AllReadyIn.cons rfl (fun K hK => ?_) AllReadyIn.nil
        go_simp
        refine hK _ _ ?_
        clear hK K
        try simp only [Act.put, List.setIfInBounds_toArray, List.set_cons_zero, List.set_cons_succ]
        refine wpAnyIn_ready (rs := [4]) (by kernel_rfl) (by simp) ?_
        refine AllReadyIn.cons rfl (fun K hK => ?_) AllReadyIn.nil
        go_simp
        gi_wp2_with (gi_at_call 36; refine (callsIn_any HA.out).mono ?_; rintro e W1 hk; obtain ⟨v, rfl⟩ : ∃ v, e = .returned v := (by obtain ⟨_, _, ⟨h, _⟩ | ⟨h, _⟩⟩ := hk <;> exact ⟨_, h⟩); have HK := Lib.hid hk.tel; clear hk)
        · skip
          try (refine hK _ _ ?_)
          try clear hK K
          try simp only [Act.put, List.setIfInBounds_toArray, List.set_cons_zero, List.set_cons_succ]
          refine wpAnyIn_done (by kernel_rfl) ?_ _
          refine NoPanic.normal ?_
          gi_wp2
          obtain ⟨ys, h⟩ := HK.out
          exact ⟨_, results_none rfl _ _ _, ⟨_, rfl⟩, O0, ys, h⟩
    · go_simp
      refine hK _ _ ?_
      clear hK K
      try simp only [Act.put, List.setIfInBounds_toArray, List.set_cons_zero, List.set_cons_succ]
      refine wpAnyIn_ready (rs := [1]) (by kernel_rfl) (by simp) ?_
      refine AllReadyIn.cons rfl (fun K hK => ?_) AllReadyIn.nil
      go_simp
      gi_wp2_with (gi_at_call 23; refine (callsIn_wide.2 HT.out).mono ?_; rintro e w' ⟨rfl, rfl⟩)
      · skip
        try (refine hK _ _ ?_)
        try clear hK K
        try simp only [Act.put, List.setIfInBounds_toArray, List.set_cons_zero, List.set_cons_succ]
        refine wpAnyIn_ready (rs := [4]) (by kernel_rfl) (by simp) ?_
        refine AllReadyIn.cons rfl (fun K hK => ?_) AllReadyIn.nil
        go_simp
        gi_wp2_with (gi_at_call 36; refine (callsIn_any HA.out).mono ?_; rintro e W1 hk; obtain ⟨v, rfl⟩ : ∃ v, e = .returned v := (by obtain ⟨_, _, ⟨h, _⟩ | ⟨h, _⟩⟩ := hk <;> exact ⟨_, h⟩); have HK := Lib.hid hk.tel; clear hk)
        · skip
          try (refine hK _ _ ?_)
          try clear hK K
          try simp only [Act.put, List.setIfInBounds_toArray, List.set_cons_zero, List.set_cons_succ]
          refine wpAnyIn_done (by kernel_rfl) ?_ _
          refine NoPanic.normal ?_
          gi_wp2
          obtain ⟨ys, h⟩ := HK.out
          exact ⟨_, results_none rfl _ _ _, ⟨_, rfl⟩, O0, ys, h⟩
  · go_simp
    refine hK _ _ ?_
    clear hK K
    try simp only [Act.put, List.setIfInBounds_toArray, List.set_cons_zero, List.set_cons_succ]
    refine wpAnyIn_ready (rs := [0]) (by kernel_rfl) (by simp) ?_
    refine AllReadyIn.cons rfl (fun K hK => ?_) AllReadyIn.nil
    go_simp
    refine hK _ _ ?_
    clear hK K
    try simp only [Act.put, List.setIfInBounds_toArray, List.set_cons_zero, List.set_cons_succ]
    refine wpAnyIn_ready (rs := [1]) (by kernel_rfl) (by simp) ?_
    refine AllReadyIn.cons rfl (fun K hK => ?_) AllReadyIn.nil
    go_simp
    gi_wp2_with (gi_at_call 23; refine (callsIn_wide.2 HT.out).mono ?_; rintro e w' ⟨rfl, rfl⟩)
    · skip
      try (refine hK _ _ ?_)
      try clear hK K
      try simp only [Act.put, List.setIfInBounds_toArray, List.set_cons_zero, List.set_cons_succ]
      refine wpAnyIn_ready (rs := [4]) (by kernel_rfl) (by simp) ?_
      refine AllReadyIn.cons rfl (fun K hK => ?_) AllReadyIn.nil
      go_simp
      gi_wp2_with (gi_at_call 36; refine (callsIn_any HA.out).mono ?_; rintro e W1 hk; obtain ⟨v, rfl⟩ : ∃ v, e = .returned v := (by obtain ⟨_, _, ⟨h, _⟩ | ⟨h, _⟩⟩ := hk <;> exact ⟨_, h⟩); have HK := Lib.hid hk.tel; clear hk)
      · skip
        try (refine hK _ _ ?_)
        try clear hK K
        try simp only [Act.put, List.setIfInBounds_toArray, List.set_cons_zero, List.set_cons_succ]
        refine wpAnyIn_done (by kernel_rfl) ?_ _
        refine NoPanic.normal ?_
        gi_wp2
        obtain ⟨ys, h⟩ := HK.out
        exact ⟨_, results_none rfl _ _ _, ⟨_, rfl⟩, O0, ys, h⟩
theorem frommk_i (q : Option Addr) (k : Int) (w : World) : Calls Try.prog 17 #[.pointer q, .int .i64 k] w fun e w' => e = .returned (.func (.func 35) #[] #[.pointer (some ⟨w.heap.size, 0, none⟩), .pointer (some ⟨w.heap.size + 1, 0, none⟩)]) ∧ w' = (w.alloc (.cells #[.pointer q] 47)).alloc (.cells #[.int .i64 k] 3) := by
  go_enter Try.func17, Try.ntmps17
  go_wp2
  go_ret
  exact ⟨rfl, rfl⟩
end Go.Proofs.Ytnibmfijkbfaeaa.Om
