/- The iterators of a map; keys that are texts (written by gen_omx). -/
import Derived.Test.YtnibmfijkbfaeaaOmU
import Derived.Test.YtnibmfijkbfaeaaOmX
namespace Go.Proofs.Ytnibmfijkbfaeaa.Om
open Go.RowKit Go.Proofs.Ytnibmfijkbfaeaa
set_option linter.unusedVariables false
set_option linter.unusedSimpArgs false
set_option maxRecDepth 100000
attribute [local go_sem] Oper.semAt_some
open Key (lt)

theorem tree_s (P : Own) (mv p : Value) (w : World) (h : MpV 52 P w mv p) : Calls Try.prog 39 #[mv] w fun e w' => e = .returned p ∧ w = w' := by
  rcases h with ⟨b, rfl, _, hr⟩ | ⟨rfl, rfl⟩
  · have c0 : w.cell? ⟨b, 0, none⟩ = some p := (hr.cell 0).trans rfl
    clear hr
    go_enter Try.func39, Try.ntmps39
    go_wp2
    go_ret
    exact ⟨rfl, rfl⟩
  · go_enter Try.func39, Try.ntmps39
    go_wp2
    go_ret
    exact ⟨rfl, rfl⟩
set_option maxHeartbeats 1000000 in
theorem alltel_s (P : Own) (Bm : Nat) (mv p : Value) (t : Tr ByteArray Int) (w : World) (hPc : Cells P w) (hm : P Bm) (rm : Row w Bm 62 #[mv]) (hv : MpV 52 P w mv p) (ht : TmPS P w t p) (n : Nat) :
    Tel 0 Fence.wide n Try.prog 48 #[.pointer (some ⟨Bm, 0, none⟩)] encS P (FstL t.toL) (NxtL t.toL) w := fun l J Jx O0 W hW hJ hJx hY h0 => by
  refine callsIn_any (n := 60) ?_
  obtain ⟨q, rfl⟩ := hv.isPtr
  have c0 : W.cell? ⟨Bm, 0, none⟩ = some (.pointer q) := ((hW.row hm rm).cell 0).trans rfl
  have HT := Lib.hid (tree_s P _ p W (hv.hold hW))
  have HA := Lib.hid (all_y_s l P W.heap.size J Jx hJ (NxtL t.toL) w hPc (fun O pre x W1 hj hg _ hB => yieldAt_any (hY O pre x W1 hj hg hB)) t p [] O0 W ht hW (Nat.le_refl _) h0 (fun a x b e => NxtL.of e))
  obtain ⟨q2, rfl⟩ := ht.isPtr
  have hF : ∀ k, Fence.wide.fn k := fun _ => trivial
  clear hW hJ hJx hY h0 hPc rm hv ht
  refine callsIn_of_wp_marks Try.func48 rfl trivial ?_ rfl
  simp only [Try.ntmps48, List.size_toArray, List.length_cons, List.length_nil, Nat.reduceAdd, Nat.reduceSub, Array.replicate_succ, Array.replicate_zero, List.push_toArray, List.append_toArray, List.nil_append, List.cons_append]
  gi_wp2_with (first
    | (gi_at_call 39; refine (callsIn_wide.2 HT.out).mono ?_; rintro e w' ⟨rfl, rfl⟩)
    | (gi_at_call 49; refine (callsIn_any HA.out).mono ?_; rintro e W1 hk; obtain ⟨v, rfl⟩ : ∃ v, e = .returned v := (by obtain ⟨_, _, ⟨h, _⟩ | ⟨h, _⟩⟩ := hk <;> exact ⟨_, h⟩); have HK := Lib.hid hk.tel; clear hk)
    | fail)
  obtain ⟨ys, h⟩ := HK.out
  exact ⟨_, results_none rfl _ _ _, ⟨_, rfl⟩, O0, ys, h⟩
theorem allmk_s (q : Option Addr) (w : World) : Calls Try.prog 38 #[.pointer q] w fun e w' => e = .returned (.func (.func 48) #[] #[.pointer (some ⟨w.heap.size, 0, none⟩)]) ∧ w' = w.alloc (.cells #[.pointer q] 62) := by
  go_enter Try.func38, Try.ntmps38
  go_wp2
  go_ret
  exact ⟨rfl, rfl⟩
end Go.Proofs.Ytnibmfijkbfaeaa.Om
