/- The Fifo's things, one by one: the copy that is told, and the iterator's contract. -/
import Derived.Test.YtenlnnhhmgjapaaFifoB
import Derived.Lib.SliceRun
import Derived.RangeFuncNested
import Derived.RangeFuncBound
import Derived.RangeFuncCalls
import Derived.RangeFuncLeaves
import Derived.RangeFuncFrom
import Derived.Shelf.Abstract
import Derived.OwnWalkIn
import Derived.TacticsInMore
import Derived.LoopNIn
import Derived.LoopIn
import Derived.Deep.OwnRows
namespace Go.Proofs.Ytenlnnhhmgjapaa.Fifo
open Go.RowKit Go.Proofs.Ytenlnnhhmgjapaa
set_option linter.unusedVariables false
attribute [local go_sem] Oper.semAt_some

set_option maxHeartbeats 1000000 in
theorem awake_any (w : World) : Calls Try.prog 13 #[] w fun e w' => e = .returned (.bool true) ∧ Below w.heap.size w w' := by
  go_enter Try.func13, Try.ntmps13
  go_wp2_with fail
  refine (new_any 1 _ (by decide) (by decide)).mono ?_
  rintro e w1 ⟨rfl, rfl⟩
  have h0 := new_ff w (roomV 1)
  have hz : w.heap.size < (w.alloc (.cells #[.int .i64 (roomV 1), .slice none 0 0] 96)).heap.size := by simp
  have b0 : Below w.heap.size w (w.alloc (.cells #[.int .i64 (roomV 1), .slice none 0 0] 96)) := (Below.refl _ w).alloc (Nat.le_refl _) _
  have H0 := Lib.hid h0
  have B0 := Lib.hid b0
  have Z0 := Lib.hid hz
  clear h0 b0 hz
  generalize w.alloc (.cells #[.int .i64 (roomV 1), .slice none 0 0] 96) = w0 at H0 B0 Z0 ⊢
  go_wp2_with fail
  refine (push_yes w.heap.size (roomV 1) [] none 7 _ H0.out (by decide) (by decide)).mono ?_
  rintro e w1 ⟨rfl, ob1, h1, t1, o1⟩
  have H1 := Lib.hid h1
  have B1 := Lib.hid (t1.below B0.out (by have := Z0.out; omega) (fun k hk e => by rcases e with e | e; omega; cases e))
  have O1 : Hid (∀ k, ob1 = some k → w.heap.size ≤ k) := by
    intro k hk
    rcases o1 with h | h | ⟨g, h, hg⟩
    · rw [h] at hk; cases hk
    · rw [h] at hk; cases hk
    · rw [h] at hk; cases hk; have := Z0.out; omega
  have Z1 : Hid (w.heap.size < w1.heap.size) := Nat.lt_of_lt_of_le Z0.out t1.size
  clear h1 t1 o1
  go_wp2_with fail
  refine (push_no w.heap.size (roomV 1) [7] ob1 8 _ H1.out (by decide)).mono ?_
  rintro e w' ⟨rfl, rfl⟩
  go_wp2_with fail
  refine (pop_yes w.heap.size (roomV 1) 7 [] ob1 _ H1.out (by decide)).mono ?_
  rintro e w2 ⟨rfl, ob2, h2, t2, o2⟩
  have H2 := Lib.hid h2
  have B2 := Lib.hid (t2.below B1.out (by have := Z1.out; omega) (fun k hk e => by
    rcases e with e | e
    · omega
    · have := O1.out k e; omega))
  clear h2 t2 o2
  go_wp2_with fail
  refine (len_any w.heap.size (roomV 1) [] ob2 _ H2.out).mono ?_
  rintro e w' ⟨rfl, rfl⟩
  go_wp2
  go_ret
  exact ⟨rfl, B2.out⟩

set_option maxRecDepth 100000 in
set_option maxHeartbeats 800000 in
theorem cloneI_any (v : Value) (zs : List Int) (ob : Option Nat) (w : World) (h : Seg w 3 1 v zs.length (zs.map (Value.int .i64)) ob) (hp : 0 < zs.length) (hl : zs.length ≤ 1000000) :
    Calls Try.prog 68 #[v] w fun e w' => ∃ v' ob', e = .returned v' ∧ Seg w' 3 1 v' zs.length (zs.map (Value.int .i64)) ob' ∧ (∀ g, ob' = some g → w.heap.size ≤ g) ∧ Below w.heap.size w w' := by
  have q22 : ∀ (w : World) (a : Option Addr) (n c n' c' : Nat), (binOp .eql 22 (.slice a n c) (.slice none n' c')).run Try.prog w = .ok (.bool a.isNone) w := fun w a n c n' c' => Lib.run_eql_slice_nil w _ _ a n c n' c' Try.underlying22
  obtain ⟨i0, hi0, hz0, hz1, hz2⟩ := info_parts int_info
  obtain ⟨g, o, cap, rfl, ho, h1, h2, h3, _⟩ := h.shape hp
  have hnews : ∀ j u, (zs.map (Value.int .i64))[j]? = some u → (w.alloc (.cells #[] 3)).cell? ((⟨g, o, none⟩ : Addr).add j) = some u := fun j u hj => by
    rw [Addr.add_lit]; exact Lib.cell?_alloc_some _ (h3 j u hj)
  have HN := Lib.hid hnews
  have hone : ∀ u ∈ zs.map (Value.int .i64), u.oneCell' = true := fun u hu => by
    obtain ⟨z, _, rfl⟩ := List.mem_map.1 hu; rfl
  have HO := Lib.hid hone
  have hlen : (zs.map (Value.int .i64)).length = zs.length * 1 := by simp
  have HLN := Lib.hid hlen
  clear h h3 hnews hone hlen h2
  go_enter Try.func68, Try.ntmps68
  go_wp2_with (at_builtin; refine wpList_append_seg _ rfl _ _ 22 rfl 3 i0 _ 1 8 Try.underlying22 hi0 hz0 hz1 hz2 rfl (by decide) _ 0 [] none rfl (seg_none _ _ _) ⟨g, o, none⟩ zs.length cap (zs.map (Value.int .i64)) rfl HLN.out HN.out HO.out hp (by unfold maxLen; omega) (by omega) ?_; intro v1 w1 ob1 hs1 ht1 ho1)
  go_ret
  refine ⟨v1, ob1, rfl, by simpa using hs1, fun g' hg' => ?_, ht1.below (by go_grown) (by simp) (fun _ _ e => by cases e)⟩
  rcases ho1 with h | ⟨g2, h, hg2⟩
  · rw [h] at hg'; cases hg'
  · rw [h] at hg'; injection hg' with hg'; subst hg'; simp at hg2; omega
theorem all_in (F : Fence) (n : Nat) (hF : F.fn 17) (hro : F.round = none) (p : Option Addr) (w : World) :
    CallsIn F n Try.prog 17 #[.pointer p] w fun e w' => e = .returned (.func (.func 67) #[] #[.pointer (some ⟨w.heap.size, 0, none⟩)]) ∧ w' = w.alloc (.cells #[.pointer p] 24) := by
  refine callsIn_of_wp Try.func17 rfl hF ?_ hro
  simp only [Try.ntmps17, List.size_toArray, List.length_cons, List.length_nil, Nat.reduceAdd, Nat.reduceSub, Array.replicate_succ, Array.replicate_zero, List.push_toArray, List.append_toArray, List.nil_append, List.cons_append]
  gi_wp2
  go_ret
  exact ⟨rfl, rfl⟩
/-- What the round keeps: every row of cells but that of one block. -/
def KpT (b : Nat) (W W' : World) : Prop := W.heap.size ≤ W'.heap.size ∧ ∀ k o, W.heap[k]? = some o → o.isCells = true → k ≠ b → W'.heap[k]? = some o
theorem kpT_t {b : Nat} {A B C : World} (h : KpT b A B) (k : KpT b B C) : KpT b A C := ⟨Nat.le_trans h.1 k.1, fun i o hi ho hn => k.2 i o (h.2 i o hi ho hn) ho hn⟩
theorem kpT_b {b : Nat} (W : World) (l : Nat) (o o' : Obj) (h : W.heap[l]? = some o) (hc : o.isCells = false) : KpT b W (W.putObj l o') :=
  ⟨by simp, fun k o'' hk ho _ => by
    by_cases e : k = l
    · subst e; rw [h] at hk; cases hk; rw [hc] at ho; cases ho
    · exact (World.putObj_heap_other e).trans hk⟩
theorem kpT_set (b : Nat) (W : World) (i : Nat) (v : Value) : KpT b W (W.setCell ⟨b, i, none⟩ v) :=
  ⟨by simp, fun k o hk _ hn => (heap_setCell_other W _ k v hn).trans hk⟩
theorem KpT.row {b : Nat} {W W' : World} (h : KpT b W W') {g : Nat} {t : TypeId} {cs : Array Value} (hr : Row W g t cs) (hn : g ≠ b) : Row W' g t cs := h.2 g _ hr rfl hn
theorem KpT.seg {b : Nat} {W W' : World} (h : KpT b W W') {e : TypeId} {size n : Nat} {v : Value} {xs : List Value} {ob : Option Nat} (hs : Seg W e size v n xs ob) (hn : ∀ g, ob = some g → g ≠ b) : Seg W' e size v n xs ob := by
  obtain ⟨h0, A, cap, hv, h1, h2, h3⟩ := hs
  refine ⟨h0, A, cap, hv, h1, h2, ?_⟩
  rcases h3 with h3 | ⟨g, o, cur, a1, a2, a3, a4, a5⟩
  · exact .inl h3
  · exact .inr ⟨g, o, cur, a1, a2, h.2 g _ a3 rfl (hn g a2), a4, a5⟩
set_option maxRecDepth 100000 in
set_option maxHeartbeats 1000000 in
theorem all1_in (n : Nat) (hn : 1 ≤ n) (l Bn b room aB : Nat) (zs : List Int) (ob : Option Nat) (hz : zs.length ≤ 1000000) (J Jx : List Int → World → Prop) (W : World) (hJ : AbidesFrom W.heap.size J)
    (hY : ∀ pre x W1, J pre W1 → pre.length < zs.length → YieldAt Fence.wide (n - 1) Try.prog l #[.int .i64 x] W1 fun e W' =>
      (e = .returned (.bool true) ∧ J (pre ++ [x]) W' ∧ KpT aB W1 W') ∨ (e = .returned (.bool false) ∧ Jx (pre ++ [x]) W'))
    (hBn : W.cell? ⟨Bn, 0, none⟩ = some (.pointer (some ⟨b, 0, none⟩))) (hL : Ff W b room zs ob) (haB : aB < W.heap.size) (h0 : J [] W) :
    CallsIn Fence.wide n Try.prog 67 #[.func (.yield l) #[] #[], .pointer (some ⟨Bn, 0, none⟩)] W fun e W' => (∃ v, e = .returned v) ∧
      ((∃ ys, ys = zs ∧ J ys W') ∨ (∃ pre, pre <+: zs ∧ Jx pre W')) := by
  have HL := Lib.hid hL
  obtain ⟨v, hrow, hs⟩ := hL
  have c1 : W.cell? ⟨b, 1, none⟩ = some v := (hrow.cell 1).trans rfl
  have HS := Lib.hid hs
  obtain ⟨A0, cap0, rfl, _, _⟩ := hs.form
  have hF : ∀ k, Fence.wide.fn k := fun _ => trivial
  clear hrow hs
  refine callsIn_of_wp Try.func67 rfl trivial ?_ rfl
  simp only [Try.ntmps67, List.size_toArray, List.length_cons, List.length_nil, Nat.reduceAdd, Nat.reduceSub, Array.replicate_succ, Array.replicate_zero, List.push_toArray, List.append_toArray, List.nil_append, List.cons_append]
  rcases Nat.eq_zero_or_pos zs.length with hz0 | hp
  · obtain rfl : zs = [] := List.eq_nil_of_length_eq_zero hz0
    gi_wp2_with (gi_at_call 18; refine (callsIn_wide.2 (len_any b room [] ob _ HL.out)).mono ?_; rintro e w' ⟨rfl, rfl⟩)
    refine bodyPost_ret (results_none rfl _ _ _) rfl ?_
    exact ⟨⟨_, rfl⟩, .inl ⟨[], rfl, h0⟩⟩
  · have hne : ((zs.length : Int) == 0) = false := by rw [beq_eq_false_iff_ne]; omega
    gi_wp2_with (first
      | (gi_at_call 18; refine (callsIn_wide.2 (len_any b room zs ob _ HL.out)).mono ?_; rintro e w' ⟨rfl, rfl⟩)
      | (gi_at_call 68; refine (callsIn_wide.2 (cloneI_any _ zs ob _ HS.out hp hz)).mono ?_; rintro e W2 ⟨v2, ob2, rfl, hs2, hob2, hb2⟩; obtain ⟨g2, o2, cap2, rfl, ho2, _, _, h32, _⟩ := hs2.shape hp; have HS2 := Lib.hid hs2; clear hs2))
    have hJ2 : J [] W2 := hJ [] W W2 none h0 (grown_of_below hb2) (fun r e => by cases e)
    have hg2 : g2 ≠ aB := by have := hob2 g2 ho2; omega
    have HO2 := Lib.hid ho2
    clear h32 hob2 ho2
    gi_loopw [14] (fun s wr => ∃ (pre : List Int), pre <+: zs ∧ s = .int .i64 pre.length ∧ Hid (Seg wr 3 1 (.slice (some ⟨g2, o2, none⟩) zs.length cap2) zs.length (zs.map (Value.int .i64)) ob2) ∧ J pre wr) (fun s _ => zs.length - (intOf s).toNat)
    case atStart => exact ⟨[], ⟨zs, rfl⟩, rfl, HS2.out, hJ2⟩
    case round =>
      obtain ⟨pre, hpre, rfl, hsr, hJs⟩ := hrel
      have hle := hpre.length_le
      by_cases hlt : pre.length < zs.length
      · have hcx : wr.cell? ⟨g2, o2 + pre.length, none⟩ = some (.int .i64 (zs[pre.length])) := by
          obtain ⟨g3, o3, cap3, e3, _, _, _, h33, _⟩ := hsr.out.shape hp
          injection e3 with e3 _ _
          injection e3 with e3
          injection e3 with e3 e4
          subst e3 e4
          exact h33 _ _ (by simp [hlt])
        obtain ⟨x, hx⟩ : ∃ x, x = zs[pre.length] := ⟨_, rfl⟩
        rw [← hx] at hcx
        have hpre2 : pre ++ [x] <+: zs := by
          obtain ⟨t, rfl⟩ := hpre
          cases t with
          | nil => simp at hlt
          | cons y t =>
            have : x = y := by rw [hx]; simp
            subst this
            exact ⟨t, by simp⟩
        obtain ⟨fn, tmps, assign, body, hy, hR⟩ := hY pre x wr hJs hlt
        have HP2 := Lib.hid hpre2
        clear hx hpre2
        gi_wp2
        refine hR.mono ?_
        rintro e W3 (⟨rfl, hJ3, hk3⟩ | ⟨rfl, hJx3⟩)
        · gi_wp2
          go_roundw
          case rel => exact ⟨pre ++ [x], HP2.out, by simp, hk3.seg hsr.out (fun g e => by rw [HO2.out] at e; cases e; exact hg2), hJ3⟩
          case measure => simp [intOf]; omega
        · gi_wp2
          refine bodyPost_ret (results_none rfl _ _ _) rfl ?_
          exact ⟨⟨_, rfl⟩, .inr ⟨pre ++ [x], HP2.out, hJx3⟩⟩
      · have e : pre = zs := hpre.eq_of_length (by omega)
        subst e
        clear hlt
        gi_wp2
        go_end0
        exact ⟨⟨_, rfl⟩, .inl ⟨pre, rfl, hJs⟩⟩
theorem all_stops (n : Nat) (hn : 1 ≤ n) (Bn b room aB : Nat) (zs : List Int) (ob : Option Nat) (hz : zs.length ≤ 1000000) (w : World) (haB : aB < w.heap.size)
    (hBn : w.cell? ⟨Bn, 0, none⟩ = some (.pointer (some ⟨b, 0, none⟩))) (hL : Ff w b room zs ob) :
    SeqStopsK Fence.wide n Try.prog 67 #[.pointer (some ⟨Bn, 0, none⟩)] (fun x : Int => #[Value.int .i64 x]) (KpT aB) (fun ys => ys = zs) (fun pre => pre <+: zs) zs.length w := fun l J Jx W hW hJ _ hY h0 =>
  all1_in n hn l Bn b room aB zs ob hz J Jx W hJ hY ((hW.cell (p := ⟨Bn, 0, none⟩) (World.block_lt_of_cell? w ⟨Bn, 0, none⟩ hBn)).trans hBn)
    (Ff.turns hL (Turns.of_below hW) (fun h => h) (fun _ _ h => h)) (Nat.lt_of_lt_of_le haB hW.size) h0
end Go.Proofs.Ytenlnnhhmgjapaa.Fifo
