/- The walk of the law MarkLeast. -/
import Derived.Test.YtmkofjdmjilpiaaMarkB
import Derived.Test.YtmkofjdmjilpiaaBits
namespace Go.Proofs.Ytmkofjdmjilpiaa.Mark
open Go.RowKit Go.Proofs.Ytmkofjdmjilpiaa
set_option linter.unusedVariables false

def markOf (x : Int) : Int := if bits .and .i64 x 768 = 0 then 0 else x % 256 + 1
theorem markOf_lo (x : Int) : 0 ≤ markOf x ∧ markOf x ≤ 256 := by unfold markOf; split <;> omega
/-- The least of the first k; 0 if there are none. -/
def lm (f : Nat → Int) (k : Nat) : Int := if k = 0 then 0 else mn f k
theorem lm_pos (f : Nat → Int) (k : Nat) (h : k ≠ 0) : lm f k = mn f k := if_neg h
theorem lm_succ (f : Nat → Int) (k : Nat) : lm f (k + 1) = if k = 0 ∨ f k < lm f k then f k else lm f k := by
  rw [lm_pos f (k + 1) (by omega)]
  rcases Nat.eq_zero_or_pos k with rfl | h
  · simp [mn]
  · have h0 : k ≠ 0 := by omega
    rw [lm_pos f k h0]
    simp only [h0, false_or]
    rfl
theorem lm_three (f : Nat → Int) (k : Nat) (M : Int) (hM : f k = M) : (k = 0 ∧ lm f (k + 1) = M) ∨ (k ≠ 0 ∧ M < lm f k ∧ lm f (k + 1) = M) ∨ (k ≠ 0 ∧ lm f k ≤ M ∧ lm f (k + 1) = lm f k) := by
  have h := lm_succ f k
  rw [hM] at h
  by_cases h0 : k = 0
  · exact .inl ⟨h0, by rw [h, if_pos (.inl h0)]⟩
  by_cases h1 : M < lm f k
  · exact .inr (.inl ⟨h0, h1, by rw [h, if_pos (.inr h1)]⟩)
  · exact .inr (.inr ⟨h0, by omega, by rw [h, if_neg (by omega)]⟩)
theorem lm_lo (f : Nat → Int) (a b : Int) (h0 : a ≤ 0 ∧ 0 ≤ b) (h : ∀ k, a ≤ f k ∧ f k ≤ b) (k : Nat) : a ≤ lm f k ∧ lm f k ≤ b := by
  unfold lm
  split
  · exact h0
  · exact mn_lo f a b k (by omega) (fun j _ => h j) k (Nat.le_refl _)
theorem mark_info : (Try.prog.info? 33).map (fun i => (i.zero, i.size, i.bytes)) = some (some (.agg #[.int .i64 0]), 1, 8) := by kernel_rfl
theorem one_newsM (w : World) (x : Value) (a : Nat) (ha : w.heap.size = a) : ∀ j u, [x][j]? = some u → (w.alloc (.cells #[x] 33)).cell? ((⟨a, 0, none⟩ : Addr).add j) = some u := by
  subst ha
  intro j u hj
  match j, hj with
  | 0, hj => simp at hj; subst hj; simp [Addr.add]
/-- What holds between two rounds. -/
structure LI (w0 w : World) (f : Nat → Int) (k : Nat) (v : Value) : Prop where
  sg : ∃ ob, Seg w 33 1 v k ((List.range k).map (fun j => Value.int .i64 (f j))) ob ∧ ∀ g, ob = some g → w0.heap.size ≤ g
  be : Below w0.heap.size w0 w
section
variable {w0 w W W2 : World} {f : Nat → Int} {k : Nat} {v v' : Value} {ob ob' : Option Nat}
theorem LI.more (hs : Seg W2 33 1 v' (k + 1) ((List.range k).map (fun j => Value.int .i64 (f j)) ++ [.int .i64 (f k)]) ob') (ht : Turns W W2 (fun k => ob = some k)) (ho : ob' = ob ∨ ∃ g, ob' = some g ∧ W.heap.size ≤ g)
    (hob : ∀ g, ob = some g → w0.heap.size ≤ g) (hb : Below w0.heap.size w0 W) : LI w0 W2 f (k + 1) v' := by
  have hz := hb.size
  refine ⟨⟨ob', ?_, fun g hg => ?_⟩, ht.below hb hb.size (fun j hj e => ?_)⟩
  · rw [List.range_succ, List.map_append]; exact hs
  · rcases ho with h | ⟨g', h, h'⟩
    · exact hob g (by rw [← h, hg])
    · rw [h] at hg; injection hg with hg; omega
  · have := hob j e; omega
end
theorem least_seg (f : Nat → Int) (k : Nat) (v : Value) (ob : Option Nat) (w : World) (hs : Seg w 33 1 v k ((List.range k).map (fun j => Value.int .i64 (f j))) ob) (hk : k ≤ 20) (hf : ∀ k, 0 ≤ f k ∧ f k ≤ 1099511627777) :
    Calls Try.prog 24 #[v] w fun e w' => e = .returned (.agg #[.int .i64 (lm f k)]) ∧ Below w.heap.size w w' := by
  rcases Nat.eq_zero_or_pos k with rfl | h
  · obtain ⟨A, cap, rfl, _, _⟩ := hs.form
    exact least_none cap A w
  · obtain ⟨g, o, cap, rfl, hg, _, _, hc, _⟩ := hs.shape h
    rw [lm_pos f k (by omega)]
    exact least_some _ k cap f w (fun j hj => ⟨g, o, rfl, hs.lt g hg, hc j _ (by simp [hj])⟩) h (by omega) (fun j _ => hf j)
theorem markOf_all (f : Nat → Int) (k : Nat) : 0 ≤ markOf (f k) ∧ markOf (f k) ≤ 1099511627777 := by have := markOf_lo (f k); omega
set_option maxRecDepth 100000 in
set_option maxHeartbeats 4000000 in
theorem least_law (A : Option Addr) (n c : Nat) (f : Nat → Int) (ln : n ≤ c) (lc : c ≤ 9223372036854775807) (lb : ∀ k, -9223372036854775808 ≤ f k ∧ f k ≤ 9223372036854775807) {w : World} (lies : Lies w w.heap.size A n (fun k => .int .i64 (f k))) :
    Calls Try.prog 6 #[.slice A n c] w fun e w' => e = .returned (.bool true) ∧ Below w.heap.size w w' := by
  have HL := Lib.hid lies
  have HLB := Lib.hid lb
  clear lies lb
  obtain ⟨i0, hi0, hz0, hz1, hz2⟩ := info_parts mark_info
  go_enter Try.func6, Try.ntmps6
  go_wp2
  go_loopw [3, 4, 5] (fun v a i wr => ∃ k : Nat, k ≤ n ∧ k ≤ 20 ∧ i = .int .i64 k ∧ a = .int .i64 (lm (fun j => markOf (f j)) k - 1) ∧ Hid (LI w wr (fun j => markOf (f j)) k v)) (fun _ _ i _ => n - (intOf i).toNat)
  case atStart => exact ⟨0, by omega, by omega, rfl, rfl, ⟨none, ⟨by simp, _, 0, rfl, Nat.le_refl _, by unfold maxLen; omega, .inl ⟨rfl, rfl, fun _ => trivial⟩⟩, fun _ h => by cases h⟩, (Below.refl _ w).alloc (Nat.le_refl _) _⟩
  case round =>
    obtain ⟨k, hk, hk2, rfl, rfl, hI⟩ := hrel
    by_cases hlt : k < n ∧ k < 20
    · obtain ⟨hkn, hk20⟩ := hlt
      have e20 : decide ((k : Int) < 20) = true := by simp; omega
      obtain ⟨g, o, rfl, hg, hc⟩ := HL.out k hkn
      have hck : wr.cell? ⟨g, o + k, none⟩ = some (.int .i64 (f k)) := (hI.out.be.cell (p := ⟨g, o + k, none⟩) hg).trans hc
      obtain ⟨b0, b1⟩ := HLB.out k
      have h255 := and255 (f k)
      have hgw : g < wr.heap.size := by have := hI.out.be.size; omega
      clear hc
      go_wp2_with fail
      refine (to_is 0 _ (f k % 256 + 1) 0 _ (by decide) (by decide) ⟨.inr (.inr ⟨by unfold timeB; simp; omega, by omega, rfl, rfl⟩)⟩).mono ?_
      rintro e w1 ⟨rfl, hb⟩
      have hB1 : Below w.heap.size w w1 := (hI.out.be.alloc hI.out.be.size _).trans (hb.mono (by have := hI.out.be.size; simp; omega))
      obtain ⟨ob, hs, hob⟩ := hI.out.sg
      have hs1 : Seg w1 33 1 u3 k _ ob := (hs.alloc _).turns (Turns.of_below hb) (fun _ _ h => h)
      have HS1 := Lib.hid hs1
      have HOB := Lib.hid hob
      have HB1 := Lib.hid hB1
      have hck1 : w1.cell? ⟨g, o + k, none⟩ = some (.int .i64 (f k)) := (hB1.cell (p := ⟨g, o + k, none⟩) hg).trans ((hI.out.be.cell (p := ⟨g, o + k, none⟩) hg).symm.trans hck)
      have hgw1 : g < w1.heap.size := by have := hB1.size; omega
      have hx1 : w1.cell? ⟨wr.heap.size, 0, none⟩ = some (.int .i64 0) := (hb.cell (p := ⟨wr.heap.size, 0, none⟩) (by simp)).trans (by simp)
      have hx2 : wr.heap.size < w1.heap.size := by have := hb.size; simp at this; omega
      clear hb hs hob hs1 hB1 hck
      by_cases hz : bits .and .i64 (f k) 768 = 0
      · have hM : markOf (f k) = 0 := by unfold markOf; rw [if_pos hz]
        have ez : (bits .and .i64 (f k) 768 == 0) = true := by simpa using hz
        rcases lm_three (fun j => markOf (f j)) k _ hM with ⟨q0, q2⟩ | ⟨q0, q1, q2⟩ | ⟨q0, q1, q2⟩
        all_goals
          have HM := Lib.hid hM
          have HQ := Lib.hid q2
          try have e0 : ((k : Int) == 0) = false := by simpa using q0
          try have e0 : ((k : Int) == 0) = true := by simpa using q0
          have HQ0 := Lib.hid q0
          clear hM q2 q0
          go_wp2_with (at_builtin; refine wpList_append_seg _ rfl _ _ 40 rfl 33 i0 (.agg #[.int .i64 0]) 1 8 Try.underlying40 hi0 hz0 hz1 hz2 rfl (by decide) _ _ _ _ rfl ((HS1.out.alloc _).alloc _) ⟨w1.heap.size + 1, 0, none⟩ 1 1 [.int .i64 (0)] rfl rfl (one_newsM _ _ _ (by simp)) (by simp [Value.oneCell']) (by decide) (by unfold maxLen; omega) (by omega) ?_; intro v2 w2 ob2 hs2 ht2 ho2)
          go_roundw
          case measure => simp [intOf]; omega
          case rel => exact ⟨k + 1, by omega, by omega, by go_num, i64_of (by have := HQ.out; omega), LI.more (by rw [HM.out]; exact hs2) ht2 ho2 HOB.out ((HB1.out.alloc HB1.out.size _).alloc (by have := HB1.out.size; simp; omega) _)⟩
      · have hM : markOf (f k) = f k % 256 + 1 := by unfold markOf; rw [if_neg hz]
        have ez : (bits .and .i64 (f k) 768 == 0) = false := by simpa using hz
        rcases lm_three (fun j => markOf (f j)) k _ hM with ⟨q0, q2⟩ | ⟨q0, q1, q2⟩ | ⟨q0, q1, q2⟩
        all_goals
          have HM := Lib.hid hM
          have HQ := Lib.hid q2
          try have e0 : ((k : Int) == 0) = false := by simpa using q0
          try have e0 : ((k : Int) == 0) = true := by simpa using q0
          have HQ0 := Lib.hid q0
          clear hM q2 q0
          go_wp2_with (at_builtin; refine wpList_append_seg _ rfl _ _ 40 rfl 33 i0 (.agg #[.int .i64 0]) 1 8 Try.underlying40 hi0 hz0 hz1 hz2 rfl (by decide) _ _ _ _ rfl ((HS1.out.alloc _).alloc _) ⟨w1.heap.size + 1, 0, none⟩ 1 1 [.int .i64 (f k % 256 + 1)] rfl rfl (one_newsM _ _ _ (by simp)) (by simp [Value.oneCell']) (by decide) (by unfold maxLen; omega) (by omega) ?_; intro v2 w2 ob2 hs2 ht2 ho2)
          go_roundw
          case measure => simp [intOf]; omega
          case rel => exact ⟨k + 1, by omega, by omega, by go_num, i64_of (by have := HQ.out; omega), LI.more (by rw [HM.out]; exact hs2) ht2 ho2 HOB.out ((HB1.out.alloc HB1.out.size _).alloc (by have := HB1.out.size; simp; omega) _)⟩
    · obtain ⟨ob, hs, hob⟩ := hI.out.sg
      obtain ⟨m0, m1⟩ := lm_lo (fun j => markOf (f j)) 0 1099511627777 (by omega) (markOf_all f) k
      have HS := Lib.hid hs
      have HB := Lib.hid hI.out.be
      clear hs hob hI
      by_cases hkn : k < n
      all_goals
        try have e20 : decide ((k : Int) < 20) = false := by simp; omega
        clear hlt
        go_wp2_with fail
        refine (awake_any _).mono ?_
        rintro e w1 ⟨rfl, hb⟩
        have HS1 := Lib.hid (HS.out.turns (Turns.of_below hb) (fun _ _ h => h))
        have HB1 := Lib.hid (HB.out.trans (hb.mono HB.out.size))
        clear hb
        go_wp2_with fail
        refine (least_seg _ k _ ob _ HS1.out hk2 (markOf_all f)).mono ?_
        rintro e w2 ⟨rfl, hb⟩
        have HB2 := Lib.hid (HB1.out.trans (hb.mono HB1.out.size))
        clear hb
        go_wp2_with fail
        refine (at_any _ _ m0 (by omega)).mono ?_
        rintro e w3 ⟨rfl, hb⟩
        have HB3 := Lib.hid (HB2.out.trans (hb.mono HB2.out.size))
        clear hb
        go_wp2_with fail
        refine (least_none _ _ _).mono ?_
        rintro e w4 ⟨rfl, hb⟩
        have HB4 := Lib.hid (HB3.out.trans (hb.mono HB3.out.size))
        clear hb
        go_wp2_with fail
        refine (at_any 0 _ (by decide) (by decide)).mono ?_
        rintro e w5 ⟨rfl, hb⟩
        have HB5 := Lib.hid (HB4.out.trans (hb.mono HB4.out.size))
        clear hb
        go_wp2
        go_ret
        exact ⟨rfl, HB5.out⟩
end Go.Proofs.Ytmkofjdmjilpiaa.Mark
