/- A part's mark goes on; which parts are behind. -/
import Derived.Test.YtmkofjdmjilpiaaAlA
import Derived.Test.YtmkofjdmjilpiaaApp2
import Derived.StillTailTactics
import Derived.Deep.DeepCutAuto
import Derived.Deep.RegionLaw
namespace Go.Proofs.Ytmkofjdmjilpiaa.Al
open Go.RowKit Go.Proofs.Ytmkofjdmjilpiaa Go.Proofs.Ytmkofjdmjilpiaa.Mark
set_option linter.unusedVariables false
set_option maxRecDepth 100000

def updF (f : Nat → Int) (p : Nat) (v : Int) : Nat → Int := fun k => if k = p then v else f k
theorem al_put {w : World} {b mb N : Nat} {f : Nat → Int} (h : Al w b mb N f) (p : Nat) (v : Int) (hv : 0 ≤ v ∧ v ≤ 1099511627777) : Al (w.setCell ⟨mb, p, none⟩ (.int .i64 v)) b mb N (updF f p v) :=
  ⟨h.row.past (fun e => h.ne e.symm) _, h.tab.put p _ (fun i _ hi => by unfold marks updF; rw [if_neg hi]) (fun _ => by unfold marks updF; rw [if_pos rfl]), h.ne, h.n1, fun k hk => by
    unfold updF
    split
    · exact hv
    · exact h.lo k hk⟩
set_option maxHeartbeats 1000000 in
theorem to_yes (b mb N : Nat) (f : Nat → Int) (w : World) (h : Al w b mb N f) (p : Nat) (hp : p < N) (t m' e0 : Int) (hr : ToR (f p) t m' e0) (hm : 0 ≤ m' ∧ m' ≤ 1099511627777) :
    Calls Try.prog 47 #[.pointer (some ⟨b, 0, none⟩), .int .i64 p, .int .i64 t] w fun e w' => e = .returned (.int .i64 e0) ∧ Al w' b mb N (updF f p m') ∧ Turns w w' (fun k => k = mb) := by
  have H := Lib.hid h
  have HR := Lib.hid hr
  obtain ⟨m0, m1⟩ := h.lo p hp
  have c0 := h.c0
  have c1 := h.tab.cell hp
  unfold marks at c1
  have hn := h.n1
  have HD : Hid (decide (0 ≤ (p : Int) ∧ (p : Int) < (N : Int)) = true) := by show decide (0 ≤ (p : Int) ∧ (p : Int) < (N : Int)) = true; simp; omega
  have hpi : (p : Int) < (N : Int) := by omega
  clear h hr
  go_enter Try.func47, Try.ntmps47
  go_wp2_with fail
  refine (has_any b mb N f _ H.out p true HD.out).mono ?_
  rintro e w' ⟨rfl, rfl⟩
  go_upto_region 4 with fail
  have hbl := H.out.row.lt
  have hml := H.out.tab.lt
  go_cut [7] (fun s7 wc => s7 = .int .i64 e0 ∧ Hid (Al wc b mb N (updF f p m') ∧ Turns w wc (fun k => k = mb)))
  case first =>
    go_region_law (first
      | (go_simp; go_at_call 20; refine (to_is _ _ m' e0 _ m0 (by omega) HR.out).mono ?_; rintro e w1 ⟨rfl, hb⟩; have HB : Hid (Below w.heap.size w w1) := Below.trans ((Below.refl _ w).drew) hb; have H1 : Hid (Al w1 b mb N f) := H.out.call HB.out; have d0 := H1.out.c0; have d1 : w1.cell? ⟨mb, p, none⟩ = some (.int .i64 (f p)) := H1.out.tab.cell hp; have d2 := H1.out.tab.free p; clear hb))
    all_goals
      go_wp2_with fail
      go_meet
      exact ⟨rfl, al_put H1.out p m' hm, turns_after HB.out ((Turns.refl w1 _).put mb p _ (fun _ => rfl))⟩
  case rest =>
    obtain ⟨rfl, hA⟩ := hcut
    go_wp2
    go_ret
    exact ⟨rfl, hA.out⟩
/-- The parts that know no more than all do, of the first k. -/
def behL (f : Nat → Int) (N : Nat) : Nat → List Int
  | 0 => []
  | k + 1 => behL f N k ++ if f k = mn f N then [(k : Int)] else []
theorem behL_len (f : Nat → Int) (N : Nat) : ∀ k, (behL f N k).length ≤ k
  | 0 => Nat.le_refl _
  | k + 1 => by
    have := behL_len f N k
    unfold behL
    rw [List.length_append]
    split <;> simp <;> omega
structure BI (w0 w : World) (v : Value) (L : List Int) : Prop where
  sg : ∃ ob, Seg w 3 1 v L.length (L.map (Value.int .i64)) ob ∧ ∀ g, ob = some g → w0.heap.size ≤ g
  be : Below w0.heap.size w0 w
theorem int_info : (Try.prog.info? 3).map (fun i => (i.zero, i.size, i.bytes)) = some (some (.int .i64 0), 1, 8) := by kernel_rfl
theorem one_newsI (w : World) (x : Value) (a : Nat) (ha : w.heap.size = a) : ∀ j u, [x][j]? = some u → (w.alloc (.cells #[x] 3)).cell? ((⟨a, 0, none⟩ : Addr).add j) = some u := by
  subst ha
  intro j u hj
  match j, hj with
  | 0, hj => simp at hj; subst hj; simp [Addr.add]
theorem BI.more {w0 w w2 : World} {v2 : Value} {L : List Int} {x : Int} {ob ob2 : Option Nat} (hob : ∀ g, ob = some g → w0.heap.size ≤ g) (hb : Below w0.heap.size w0 w)
    (hs : Seg w2 3 1 v2 (L.length + 1) (L.map (Value.int .i64) ++ [.int .i64 x]) ob2) (ht : Turns w w2 (fun k => ob = some k)) (ho : ob2 = ob ∨ ∃ g, ob2 = some g ∧ w.heap.size ≤ g) : BI w0 w2 v2 (L ++ [x]) := by
  have hz := hb.size
  refine ⟨⟨ob2, by simpa using hs, fun g hg => ?_⟩, ht.below hb hz (fun k hk e => ?_)⟩
  · rcases ho with h | ⟨g', h, h'⟩
    · exact hob g (by rw [← h, hg])
    · rw [h] at hg; injection hg with hg; omega
  · have := hob k e; omega
set_option maxHeartbeats 2000000 in
theorem behind_any (b mb N : Nat) (f : Nat → Int) (w : World) (h : Al w b mb N f) :
    Calls Try.prog 48 #[.pointer (some ⟨b, 0, none⟩)] w fun e w' => ∃ v, e = .returned v ∧ BI w w' v (behL f N N) := by
  have H := Lib.hid h
  have hn := h.n1
  clear h
  obtain ⟨i0, hi0, hz0, hz1, hz2⟩ := info_parts int_info
  go_enter Try.func48, Try.ntmps48
  go_wp2_with fail
  refine (at_all b mb N f _ H.out).mono ?_
  rintro e w1 ⟨rfl, hb⟩
  have H1 := Lib.hid (H.out.call hb)
  have HB1 := Lib.hid hb
  clear hb
  go_wp2_with fail
  refine (all_any b mb N f _ H1.out).mono ?_
  rintro e w' ⟨rfl, rfl⟩
  go_wp2
  go_loopw [4, 12] (fun v i wr => ∃ k : Nat, k ≤ N ∧ i = .int .i64 k ∧ Hid (BI w wr v (behL f N k))) (fun _ i _ => N - (intOf i).toNat)
  case atStart => exact ⟨0, by omega, rfl, ⟨none, Seg.nil _ _ _, fun _ h => by cases h⟩, HB1.out⟩
  case round =>
    obtain ⟨k, hk, rfl, hI⟩ := hrel
    have hlen := behL_len f N k
    by_cases hlt : k < N
    · have HAl : Hid (Al wr b mb N f) := H.out.call hI.out.be
      obtain ⟨ob, hs, hob⟩ := hI.out.sg
      have HS := Lib.hid hs
      have HOB := Lib.hid hob
      obtain ⟨m0, m1⟩ := H.out.lo k hlt
      have hck : wr.cell? ⟨mb, k, none⟩ = some (.int .i64 (f k)) := HAl.out.tab.cell hlt
      have hmz := HAl.out.tab.lt
      clear hs hob
      go_wp2_with fail
      refine (at_any _ _ m0 (by omega)).mono ?_
      rintro e w2 ⟨rfl, hb⟩
      have HB2 : Hid (Below w.heap.size w w2) := (hI.out.be.alloc hI.out.be.size _).trans (hb.mono (by have := hI.out.be.size; simp; omega))
      have HS2 := Lib.hid ((HS.out.alloc (.cells #[.int .i64 (f k)] 33)).turns (Turns.of_below hb) (fun _ _ h => h))
      clear hb hck
      by_cases he : f k = mn f N
      · have e1 : (f k - 1 == mn f N - 1) = true := by simp; omega
        have HE : Hid (behL f N (k + 1) = behL f N k ++ [(k : Int)]) := by show behL f N (k + 1) = behL f N k ++ [(k : Int)]; rw [behL, if_pos he]
        clear he
        go_wp2_with (at_builtin; refine wpList_append_seg _ rfl _ _ 28 rfl 3 i0 (.int .i64 0) 1 8 Try.underlying28 hi0 hz0 hz1 hz2 rfl (by decide) _ _ _ _ rfl (HS2.out.alloc _) ⟨w2.heap.size, 0, none⟩ 1 1 [.int .i64 k] rfl rfl (one_newsI _ _ _ rfl) (by simp [Value.oneCell']) (by decide) (by unfold maxLen; omega) (by omega) ?_; intro v2 w3 ob2 hs2 ht2 ho2)
        go_roundw
        case measure => simp [intOf]; omega
        case rel => exact ⟨k + 1, by omega, by go_num, by rw [HE.out]; exact BI.more HOB.out (HB2.out.alloc HB2.out.size _) hs2 ht2 ho2⟩
      · have e1 : (f k - 1 == mn f N - 1) = false := by simp; omega
        have HE : Hid (behL f N (k + 1) = behL f N k) := by show behL f N (k + 1) = behL f N k; rw [behL, if_neg he, List.append_nil]
        clear he
        go_wp2
        go_roundw
        case measure => simp [intOf]; omega
        case rel => exact ⟨k + 1, by omega, by go_num, by rw [HE.out]; exact ⟨⟨ob, HS2.out, HOB.out⟩, HB2.out⟩⟩
    · obtain rfl : k = N := by omega
      go_wp2
      go_ret
      exact ⟨_, rfl, hI.out⟩
end Go.Proofs.Ytmkofjdmjilpiaa.Al
