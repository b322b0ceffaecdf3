/- Whether a type may be. -/
import Derived.Test.YtookojgemipakaaDoorSchE
import Derived.Deep.RegionWith
import Derived.StillTailTactics
namespace Go.Proofs.YtookojgemipakaaDoor.Sch
open Go.RowKit Go.Proofs.YtookojgemipakaaDoor
set_option linter.unusedVariables false

/-- A field of a type, behind those ahead of it. -/
def OkF (fs : List Fld) (k : Nat) (h : k < fs.length) : Prop := nameB fs[k].1.data.toList = true ∧ kindB fs[k].2 = true ∧ idx ((fs.take k).map Prod.fst) fs[k].1 < 0
def MayT (t : Ty) : Prop := nameB t.1.data.toList = true ∧ t.2.length ≤ 8 ∧ ∀ k (h : k < t.2.length), OkF t.2 k h
open Classical in
noncomputable def mayB (t : Ty) : Bool := decide (MayT t)
theorem mayB_no {t : Ty} (h : ¬ MayT t) : mayB t = false := by unfold mayB; simp only [decide_eq_false_iff_not]; exact h
theorem mayB_yes {t : Ty} (h : MayT t) : mayB t = true := by unfold mayB; simp only [decide_eq_true_eq]; exact h
theorem Fs.take {w : World} {B : Nat} {A : Option Addr} {c : Nat} {fs : List Fld} (h : Fs w B (.slice A fs.length c) fs) (k : Nat) (hk : k ≤ fs.length) : Fs w B (.slice A k c) (fs.take k) := by
  obtain ⟨A', c', e, h1, h2, h3⟩ := h
  injection e with e1 e2 e3
  subst e1 e3
  have hl : (fs.take k).length = k := by rw [List.length_take]; omega
  refine ⟨A, c, by rw [hl], by omega, h2, fun j hj => ?_⟩
  obtain ⟨g, o, q1, q2, q3, q4⟩ := h3 j (by omega)
  exact ⟨g, o, q1, q2, by rw [List.getElem_take]; exact q3, by rw [List.getElem_take]; exact q4⟩
theorem kind_is (k : Int) (r : Bool) (w : World) (hr : kindB k = r) :
    Calls Tryd.prog 54 #[.int .i64 k] w fun e w' => e = .returned (.bool r) ∧ w = w' := by subst hr; exact kind_any k w
def AllF (fs : List Fld) (k : Nat) : Prop := ∀ j (h : j < fs.length), j < k → OkF fs j h
theorem below_dN {B : Nat} {w W : World} (h : Below B w W) (n : Nat) : Below B w (W.drewN n) := ⟨h.os, h.tape, h.output, h.size, h.block⟩
theorem flip2 {f : FuncId} {args : Array Value} {w : World} {v : Value} (h : Calls Tryd.prog f args w fun e w' => e = .returned v ∧ w = w') : Calls Tryd.prog f args w fun e w' => e = .returned v ∧ w' = w := h.mono fun _ _ ⟨a, b⟩ => ⟨a, b.symm⟩
set_option maxRecDepth 100000 in
set_option maxHeartbeats 2000000 in
theorem may_any (n : ByteArray) (v : Value) (fs : List Fld) (B : Nat) (w : World) (hf : Fs w B v fs) (hB : B ≤ w.heap.size) :
    Calls Tryd.prog 31 #[.agg #[.string n, v]] w fun e w' => e = .returned (.bool (mayB (n, fs))) ∧ Below w.heap.size w w' := by
  have HF := Lib.hid hf
  obtain ⟨A, c, rfl, hn, hcm, _⟩ := hf
  by_cases h1 : nameB n.data.toList = true
  · have HN := Lib.hid h1
    clear h1
    by_cases h2 : 8 < fs.length
    · go_enter Tryd.func31, Tryd.ntmps31
      go_wp2_with (go_at_call 53; refine (name_is _ true _ HN.out).mono ?_; rintro e w' ⟨rfl, rfl⟩)
      go_ret
      exact ⟨by rw [mayB_no (fun h => by have := h.2.1; simp at this; omega)]; rfl, (Below.refl _ w).alloc (Nat.le_refl _) _⟩
    · have h8 : fs.length ≤ 8 := by omega
      clear h2
      go_enter Tryd.func31, Tryd.ntmps31
      go_wp2_with (go_at_call 53; refine (name_is _ true _ HN.out).mono ?_; rintro e w' ⟨rfl, rfl⟩)
      go_loopw [18] (fun s wr => ∃ k : Nat, k ≤ fs.length ∧ s = .int .i64 k ∧ Hid (Below (w.heap.size + 1) (w.alloc (.cells #[.string n, .slice A fs.length c] 67)) wr) ∧ Hid (AllF fs k)) (fun s _ => fs.length - (intOf s).toNat)
      case atStart => exact ⟨0, by omega, rfl, Below.refl _ _, fun _ _ h => absurd h (by omega)⟩
      case round =>
        obtain ⟨k, hk, rfl, hb, ha⟩ := hrel
        have HW := Lib.hid (((Below.refl w.heap.size w).alloc (Nat.le_refl _) (.cells #[.string n, .slice A fs.length c] 67)).trans (hb.out.mono (by omega)))
        by_cases hlt : k < fs.length
        · have HFr := Lib.hid (HF.out.below (HW.out.mono hB) (Nat.le_refl _))
          obtain ⟨A', c', e1, _, _, h3⟩ := HFr.out
          injection e1 with e1 _ e3
          subst e1 e3
          obtain ⟨g, o, rfl, hg, c0, c1⟩ := h3 k hlt
          have hz : w.heap.size + 1 ≤ wr.heap.size := by have := hb.out.size; simpa using this
          have d0 : wr.cell? ⟨w.heap.size, 1, none⟩ = some (.slice (some ⟨g, o, none⟩) fs.length c) := (hb.out.cell (p := ⟨w.heap.size, 1, none⟩) (by simp)).trans (by simp)
          have hne : g ≠ wr.heap.size := by omega
          have hne2 : w.heap.size ≠ wr.heap.size := by omega
          have hkc : k ≤ c := by omega
          have hkc' : (k : Int) ≤ (c : Int) := by omega
          have hk0 : (0 : Int) ≤ (k : Int) := by omega
          clear h3
          obtain ⟨x, hx⟩ : ∃ x, x = fs[k].1 := ⟨_, rfl⟩
          obtain ⟨y, hy⟩ : ∃ y, y = fs[k].2 := ⟨_, rfl⟩
          have HOK : Hid (OkF fs k hlt ↔ nameB x.data.toList = true ∧ kindB y = true ∧ idx ((fs.take k).map Prod.fst) x < 0) := by rw [hx, hy]; exact Iff.rfl
          rw [← hx] at c0
          rw [← hy] at c1
          clear hx hy
          have HT := Lib.hid (Fs.take HFr.out k hk)
          obtain ⟨bx, hbx⟩ : ∃ b, nameB x.data.toList = b := ⟨_, rfl⟩
          obtain ⟨bk, hbk⟩ : ∃ b, kindB y = b := ⟨_, rfl⟩
          obtain ⟨r, hr⟩ : ∃ r, idx ((fs.take k).map Prod.fst) x = r := ⟨_, rfl⟩
          rw [hbx, hbk, hr] at HOK
          have HX := Lib.hid hbx
          have HK := Lib.hid hbk
          have HR := Lib.hid hr
          clear hbx hbk hr
          cases bx with
          | false =>
            go_wp2
            go_quiet ((go_at_call 53; exact Calls.quiet_of_same (flip2 (name_is _ false _ HX.out))))
            all_goals
              go_wp2
              go_ret
              exact ⟨by rw [mayB_no (fun h => by have := (HOK.out.1 (h.2.2 k hlt)).1; cases this)]; rfl, HW.out.trans (below_dN (by go_grown) _)⟩
          | true =>
            cases bk with
            | false =>
              go_wp2
              go_quiet ((first
                | (go_at_call 53; exact Calls.quiet_of_same (flip2 (name_is _ true _ HX.out)))
                | (go_at_call 54; exact Calls.quiet_of_same (flip2 (kind_is _ false _ HK.out)))))
              all_goals
                go_wp2
                go_ret
                exact ⟨by rw [mayB_no (fun h => by have := (HOK.out.1 (h.2.2 k hlt)).2.1; cases this)]; rfl, HW.out.trans (below_dN (by go_grown) _)⟩
            | true =>
              by_cases hr0 : r < 0
              · have hrd : decide (0 ≤ r) = false := by simp; omega
                go_wp2
                have d0' : (wr.alloc (.cells #[.string x, .int .i64 y] 72)).cell? ⟨w.heap.size, 1, none⟩ = some (.slice (some ⟨g, o, none⟩) fs.length c) := Lib.cell?_alloc_some _ d0
                refine wp_region_still_tail 17 (by kernel_rfl) (by kernel_rfl) ?_
                simp only [List.take_succ_cons, List.take_zero, List.drop_succ_cons, List.drop_zero]
                change wpStill _ _ (World.drew _) _ _ _
                repeat still_step
                still_call (flip2 (name_is _ true _ HX.out))
                repeat still_step
                still_call (flip2 (kind_is _ true _ HK.out))
                repeat still_step
                refine wpStill_nil ?_
                have hbW : Below wr.heap.size wr ((wr.alloc (.cells #[.string x, .int .i64 y] 72)).drew) := by go_grown
                have hsW : ((wr.alloc (.cells #[.string x, .int .i64 y] 72)).drew).heap.size = wr.heap.size + 1 := by simp
                change wpList _ _ _ _ _ (World.drew _)
                generalize (wr.alloc (.cells #[.string x, .int .i64 y] 72)).drew = wd at hbW hsW ⊢
                go_wp2_with (go_at_call 55; refine (fieldPlace_any (.slice (some ⟨g, o, none⟩) k c) (fs.take k) x B _ ?_ ?_).mono ?_; (exact HT.out.below (hbW.mono (by omega)) (Nat.le_refl _)); omega; rw [HR.out]; rintro e w2 ⟨rfl, hb2⟩)
                have HB2 : Below wr.heap.size wr w2 := hbW.trans (hb2.mono (by omega))
                go_roundw
                case rel => exact ⟨k + 1, by omega, by go_num, hb.out.trans (HB2.mono (by omega)), fun j hj h1 => by
                  by_cases e : j = k
                  · subst e; exact HOK.out.2 ⟨trivial, trivial, hr0⟩
                  · exact ha.out j hj (by omega)⟩
                case measure => simp [intOf]; omega
              · have hrp : 0 ≤ r := by omega
                go_wp2
                have d0' : (wr.alloc (.cells #[.string x, .int .i64 y] 72)).cell? ⟨w.heap.size, 1, none⟩ = some (.slice (some ⟨g, o, none⟩) fs.length c) := Lib.cell?_alloc_some _ d0
                refine wp_region_still_tail 17 (by kernel_rfl) (by kernel_rfl) ?_
                simp only [List.take_succ_cons, List.take_zero, List.drop_succ_cons, List.drop_zero]
                change wpStill _ _ (World.drew _) _ _ _
                repeat still_step
                still_call (flip2 (name_is _ true _ HX.out))
                repeat still_step
                still_call (flip2 (kind_is _ true _ HK.out))
                repeat still_step
                refine wpStill_nil ?_
                have hbW : Below wr.heap.size wr ((wr.alloc (.cells #[.string x, .int .i64 y] 72)).drew) := by go_grown
                have hsW : ((wr.alloc (.cells #[.string x, .int .i64 y] 72)).drew).heap.size = wr.heap.size + 1 := by simp
                change wpList _ _ _ _ _ (World.drew _)
                generalize (wr.alloc (.cells #[.string x, .int .i64 y] 72)).drew = wd at hbW hsW ⊢
                go_wp2_with (go_at_call 55; refine (fieldPlace_any (.slice (some ⟨g, o, none⟩) k c) (fs.take k) x B _ ?_ ?_).mono ?_; (exact HT.out.below (hbW.mono (by omega)) (Nat.le_refl _)); omega; rw [HR.out]; rintro e w2 ⟨rfl, hb2⟩)
                have HB2 : Below wr.heap.size wr w2 := hbW.trans (hb2.mono (by omega))
                go_ret
                exact ⟨by rw [mayB_no (fun h => by have := (HOK.out.1 (h.2.2 k hlt)).2.2; omega)]; rfl, HW.out.trans (HB2.mono (by omega))⟩
        · have hk' : k = fs.length := by omega
          subst hk'
          clear hlt
          go_wp2
          go_ret
          exact ⟨by rw [mayB_yes ⟨HN.out, h8, fun j hj => ha.out j hj hj⟩]; rfl, HW.out⟩
  · have h1' : nameB n.data.toList = false := by simpa using h1
    have HN := Lib.hid h1'
    clear h1'
    go_enter Tryd.func31, Tryd.ntmps31
    go_wp2_with (go_at_call 53; refine (name_is _ false _ HN.out).mono ?_; rintro e w' ⟨rfl, rfl⟩)
    go_ret
    exact ⟨by rw [mayB_no (fun h => h1 h.1)]; rfl, (Below.refl _ w).alloc (Nat.le_refl _) _⟩
end Go.Proofs.YtookojgemipakaaDoor.Sch
