/- run.bounds and Env of one bound. -/
import Derived.Test.YtaimbkikiokenaaRnG
import Derived.Test.YtaimbkikiokenaaRnE
namespace Go.Proofs.Ytaimbkikiokenaa.Rn
open Go.RowKit Go.Proofs.Ytaimbkikiokenaa Go.Proofs.Ytaimbkikiokenaa.Ev
set_option linter.unusedVariables false
set_option maxRecDepth 100000
theorem list1_any (p0 : Option Addr) (x0 : Bd) (w : World) (hL : Ch 6 w w.heap.size p0 [x0.cells]) :
    Calls Try.prog 104 #[.pointer p0] w (List1 w x0) :=
  callsIn_wide.1 (list1_in Fence.wide 3 (fun _ => trivial) rfl (by omega) p0 x0 w hL)
def Clone1 (w : World) (x : Bd) (e : Ending) (w' : World) : Prop := ∃ g o c, e = .returned (.slice (some ⟨g, o, none⟩) 1 c) ∧ (∀ j u, x.cells[j]? = some u → w'.cell? ⟨g, o + j, none⟩ = some u) ∧ (∀ j, w'.frozen? ⟨g, j, none⟩ = false) ∧ w.heap.size ≤ g ∧ g < w'.heap.size ∧ Below w.heap.size w w'
theorem bd_one (x : Bd) : ∀ u ∈ x.cells, u.oneCell' = true := by
  intro u hu
  simp [Bd.cells] at hu
  rcases hu with rfl | rfl | rfl | rfl | rfl | rfl <;> rfl
set_option maxHeartbeats 1000000 in
theorem clone1_any (g : Nat) (x : Bd) (w : World) (h : Row w g 124 x.cells.toArray) :
    Calls Try.prog 120 #[.slice (some ⟨g, 0, none⟩) 1 1] w (Clone1 w x) := by
  obtain ⟨i0, hi0, hz0, hz1, hz2⟩ := info_parts bound_info
  have q0 := fun wx => Lib.run_eql_slice_nil (P := Try.prog) wx 120 124 (some ⟨g, 0, none⟩) 1 1 0 0 Try.underlying120
  obtain ⟨xv, hxv⟩ : ∃ xv, xv = (Value.slice (some ⟨g, 0, none⟩) 1 1) := ⟨_, rfl⟩
  rw [← hxv]
  have q : ∀ wx, (binOp .eql 120 xv (.slice none 0 0)).run Try.prog wx = .ok (.bool false) wx := fun wx => by rw [hxv]; exact q0 wx
  have qg : ∀ (wx : World) (o o' : Operand), (eqGuard .eql 120 o o' xv (.slice none 0 0)).run Try.prog wx = .ok () wx := fun wx o o' => by rw [hxv]; rfl
  have HXV := Lib.hid hxv
  have H5 := Lib.hid h
  clear hxv q0 h
  go_enter Try.func120, Try.ntmps120
  go_wp2_with (at_builtin; go_loud (refine wpList_append_seg _ rfl _ _ 120 rfl 124 i0 _ 6 88 Try.underlying120 hi0 hz0 hz1 hz2 rfl (by decide) _ 0 [] none rfl ⟨by simp, _, 0, rfl, Nat.le_refl _, by unfold maxLen; omega, .inl ⟨rfl, rfl, fun _ => trivial⟩⟩ ⟨g, 0, none⟩ 1 1 x.cells (Eq.trans (b := xv) rfl HXV.out) rfl (fun j u hj => by rw [Addr.add_lit, Nat.zero_add, (H5.out.alloc _).cell]; simpa using hj) (bd_one _) (by omega) (by unfold maxLen; omega) (by omega) ?_; intro v2 w3 ob2 hs2 ht2 ho2))
  go_ret
  rw [Nat.zero_add, List.nil_append] at hs2
  obtain ⟨g2, o2, cap, rfl, e1, _, _, hc, hf⟩ := hs2.shape (by omega)
  have hlt := World.block_lt_of_cell? w3 _ (hc 0 _ rfl)
  exact ⟨g2, o2, cap, rfl, hc, hf, by rcases ho2 with h | ⟨g', h, hg'⟩ <;> rw [h] at e1 <;> cases e1; simp at hg'; omega, hlt, ht2.below ((Below.refl _ w).alloc (Nat.le_refl _) _) (by simp) (fun j hj e => by cases e)⟩
def One (w : World) (e : Ending) (w' : World) : Prop := ∃ A c, e = .returned (.slice A 1 c) ∧ Below w.heap.size w w'
set_option maxHeartbeats 1000000 in
theorem bounds1_any (g : Nat) (v a b : ByteArray) (t q : Int) (w : World) (h : Row w g 124 (Bd.cells ⟨v, a, b, t, q, none, 0, 0⟩).toArray) :
    Calls Try.prog 103 #[.slice (some ⟨g, 0, none⟩) 1 1] w (One w) := by
  have H := Lib.hid h
  clear h
  go_enter Try.func103, Try.ntmps103
  go_wp2_with (go_at_call 120; refine (clone1_any g ⟨v, a, b, t, q, none, 0, 0⟩ _ H.out).mono ?_; rintro e w1 ⟨g2, o2, c2, rfl, hc, hf, hg, hl, hb⟩; have HC := Lib.hid hc; have HF := Lib.hid hf; have HB := Lib.hid (And.intro hg (And.intro hl hb)); clear hc hf hg hl hb)
  go_loopw [10] (fun s10 wr => ∃ k : Nat, k ≤ 1 ∧ s10 = .int .i64 k ∧ Hid (k = 0 → w1 = wr) ∧ Hid (Below w.heap.size w wr)) (fun s10 _ => 1 - (intOf s10).toNat)
  case atStart => exact ⟨0, by omega, rfl, fun _ => rfl, HB.out.2.2⟩
  case round =>
    obtain ⟨k, hk, rfl, h0, hbw⟩ := hrel
    rcases (show k = 0 ∨ k = 1 by omega) with rfl | rfl
    · obtain rfl := h0.out rfl
      have x0 : w1.cell? ⟨g2, o2, none⟩ = some (.string v) := HC.out 0 _ rfl
      have x1 : w1.cell? ⟨g2, o2 + 1, none⟩ = some (.string a) := HC.out 1 _ rfl
      have x2 : w1.cell? ⟨g2, o2 + 2, none⟩ = some (.string b) := HC.out 2 _ rfl
      have x3 : w1.cell? ⟨g2, o2 + 3, none⟩ = some (.int .i64 t) := HC.out 3 _ rfl
      have x4 : w1.cell? ⟨g2, o2 + 4, none⟩ = some (.int .i64 q) := HC.out 4 _ rfl
      have x5 : w1.cell? ⟨g2, o2 + 5, none⟩ = some (.slice none 0 0) := HC.out 5 _ rfl
      clear h0 hk
      go_wp2_with fail
      refine (copy_any a b t q none 0 0 [] _ (.inl ⟨rfl, rfl, rfl⟩) rfl).mono ?_
      rintro e w3 ⟨yA, yc, rfl, hc3⟩
      obtain ⟨rfl, rfl⟩ := hc3.nl rfl
      have hb3 : Below w1.heap.size w1 w3 := ((Below.refl _ w1).alloc (Nat.le_refl _) _).trans (hc3.be.mono (by simp))
      have hl2 := HB.out.2.1
      have y1 : w3.cell? ⟨g2, o2 + 1, none⟩ = some (.string a) := (hb3.cell (p := ⟨g2, o2 + 1, none⟩) hl2).trans x1
      have y2 : w3.cell? ⟨g2, o2 + 2, none⟩ = some (.string b) := (hb3.cell (p := ⟨g2, o2 + 2, none⟩) hl2).trans x2
      have y3 : w3.cell? ⟨g2, o2 + 3, none⟩ = some (.int .i64 t) := (hb3.cell (p := ⟨g2, o2 + 3, none⟩) hl2).trans x3
      have y4 : w3.cell? ⟨g2, o2 + 4, none⟩ = some (.int .i64 q) := (hb3.cell (p := ⟨g2, o2 + 4, none⟩) hl2).trans x4
      have y5 : w3.cell? ⟨g2, o2 + 5, none⟩ = some (.slice none 0 0) := (hb3.cell (p := ⟨g2, o2 + 5, none⟩) hl2).trans x5
      have f1 : w3.frozen? ⟨g2, o2 + 1, none⟩ = false := (hb3.frozen (p := ⟨g2, o2 + 1, none⟩) hl2).trans (HF.out _)
      have f2 : w3.frozen? ⟨g2, o2 + 2, none⟩ = false := (hb3.frozen (p := ⟨g2, o2 + 2, none⟩) hl2).trans (HF.out _)
      have f3 : w3.frozen? ⟨g2, o2 + 3, none⟩ = false := (hb3.frozen (p := ⟨g2, o2 + 3, none⟩) hl2).trans (HF.out _)
      have f4 : w3.frozen? ⟨g2, o2 + 4, none⟩ = false := (hb3.frozen (p := ⟨g2, o2 + 4, none⟩) hl2).trans (HF.out _)
      have f5 : w3.frozen? ⟨g2, o2 + 5, none⟩ = false := (hb3.frozen (p := ⟨g2, o2 + 5, none⟩) hl2).trans (HF.out _)
      have HB3 := Lib.hid (hbw.out.trans (hb3.mono hbw.out.size))
      clear hb3 hl2 hc3 x0 x1 x2 x3 x4 x5
      go_wp2
      go_roundw
      case rel => exact ⟨1, by omega, by go_num, fun h => by omega, by
        have hg := HB.out.1
        exact ((((HB3.out.setCell (p := ⟨g2, _, none⟩) hg _).setCell (p := ⟨g2, _, none⟩) hg _).setCell (p := ⟨g2, _, none⟩) hg _).setCell (p := ⟨g2, _, none⟩) hg _).setCell (p := ⟨g2, _, none⟩) hg _⟩
      case measure => simp [intOf]
    · clear h0
      go_wp2
      go_ret
      exact ⟨_, _, rfl, hbw.out⟩
theorem env1_any (pp pe : Option Addr) (st f lt lq la : Int) (bl : Bool) (v a b : ByteArray) (t q : Int) (w : World) (h : Ch 6 w w.heap.size pe [(Bd.cells ⟨v, a, b, t, q, none, 0, 0⟩)]) :
    Calls Try.prog 72 #[.agg #[.int .i64 st, .pointer pp, .pointer pe, .int .i64 f, .int .i64 lt, .int .i64 lq, .int .i64 la, .bool bl]] w (One w) := by
  have HB := Lib.hid ((Below.refl _ w).alloc (Nat.le_refl _) (.cells #[.int .i64 st, .pointer pp, .pointer pe, .int .i64 f, .int .i64 lt, .int .i64 lq, .int .i64 la, .bool bl] 52))
  have H := Lib.hid (h.below HB.out HB.out.size)
  clear h
  go_enter Try.func72, Try.ntmps72
  go_wp2_with (first
    | (go_at_call 104; refine (list1_any pe ⟨v, a, b, t, q, none, 0, 0⟩ _ H.out).mono ?_; rintro e w1 ⟨g, rfl, hr, hg, hb1⟩; have HR := Lib.hid hr; have HB1 := Lib.hid (HB.out.trans (hb1.mono HB.out.size)); clear hr hb1 hg)
    | (go_at_call 103; refine (bounds1_any g v a b t q _ HR.out).mono ?_; rintro e w2 ⟨A2, c2, rfl, hb2⟩; have HB2 := Lib.hid (HB1.out.trans (hb2.mono HB1.out.size)); clear hb2))
  go_ret
  exact ⟨_, _, rfl, HB2.out⟩
end Go.Proofs.Ytaimbkikiokenaa.Rn
