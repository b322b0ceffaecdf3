/- A copy of a query: the walk. -/
import Derived.Test.YtopbildpeojgoaaPcB
namespace Go.Proofs.Ytopbildpeojgoaa.Pc
open Go.RowKit Go.Proofs.Ytopbildpeojgoaa Go.Proofs.Ytopbildpeojgoaa.Pa
set_option linter.unusedVariables false
set_option maxRecDepth 100000

theorem val_one (e : ElV) (j : Nat) : (e.val j).oneCell' = true := by
  unfold ElV.val; split <;> rfl
def flatC (E : Nat → ElV) : Nat → Value := fun k => (E (k / 6)).val (k % 6)
theorem LE.cells {w : World} {g o n : Nat} {E : Nat → ElV} (h : LE w g o n E) : Cell w (fun _ => True) (some ⟨g, o, none⟩) (n * 6) (flatC E) := fun k hk =>
  ⟨g, o, rfl, trivial, h.lt, by
    have := h.cell (k := k / 6) (by omega) (j := k % 6) (by omega)
    rw [show o + k / 6 * 6 + k % 6 = o + k from by omega] at this
    exact this⟩
/-- What is handed back: a query alike, whose lists are new. -/
structure Copied (w w' : World) (g o n : Nat) (E E' : Nat → ElV) (T N : Nat → Nat → Value) : Prop where
  le : LE w' g o n E'
  al : ∀ k, k < n → Alike (E' k) (E k)
  co : ∀ k, k < n → Co w' (fun b => w.heap.size + 2 ≤ b ∧ b ≠ g) (E' k) (T k) (N k)
  ge : w.heap.size + 2 ≤ g
  be : Below w.heap.size w w'
theorem CI.start {w w1 : World} {g0 o0 n c0 g o c : Nat} {win cap : Int} {E : Nat → ElV} {T N : Nat → Nat → Value} (h : Own1 ((w.alloc (.cells #[.slice (some ⟨g0, o0, none⟩) n c0, .int .i64 win, .int .i64 cap] 67)).alloc (.cells #[.slice none 0 0, .int .i64 0, .int .i64 0] 67)) w1 73 g o (n * 6) (flatC E)) :
    CI w (w1.setCell ⟨w.heap.size, 0, none⟩ (.slice (some ⟨g, o, none⟩) n c)) g o n c win cap E E T N 0 := by
  obtain ⟨cs, h1, h2⟩ := h.row
  have hg := h.ge
  simp only [World.size_alloc] at hg
  have hb := h.be
  have hr1 : Row w1 w.heap.size 67 #[.slice (some ⟨g0, o0, none⟩) n c0, .int .i64 win, .int .i64 cap] := ((Row.made w _ _).alloc _).below hb (by simp; omega)
  have hr2 : Row w1 (w.heap.size + 1) 67 #[.slice none 0 0, .int .i64 0, .int .i64 0] := by
    have := Row.made (w.alloc (.cells #[.slice (some ⟨g0, o0, none⟩) n c0, .int .i64 win, .int .i64 cap] 67)) 67 #[.slice none 0 0, .int .i64 0, .int .i64 0]
    rw [World.size_alloc] at this
    exact this.below hb (by simp)
  refine ⟨⟨cs, h1.past (by show g ≠ w.heap.size; omega) _, fun k hk j hj => ?_⟩, hr1.put 0 _, hr2.past (by show w.heap.size + 1 ≠ w.heap.size; omega) _, ?_, by omega, fun k _ => ⟨rfl, rfl, rfl, rfl, rfl, rfl⟩, fun k hk _ => by omega, fun k _ => rfl⟩
  · have := h2 (k * 6 + j) (by omega)
    rw [← Nat.add_assoc] at this
    rw [this]
    unfold flatC
    rw [show (k * 6 + j) / 6 = k from by omega, show (k * 6 + j) % 6 = j from by omega]
  · exact ((((Below.refl _ w).alloc (Nat.le_refl _) _).alloc (by simp) _).trans (hb.mono (by simp; omega))).setCell (p := ⟨w.heap.size, 0, none⟩) (Nat.le_refl _) _
theorem CI.ends {w0 w : World} {g o n c : Nat} {win cap : Int} {E E' : Nat → ElV} {T N : Nat → Nat → Value} (h : CI w0 w g o n c win cap E E' T N n) :
    Copied w0 (((w.setCell ⟨w0.heap.size + 1, 0, none⟩ (.slice (some ⟨g, o, none⟩) n c)).setCell ⟨w0.heap.size + 1, 1, none⟩ (.int .i64 win)).setCell ⟨w0.heap.size + 1, 2, none⟩ (.int .i64 cap)) g o n E E' T N ∧
      Row (((w.setCell ⟨w0.heap.size + 1, 0, none⟩ (.slice (some ⟨g, o, none⟩) n c)).setCell ⟨w0.heap.size + 1, 1, none⟩ (.int .i64 win)).setCell ⟨w0.heap.size + 1, 2, none⟩ (.int .i64 cap)) (w0.heap.size + 1) 67 #[.slice (some ⟨g, o, none⟩) n c, .int .i64 win, .int .i64 cap] := by
  have tt : Turns w (((w.setCell ⟨w0.heap.size + 1, 0, none⟩ (.slice (some ⟨g, o, none⟩) n c)).setCell ⟨w0.heap.size + 1, 1, none⟩ (.int .i64 win)).setCell ⟨w0.heap.size + 1, 2, none⟩ (.int .i64 cap)) (fun k => k = w0.heap.size + 1) := (((Turns.refl w (fun k => k = w0.heap.size + 1)).put _ 0 _ (fun _ => rfl)).put _ 1 _ (fun _ => rfl)).put _ 2 _ (fun _ => rfl)
  have hg := h.ge
  exact ⟨⟨h.le.turns tt (by omega), h.al, fun k hk => (h.fst k hk hk).turns tt (fun b _ hb e => by have := hb.1; omega), hg, tt.below h.be h.be.size (fun k hk e => by omega)⟩, ((h.row2.put 0 _).put 1 _).put 2 _⟩
set_option maxHeartbeats 8000000 in
theorem copy_any (g0 o0 n c0 : Nat) (win cap : Int) (E : Nat → ElV) (T N : Nat → Nat → Value) (w : World) (h : LE w g0 o0 n E) (hc : ∀ k, k < n → Co w (fun _ => True) (E k) (T k) (N k)) (h1 : ∀ k j, (T k j).oneCell' = true ∧ (N k j).oneCell' = true) (hn : 0 < n) (hm : n ≤ 1000) :
    Calls Try.prog 39 #[.agg #[.slice (some ⟨g0, o0, none⟩) n c0, .int .i64 win, .int .i64 cap]] w fun e w' => ∃ g o c E', e = .returned (.agg #[.slice (some ⟨g, o, none⟩) n c, .int .i64 win, .int .i64 cap]) ∧ Copied w w' g o n E E' T N ∧ n ≤ c ∧ c ≤ maxLen := by
  have H := Lib.hid h
  have HC := Lib.hid hc
  have H1 := Lib.hid h1
  clear h hc h1
  go_enter Try.func39, Try.ntmps39
  go_wp2_with fail
  refine (elm_some g0 o0 n c0 (flatC E) _ (LE.cells ((H.out.alloc _).alloc _)) (fun k _ => val_one _ _) hn hm).mono ?_
  rintro e w1 ⟨g, o, c, rfl, hO, hcb0⟩
  have HCB0 := Lib.hid hcb0
  clear hcb0
  have HI := Lib.hid (CI.start (c := c) (win := win) (cap := cap) (E := E) (T := T) (N := N) hO)
  have r1 : Row w1 w.heap.size 67 #[.slice (some ⟨g0, o0, none⟩) n c0, .int .i64 win, .int .i64 cap] := ((Row.made w _ _).alloc _).below hO.be (by simp; omega)
  have d0 := r1.cell 0
  have df := r1.free 0
  have dl := r1.lt
  simp only [List.getElem?_toArray, List.getElem?_cons_zero] at d0
  clear r1 hO
  go_upto_region 2 with fail
  clear d0 df dl
  generalize w1.setCell ⟨w.heap.size, 0, none⟩ (.slice (some ⟨g, o, none⟩) n c) = wa at HI ⊢
  have d0 : wa.cell? ⟨w.heap.size, 0, none⟩ = some (.slice (some ⟨g, o, none⟩) n c) := HI.out.row1.cell 0
  go_wp2
  clear d0
  go_loopw [12] (fun s wr => ∃ i : Nat, i ≤ n ∧ s = .int .i64 i ∧ Hid (∃ E', CI w wr g o n c win cap E E' T N i)) (fun s _ => n - (intOf s).toNat)
  case atStart => exact ⟨0, by omega, rfl, E, HI.out⟩
  case round =>
    clear HI
    obtain ⟨i, hi, rfl, hI⟩ := hrel
    obtain ⟨E', hI⟩ := hI.out
    have HI := Lib.hid hI
    clear hI
    by_cases hlt : i < n
    · have hli : (i : Int) < (n : Int) := by omega
      have hE : E' i = E i := HI.out.rst i (Nat.le_refl _)
      have hE2 := HI.out.le
      have e0 := hE2.cell hlt (j := 0) (by omega)
      have e1 := hE2.cell hlt (j := 1) (by omega)
      have e2 := hE2.cell hlt (j := 2) (by omega)
      have e3 := hE2.cell hlt (j := 3) (by omega)
      have e4 := hE2.cell hlt (j := 4) (by omega)
      have e5 := hE2.cell hlt (j := 5) (by omega)
      rw [hE] at e0 e1 e2 e3 e4 e5
      simp only [ElV.val, Nat.add_zero] at e0 e1 e2 e3 e4 e5
      obtain ⟨ct, cp⟩ := HC.out i hlt
      clear hE2 hE
      have CT0 : Hid (∀ X, Below w.heap.size w X → ((E i).tA = none ∧ (E i).tn = 0 ∧ (E i).tc = 0) ∨ (RCell X 9 (fun _ => True) (E i).tA ((E i).tn * 1) (T i) ∧ 0 < (E i).tn ∧ (E i).tn ≤ 100)) := fun X hX => by
        rw [Nat.mul_one]; exact ct.imp id (fun x => ⟨x.1.call hX, x.2.1, x.2.2.1⟩)
      have CP0 : Hid (∀ X, Below w.heap.size w X → ((E i).pA = none ∧ (E i).pn = 0 ∧ (E i).pc = 0) ∨ (RCell X 86 (fun _ => True) (E i).pA ((E i).pn * 7) (N i) ∧ 0 < (E i).pn ∧ (E i).pn ≤ 100)) := fun X hX => cp.imp id (fun x => ⟨x.1.call hX, x.2.1, x.2.2.1⟩)
      clear ct cp
      have hwl := HI.out.row1.lt
      have hgl := HI.out.le.lt
      go_upto_region 5 with fail
      have HI := Lib.hid (HI.out.call ((Below.refl _ wr).alloc (Nat.le_refl _) (.cells #[.string (E i).v, .slice (E i).tA (E i).tn (E i).tc, .bool (E i).neg, .int .i64 (E i).mn, .int .i64 (E i).mx, .slice (E i).pA (E i).pn (E i).pc] 73)))
      have HEB := Lib.hid (Row.made wr 73 #[.string (E i).v, .slice (E i).tA (E i).tn (E i).tc, .bool (E i).neg, .int .i64 (E i).mn, .int .i64 (E i).mx, .slice (E i).pA (E i).pn (E i).pc])
      have GN : Hid (w.heap.size + 2 ≤ g ∧ g < wr.heap.size) := ⟨HI.out.ge, hgl⟩
      clear e0 e1 e2 e3 e4 e5 hwl hgl
      generalize wr.alloc (.cells #[.string (E i).v, .slice (E i).tA (E i).tn (E i).tc, .bool (E i).neg, .int .i64 (E i).mn, .int .i64 (E i).mx, .slice (E i).pA (E i).pn (E i).pc] 73) = W at HI HEB ⊢
      generalize wr.heap.size = eb at HEB GN ⊢
      have gl := HI.out.le.lt
      have gx := (HI.out.le.cell hlt (j := 1) (by omega))
      have gf := HI.out.le.free (o + i * 6 + 1)
      go_cut [] (fun wx => ∃ E2, (CT w wx g o n c win cap E E2 T N i ∧ Row wx eb 73 #[.string (E i).v, .slice (E i).tA (E i).tn (E i).tc, .bool (E i).neg, .int .i64 (E i).mn, .int .i64 (E i).mx, .slice (E i).pA (E i).pn (E i).pc]))
      case first =>
       rcases CT0.out W HI.out.be with ⟨tA0, tn0, tc0⟩ | ⟨ct, t0, t1⟩
       · have HEB2 := HEB
         rw [tA0, tn0, tc0] at HEB2
         have HTA := Lib.hid (And.intro tA0 (And.intro tn0 tc0))
         clear tA0 tn0 tc0
         have hS : ∀ X, Below W.heap.size W X → X.cell? ⟨w.heap.size, 0, none⟩ = some (.slice (some ⟨g, o, none⟩) n c) ∧ X.cell? ⟨eb, 1, none⟩ = some (.slice none 0 0) := fun X hX => ⟨(HI.out.call hX).row1.cell 0, (HEB2.out.below hX HEB2.out.lt).cell 1⟩
         have k1 := hS _ (Below.refl _ _)
         have hST : ∀ (X : World) (u : Value), (X.cell? ⟨w.heap.size, 0, none⟩ = some (.slice (some ⟨g, o, none⟩) n c) ∧ X.cell? ⟨eb, 1, none⟩ = some (.slice none 0 0)) → ((X.setCell ⟨g, o + i * 6 + 1, none⟩ u).cell? ⟨w.heap.size, 0, none⟩ = some (.slice (some ⟨g, o, none⟩) n c) ∧ (X.setCell ⟨g, o + i * 6 + 1, none⟩ u).cell? ⟨eb, 1, none⟩ = some (.slice none 0 0)) := fun X u ⟨q0, q1⟩ =>
           ⟨(World.cell?_setCell_other _ _ _ _ (by have := GN.out; first | (simp; done) | (simp; omega))).trans q0, (World.cell?_setCell_other _ _ _ _ (by have := GN.out; first | (simp; done) | (simp; omega))).trans q1⟩
         have HS := Lib.hid hS
         have HST := Lib.hid hST
         clear hS hST
         have HB : Hid (Below W.heap.size W W.drew) := (Below.refl _ W).drew
         go_region_held3 (fun X => X.cell? ⟨w.heap.size, 0, none⟩ = some (.slice (some ⟨g, o, none⟩) n c) ∧ X.cell? ⟨eb, 1, none⟩ = some (.slice none 0 0))
           (first
             | exact k1
             | exact HS.out _ HB.out
             | exact HST.out _ _ (HS.out _ HB.out)
             | exact HST.out W _ k1
             | fail)
           ((first
             | (
                 go_at_call 100
                 (with_reducible refine (str_nil _).mono ?_)
                 rintro e w5 ⟨rfl, rfl⟩)))
         have HD : Hid (∃ E2, CT w (W.setCell ⟨g, o + i * 6 + 1, none⟩ (.slice none 0 0)).drew g o n c win cap E E2 T N i ∧ Row (W.setCell ⟨g, o + i * 6 + 1, none⟩ (.slice none 0 0)).drew eb 73 #[.string (E i).v, .slice (E i).tA (E i).tn (E i).tc, .bool (E i).neg, .int .i64 (E i).mn, .int .i64 (E i).mx, .slice (E i).pA (E i).pn (E i).pc]) := by
           obtain ⟨E3, h3⟩ := CI.types HI.out hlt (Below.refl _ W) HTA.out.2.1.symm (.inl ⟨rfl, rfl, rfl⟩)
           exact ⟨E3, h3.call ((Below.refl _ _).drew), Row.drew (HEB.out.past (p := ⟨g, o + i * 6 + 1, none⟩) (by have := GN.out; show eb ≠ g; omega) _)⟩
         clear gl gx gf HS HST k1 HB
         go_wp2_with fail
         go_meet
         exact HD.out
       · obtain ⟨tg, tq, _, htA, _, _, _⟩ := ct 0 (by omega)
         have HEB2 := HEB
         rw [htA] at HEB2
         have HCP : Hid (∀ X, Below w.heap.size w X → Cell X (fun _ => True) (some ⟨tg, tq, none⟩) ((E i).tn * 1) (T i)) := fun X hX => by
           rcases CT0.out X hX with ⟨q, _⟩ | ⟨q, _⟩
           · rw [htA] at q; cases q
           · rw [← htA]; exact q.cell
         have t01 := Lib.hid (And.intro t0 t1)
         have HTA := Lib.hid htA
         clear ct htA
         have hS : ∀ X, Below W.heap.size W X → X.cell? ⟨w.heap.size, 0, none⟩ = some (.slice (some ⟨g, o, none⟩) n c) ∧ X.cell? ⟨eb, 1, none⟩ = some (.slice (some ⟨tg, tq, none⟩) (E i).tn (E i).tc) := fun X hX => ⟨(HI.out.call hX).row1.cell 0, (HEB2.out.below hX HEB2.out.lt).cell 1⟩
         have k1 := hS _ (Below.refl _ _)
         have hST : ∀ (X : World) (u : Value), (X.cell? ⟨w.heap.size, 0, none⟩ = some (.slice (some ⟨g, o, none⟩) n c) ∧ X.cell? ⟨eb, 1, none⟩ = some (.slice (some ⟨tg, tq, none⟩) (E i).tn (E i).tc)) → ((X.setCell ⟨g, o + i * 6 + 1, none⟩ u).cell? ⟨w.heap.size, 0, none⟩ = some (.slice (some ⟨g, o, none⟩) n c) ∧ (X.setCell ⟨g, o + i * 6 + 1, none⟩ u).cell? ⟨eb, 1, none⟩ = some (.slice (some ⟨tg, tq, none⟩) (E i).tn (E i).tc)) := fun X u ⟨q0, q1⟩ =>
           ⟨(World.cell?_setCell_other _ _ _ _ (by have := GN.out; first | (simp; done) | (simp; omega))).trans q0, (World.cell?_setCell_other _ _ _ _ (by have := GN.out; first | (simp; done) | (simp; omega))).trans q1⟩
         have HS := Lib.hid hS
         have HST := Lib.hid hST
         clear hS hST
         have HB : Hid (Below W.heap.size W W.drew) := (Below.refl _ W).drew
         go_region_held3 (fun X => X.cell? ⟨w.heap.size, 0, none⟩ = some (.slice (some ⟨g, o, none⟩) n c) ∧ X.cell? ⟨eb, 1, none⟩ = some (.slice (some ⟨tg, tq, none⟩) (E i).tn (E i).tc))
           (first
             | exact k1
             | exact HS.out _ HB.out
             | exact HST.out _ _ (HS.out _ HB.out)
             | exact HST.out W _ k1
             | fail)
           ((first
             | (
                 go_at_call 100
                 (with_reducible refine (str_some tg tq (E i).tn (E i).tc (T i) _ (HCP.out _ (HI.out.be.trans (HB.out.mono HI.out.be.size))) (fun k _ => (H1.out i k).1) t01.out.1 (by have := t01.out.2; omega)).mono ?_)
                 rintro e w5 ⟨g2, o2, c2, rfl, hO, hcb⟩
                 have HCB := Lib.hid hcb
                 clear hcb
                 have HO := Lib.hid hO
                 have hb5 := HB.out.trans (hO.be.mono HB.out.size)
                 have HB := Lib.hid hb5
                 have z0 := (HI.out.call hb5).le.cell hlt (j := 1) (by omega)
                 have zf := (HI.out.call hb5).le.free (o + i * 6 + 1)
                 have zl := (HI.out.call hb5).le.lt
                 clear hO hb5)))
         have HD : Hid (∃ E3, CT w (w5.setCell ⟨g, o + i * 6 + 1, none⟩ (.slice (some ⟨g2, o2, none⟩) (E i).tn c2)) g o n c win cap E E3 T N i ∧ Row (w5.setCell ⟨g, o + i * 6 + 1, none⟩ (.slice (some ⟨g2, o2, none⟩) (E i).tn c2)) eb 73 #[.string (E i).v, .slice (E i).tA (E i).tn (E i).tc, .bool (E i).neg, .int .i64 (E i).mn, .int .i64 (E i).mx, .slice (E i).pA (E i).pn (E i).pc]) := by
           have hcl := HO.out.rcell (P := fun b => w.heap.size + 2 ≤ b ∧ b ≠ g) ⟨by have := HO.out.ge; have := HI.out.row2.lt; simp at *; omega, by have := HO.out.ge; have := HI.out.le.lt; simp at *; omega⟩
           rw [Nat.mul_one] at hcl
           obtain ⟨E3, h3⟩ := CI.types HI.out hlt (c' := c2) HB.out rfl (.inr ⟨hcl, t01.out.1, t01.out.2, HCB.out.1, HCB.out.2⟩)
           exact ⟨E3, h3, (HEB.out.below HB.out HEB.out.lt).past (p := ⟨g, o + i * 6 + 1, none⟩) (by have := GN.out; show eb ≠ g; omega) _⟩
         clear gl gx gf z0 zf zl HS HST k1 HB HO
         go_wp2_with fail
         go_meet
         exact HD.out
      case rest =>
       clear HI HEB gx gf gl
       obtain ⟨E2, hCT⟩ := hcut
       have HT := Lib.hid hCT.1
       have HEB := Lib.hid hCT.2
       clear hCT
       have gl := HT.out.le.lt
       have gx := (HT.out.le.cell hlt (j := 5) (by omega))
       have gf := HT.out.le.free (o + i * 6 + 5)
       rcases CP0.out wc HT.out.be with ⟨pA0, pn0, pc0⟩ | ⟨cp, p0, p1⟩
       · rw [pA0, pn0, pc0] at HEB
         have HPA := Lib.hid (And.intro pA0 pn0)
         clear pA0 pn0 pc0
         go_upto_region 6 with fail
         have hS : ∀ X, Below wc.heap.size wc X → X.cell? ⟨w.heap.size, 0, none⟩ = some (.slice (some ⟨g, o, none⟩) n c) ∧ X.cell? ⟨eb, 5, none⟩ = some (.slice none 0 0) := fun X hX => ⟨(HT.out.call hX).row1.cell 0, (HEB.out.below hX HEB.out.lt).cell 5⟩
         have k1 := hS _ (Below.refl _ _)
         have hST : ∀ (X : World) (u : Value), (X.cell? ⟨w.heap.size, 0, none⟩ = some (.slice (some ⟨g, o, none⟩) n c) ∧ X.cell? ⟨eb, 5, none⟩ = some (.slice none 0 0)) → ((X.setCell ⟨g, o + i * 6 + 5, none⟩ u).cell? ⟨w.heap.size, 0, none⟩ = some (.slice (some ⟨g, o, none⟩) n c) ∧ (X.setCell ⟨g, o + i * 6 + 5, none⟩ u).cell? ⟨eb, 5, none⟩ = some (.slice none 0 0)) := fun X u ⟨q0, q1⟩ =>
           ⟨(World.cell?_setCell_other _ _ _ _ (by have := GN.out; first | (simp; done) | (simp; omega))).trans q0, (World.cell?_setCell_other _ _ _ _ (by have := GN.out; first | (simp; done) | (simp; omega))).trans q1⟩
         have HS := Lib.hid hS
         have HST := Lib.hid hST
         clear hS hST
         have HB : Hid (Below wc.heap.size wc wc.drew) := (Below.refl _ wc).drew
         go_region_held3 (fun X => X.cell? ⟨w.heap.size, 0, none⟩ = some (.slice (some ⟨g, o, none⟩) n c) ∧ X.cell? ⟨eb, 5, none⟩ = some (.slice none 0 0))
           (first
             | exact k1
             | exact HS.out _ HB.out
             | exact HST.out _ _ (HS.out _ HB.out)
             | exact HST.out wc _ k1
             | fail)
           ((first
             | (
                 go_at_call 104
                 (with_reducible refine (nod_nil _).mono ?_)
                 rintro e w5 ⟨rfl, rfl⟩)))
         have HD : Hid (∃ E3, CI w (wc.setCell ⟨g, o + i * 6 + 5, none⟩ (.slice none 0 0)).drew g o n c win cap E E3 T N (i + 1)) := by
           obtain ⟨E3, h3⟩ := CT.done HT.out hlt (Below.refl _ wc) HPA.out.2.symm (.inl ⟨rfl, rfl, rfl⟩)
           exact ⟨E3, h3.call ((Below.refl _ _).drew)⟩
         clear gl gx gf HS HST k1 HB
         go_wp2
         go_roundw
         case measure => simp [intOf]; omega
         case rel => exact ⟨i + 1, by omega, by go_num, HD⟩
       · obtain ⟨pg, pq, _, hpA, _, _, _⟩ := cp 0 (by omega)
         rw [hpA] at HEB cp
         have HCP : Hid (∀ X, Below w.heap.size w X → Cell X (fun _ => True) (some ⟨pg, pq, none⟩) ((E i).pn * 7) (N i)) := fun X hX => by
           rcases CP0.out X hX with ⟨q, _⟩ | ⟨q, _⟩
           · rw [hpA] at q; cases q
           · rw [← hpA]; exact q.cell
         have p01 := Lib.hid (And.intro p0 p1)
         clear cp hpA
         go_upto_region 6 with fail
         have hS : ∀ X, Below wc.heap.size wc X → X.cell? ⟨w.heap.size, 0, none⟩ = some (.slice (some ⟨g, o, none⟩) n c) ∧ X.cell? ⟨eb, 5, none⟩ = some (.slice (some ⟨pg, pq, none⟩) (E i).pn (E i).pc) := fun X hX => ⟨(HT.out.call hX).row1.cell 0, (HEB.out.below hX HEB.out.lt).cell 5⟩
         have k1 := hS _ (Below.refl _ _)
         have hST : ∀ (X : World) (u : Value), (X.cell? ⟨w.heap.size, 0, none⟩ = some (.slice (some ⟨g, o, none⟩) n c) ∧ X.cell? ⟨eb, 5, none⟩ = some (.slice (some ⟨pg, pq, none⟩) (E i).pn (E i).pc)) → ((X.setCell ⟨g, o + i * 6 + 5, none⟩ u).cell? ⟨w.heap.size, 0, none⟩ = some (.slice (some ⟨g, o, none⟩) n c) ∧ (X.setCell ⟨g, o + i * 6 + 5, none⟩ u).cell? ⟨eb, 5, none⟩ = some (.slice (some ⟨pg, pq, none⟩) (E i).pn (E i).pc)) := fun X u ⟨q0, q1⟩ =>
           ⟨(World.cell?_setCell_other _ _ _ _ (by have := GN.out; first | (simp; done) | (simp; omega))).trans q0, (World.cell?_setCell_other _ _ _ _ (by have := GN.out; first | (simp; done) | (simp; omega))).trans q1⟩
         have HS := Lib.hid hS
         have HST := Lib.hid hST
         clear hS hST
         have HB : Hid (Below wc.heap.size wc wc.drew) := (Below.refl _ wc).drew
         go_region_held3 (fun X => X.cell? ⟨w.heap.size, 0, none⟩ = some (.slice (some ⟨g, o, none⟩) n c) ∧ X.cell? ⟨eb, 5, none⟩ = some (.slice (some ⟨pg, pq, none⟩) (E i).pn (E i).pc))
           (first
             | exact k1
             | exact HS.out _ HB.out
             | exact HST.out _ _ (HS.out _ HB.out)
             | exact HST.out wc _ k1
             | fail)
           ((first
             | (
                 go_at_call 104
                 (with_reducible refine (nod_some pg pq (E i).pn (E i).pc (N i) _ (HCP.out _ (HT.out.be.trans (HB.out.mono HT.out.be.size))) (fun k _ => (H1.out i k).2) p01.out.1 (by have := p01.out.2; omega)).mono ?_)
                 rintro e w5 ⟨g2, o2, c2, rfl, hO, hcb⟩
                 have HCB := Lib.hid hcb
                 clear hcb
                 have HO := Lib.hid hO
                 have hb5 := HB.out.trans (hO.be.mono HB.out.size)
                 have HB := Lib.hid hb5
                 have z0 := (HT.out.call hb5).le.cell hlt (j := 5) (by omega)
                 have zf := (HT.out.call hb5).le.free (o + i * 6 + 5)
                 have zl := (HT.out.call hb5).le.lt
                 clear hO hb5)))
         have HD : Hid (∃ E3, CI w (w5.setCell ⟨g, o + i * 6 + 5, none⟩ (.slice (some ⟨g2, o2, none⟩) (E i).pn c2)) g o n c win cap E E3 T N (i + 1)) := CT.done HT.out hlt HB.out rfl (.inr ⟨HO.out.rcell ⟨by have := HO.out.ge; have := HT.out.row2.lt; simp at *; omega, by have := HO.out.ge; have := HT.out.le.lt; simp at *; omega⟩, p01.out.1, p01.out.2, HCB.out.1, HCB.out.2⟩)
         clear gl gx gf z0 zf zl HS HST k1 HB HO
         go_wp2
         go_roundw
         case measure => simp [intOf]; omega
         case rel => exact ⟨i + 1, by omega, by go_num, HD⟩
    · have d0 : wr.cell? ⟨w.heap.size, 0, none⟩ = some (.slice (some ⟨g, o, none⟩) n c) := HI.out.row1.cell 0
      have d1 : wr.cell? ⟨w.heap.size, 1, none⟩ = some (.int .i64 win) := HI.out.row1.cell 1
      have d2 : wr.cell? ⟨w.heap.size, 2, none⟩ = some (.int .i64 cap) := HI.out.row1.cell 2
      have x0 : wr.cell? ⟨w.heap.size + 1, 0, none⟩ = some (.slice none 0 0) := HI.out.row2.cell 0
      have x1 : wr.cell? ⟨w.heap.size + 1, 1, none⟩ = some (.int .i64 0) := HI.out.row2.cell 1
      have x2 : wr.cell? ⟨w.heap.size + 1, 2, none⟩ = some (.int .i64 0) := HI.out.row2.cell 2
      have xf := HI.out.row2.free
      have xl := HI.out.row2.lt
      obtain rfl : i = n := by omega
      have HF : Hid (Copied w (((wr.setCell ⟨w.heap.size + 1, 0, none⟩ (.slice (some ⟨g, o, none⟩) i c)).setCell ⟨w.heap.size + 1, 1, none⟩ (.int .i64 win)).setCell ⟨w.heap.size + 1, 2, none⟩ (.int .i64 cap)) g o i E E' T N ∧ Row (((wr.setCell ⟨w.heap.size + 1, 0, none⟩ (.slice (some ⟨g, o, none⟩) i c)).setCell ⟨w.heap.size + 1, 1, none⟩ (.int .i64 win)).setCell ⟨w.heap.size + 1, 2, none⟩ (.int .i64 cap)) (w.heap.size + 1) 67 #[.slice (some ⟨g, o, none⟩) i c, .int .i64 win, .int .i64 cap]) := CI.ends HI.out
      go_wp2
      have y0 := HF.out.2.cell 0
      have y1 := HF.out.2.cell 1
      have y2 := HF.out.2.cell 2
      simp only [List.getElem?_toArray, List.getElem?_cons_zero, List.getElem?_cons_succ] at y0 y1 y2
      exact bodyPost_ret (v := .agg #[.slice (some ⟨g, o, none⟩) i c, .int .i64 win, .int .i64 cap]) (by simp [results, Try.results39, go_sem, y0, y1, y2]) rfl ⟨g, o, c, E', rfl, HF.out.1, HCB0.out⟩
end Go.Proofs.Ytopbildpeojgoaa.Pc
