/- ref03.Sort, walked. -/
import Derived.Test.YtookojgemipakaaDoorE6I
import Derived.BigQuiet
namespace Go.Proofs.YtookojgemipakaaDoor.E6
open Go.RowKit Go.Proofs.YtookojgemipakaaDoor Go.Proofs.YtookojgemipakaaDoor.Ev Go.Proofs.YtookojgemipakaaDoor.Evl Go.Proofs.YtookojgemipakaaDoor.E4
set_option linter.unusedVariables false
set_option maxRecDepth 100000
theorem put_get (G : Rc) (M : List Rc) (k : Nat) (h : k ≤ M.length) : (putAt G M k)[k]? = some G := by
  have hl : (M.take k).length = k := by rw [List.length_take]; omega
  unfold putAt
  rw [List.getElem?_append_right (by omega), hl]
  simp
structure RO (w wr : World) (v3 : Value) (Lr : List Rc) (i : Nat) : Prop where
  be : Below w.heap.size w wr
  sg : ∃ ob, Seg wr 24 5 v3 i ((isort (Lr.take i)).flatMap Rc.cells) ob ∧ ∀ g, ob = some g → w.heap.size ≤ g
theorem seg_none5 (w : World) (e : TypeId) (K : Nat) (A : Option Addr) : Seg w e K (.slice A 0 0) 0 [] none := ⟨by simp, _, 0, rfl, Nat.le_refl _, by unfold maxLen; omega, .inl ⟨rfl, rfl, fun _ => trivial⟩⟩
def RsEnd (w : World) (Lr : List Rc) (n : Nat) (e : Ending) (w' : World) : Prop := ∃ v3, e = .returned v3 ∧ RO w w' v3 Lr n
/-- The things of a segment, one by one. -/
theorem seg_at {w : World} {v : Value} {n : Nat} {R : List Rc} {ob : Option Nat} (h : Seg w 24 5 v n (R.flatMap Rc.cells) ob) (hn : 0 < n) : ∃ g o c, v = .slice (some ⟨g, o, none⟩) n c ∧ ob = some g ∧ n ≤ c ∧ c ≤ 9223372036854775807 ∧ DL w g o R := by
  obtain ⟨g, o, c, rfl, rfl, h1, h2, _, _⟩ := h.shape hn
  exact ⟨g, o, c, rfl, rfl, h1, by unfold maxLen at h2; omega, dl_seg h⟩
set_option maxHeartbeats 4000000 in
theorem ref_sort (w0 w : World) (v : Value) (es : List EM) (n : Nat) (h : EVS w0 w v es) (hn : es.length = n) (h20 : n ≤ 20) :
    Calls Tryd.prog 15 #[v] w (RsEnd w (es.map rcE) n) := by
  have HV := Lib.hid h
  obtain ⟨ob0, hs0, _, _⟩ := h.sg
  obtain ⟨A, c, rfl, hc1, hc2⟩ := hs0.form
  rw [hn] at HV hc1 ⊢
  have hc9 : c ≤ 9223372036854775807 := by unfold maxLen at hc2; omega
  obtain ⟨i0, hi0, hz0, hz1, hz2⟩ := info_parts event_info
  have HN := Lib.hid hn
  have HLr := Lib.hid (show (es.map rcE).length = n by rw [List.length_map]; exact hn)
  have HRO : Hid (RO w (w.alloc (.cells #[] 24)) (.slice (some ⟨w.heap.size, 0, none⟩) 0 0) (es.map rcE) 0) := Lib.hid ⟨(Below.refl _ w).alloc (Nat.le_refl _) _, none, seg_none5 _ _ _ _, fun g e => by cases e⟩
  clear h hs0 hc2 hn
  go_enter Tryd.func15, Tryd.ntmps15
  go_wp2
  go_loopw [4, 3, 5, 6] (fun v4 v3 s5 s6 wr => ∃ i : Nat, i ≤ n ∧ v4 = .int .i64 i ∧ Hid (RO w wr v3 (es.map rcE) i)) (fun v4 _ _ _ _ => n - (intOf v4).toNat)
  case atStart => exact ⟨0, by omega, rfl, HRO⟩
  case round =>
    clear HRO
    obtain ⟨i, hi, rfl, hS⟩ := hrel
    obtain ⟨W1, hW1⟩ : ∃ W1 : World, W1 = wr := ⟨wr, rfl⟩
    subst hW1
    by_cases hlt : i < n
    · have hiz : (i : Int) < (n : Int) := by omega
      have hil : i < es.length := by rw [HN.out]; exact hlt
      obtain ⟨e, he⟩ : ∃ e, es[i] = e := ⟨_, rfl⟩
      obtain ⟨gx, ox, cx, ex, _, _, hgx, ⟨c0, c1, c2, c3, c4⟩, hrow, hln⟩ := EVS.elem HV.out hil he
      injection ex with ex1 ex2 ex3
      subst ex1 ex3
      obtain ⟨x, hx⟩ : ∃ x, rcE e = x := ⟨_, rfl⟩
      have hxL : (es.map rcE)[i]? = some x := by rw [List.getElem?_map, List.getElem?_eq_getElem hil, he, ← hx]; rfl
      have d0 : W1.cell? ⟨gx, ox + i * 5, none⟩ = some (.string x.ty) := by rw [← hx]; exact (hS.out.be.cell (p := ⟨gx, ox + i * 5, none⟩) hgx).trans c0
      have d1 : W1.cell? ⟨gx, ox + i * 5 + 1, none⟩ = some (.string x.key) := by rw [← hx]; exact (hS.out.be.cell (p := ⟨gx, ox + i * 5 + 1, none⟩) hgx).trans c1
      have d2 : W1.cell? ⟨gx, ox + i * 5 + 2, none⟩ = some (.int .i64 x.t) := by rw [← hx]; exact (hS.out.be.cell (p := ⟨gx, ox + i * 5 + 2, none⟩) hgx).trans c2
      have d3 : W1.cell? ⟨gx, ox + i * 5 + 3, none⟩ = some (.int .i64 x.q) := by rw [← hx]; exact (hS.out.be.cell (p := ⟨gx, ox + i * 5 + 3, none⟩) hgx).trans c3
      have d4 : W1.cell? ⟨gx, ox + i * 5 + 4, none⟩ = some (.slice x.A x.n x.c) := by rw [← hx]; exact (hS.out.be.cell (p := ⟨gx, ox + i * 5 + 4, none⟩) hgx).trans c4
      have HX := Lib.hid hxL
      have hgx1 : gx < W1.heap.size := Nat.lt_of_lt_of_le hgx hS.out.be.size
      have HXC : Hid (∀ X, Below W1.heap.size W1 X → X.cell? ⟨gx, ox + i * 5, none⟩ = some (.string x.ty) ∧ X.cell? ⟨gx, ox + i * 5 + 1, none⟩ = some (.string x.key) ∧ X.cell? ⟨gx, ox + i * 5 + 2, none⟩ = some (.int .i64 x.t) ∧ X.cell? ⟨gx, ox + i * 5 + 3, none⟩ = some (.int .i64 x.q) ∧ X.cell? ⟨gx, ox + i * 5 + 4, none⟩ = some (.slice x.A x.n x.c)) := Lib.hid (fun X hb => ⟨(hb.cell (p := ⟨gx, _, none⟩) hgx1).trans d0, (hb.cell (p := ⟨gx, _, none⟩) hgx1).trans d1, (hb.cell (p := ⟨gx, _, none⟩) hgx1).trans d2, (hb.cell (p := ⟨gx, _, none⟩) hgx1).trans d3, (hb.cell (p := ⟨gx, _, none⟩) hgx1).trans d4⟩)
      have HXW : Hid (∀ X, Below w.heap.size w X → X.cell? ⟨gx, ox + i * 5, none⟩ = some (.string x.ty) ∧ X.cell? ⟨gx, ox + i * 5 + 1, none⟩ = some (.string x.key) ∧ X.cell? ⟨gx, ox + i * 5 + 2, none⟩ = some (.int .i64 x.t) ∧ X.cell? ⟨gx, ox + i * 5 + 3, none⟩ = some (.int .i64 x.q) ∧ X.cell? ⟨gx, ox + i * 5 + 4, none⟩ = some (.slice x.A x.n x.c)) := Lib.hid (fun X hb => by
        rw [← hx]
        exact ⟨(hb.cell (p := ⟨gx, _, none⟩) hgx).trans c0, (hb.cell (p := ⟨gx, _, none⟩) hgx).trans c1, (hb.cell (p := ⟨gx, _, none⟩) hgx).trans c2, (hb.cell (p := ⟨gx, _, none⟩) hgx).trans c3, (hb.cell (p := ⟨gx, _, none⟩) hgx).trans c4⟩)
      obtain ⟨M, hM⟩ : ∃ M, isort ((es.map rcE).take i) = M := ⟨_, rfl⟩
      have hML : M.length = i := by rw [← hM, isort_len, List.length_take, HLr.out]; omega
      obtain ⟨ob, hsg, hob⟩ := hS.out.sg
      rw [hM] at hsg
      obtain ⟨A3, cap3, rfl, hc31, hc32⟩ := hsg.form
      have hc39 : cap3 ≤ 9223372036854775807 := by unfold maxLen at hc32; omega
      have HMM := Lib.hid hM
      have HML := Lib.hid hML
      have HSG := Lib.hid hsg
      have HOB := Lib.hid hob
      have HBE := Lib.hid hS.out.be
      have HGX := Lib.hid hgx
      clear hS he hrow hln ex2 c0 c1 c2 c3 c4 hx hxL hM hML hsg hob hc32 hil hgx hgx1
      go_upto_block 2 with fail
      go_cut [5] (fun s5 wx => ∃ j : Nat, j ≤ i ∧ s5 = .int .i64 j ∧ insAt x M i = j ∧ Hid (Below W1.heap.size W1 wx))
      case first =>
        go_wp2
        go_loopw [5] (fun v5 wx => ∃ j : Nat, j ≤ i ∧ v5 = .int .i64 j ∧ Hid (Below W1.heap.size W1 wx) ∧ Hid (insAt x M i = insAt x M j)) (fun v5 _ => (intOf v5).toNat)
        case atStart => exact ⟨i, Nat.le_refl _, rfl, Below.refl _ _, Lib.hid rfl⟩
        case round =>
          obtain ⟨J, hJ, rfl, hT, hI⟩ := hrel
          rcases Nat.eq_zero_or_pos J with rfl | hJ0
          · have hz0 : decide ((0 : Int) < ((0 : Nat) : Int)) = false := by decide
            go_upto_region 6 with fail
            go_quiet (fail)
            go_wp2
            go_meet
            exact ⟨0, by omega, rfl, hI.out, Lib.hid (by first | exact hT.out | exact below_drewN hT.out _)⟩
          · obtain ⟨j, hJj⟩ : ∃ j, J = j + 1 := ⟨J - 1, by omega⟩
            rw [hJj] at hI
            have HJJ := Lib.hid hJj
            have hjM : j < M.length := by rw [HML.out]; omega
            have hgt : decide ((0 : Int) < (J : Int)) = true := decide_eq_true (by omega)
            have hgt2 : decide (0 < J) = true := decide_eq_true hJ0
            have hwr : IntKind.i64.wrap ((J : Int) - 1) = (j : Int) := by rw [IntKind.wrap_i64]; omega
            have hj0 : (0 : Int) ≤ (j : Int) := by omega
            have hji : (j : Int) < (i : Int) := by omega
            obtain ⟨y, hy⟩ : ∃ y, M[j]? = some y := ⟨M[j], List.getElem?_eq_getElem hjM⟩
            have HS3 := Lib.hid (HSG.out.turns (Turns.of_below hT.out) (fun _ _ x => x))
            obtain ⟨gm, om, cm, em, eob, _, _, hdl⟩ := seg_at HS3.out (by omega)
            injection em with em1 em2 em3
            subst em1 em3
            have hbef := ref_before x.ty x.key y.ty y.key x.t x.q y.t y.q x.A y.A x.n y.n x.c y.c
            have HCM := Lib.hid hbef
            obtain ⟨b, hb⟩ : ∃ b, x.bef y = b := ⟨_, rfl⟩
            rw [show bef x.t x.q y.t y.q = b from hb] at HCM
            have hglt : gm < _ := HS3.out.lt gm eob
            have hS : ∀ X, Below W1.heap.size W1 X → X.cell? ⟨gx, ox + i * 5, none⟩ = some (.string x.ty) ∧ X.cell? ⟨gx, ox + i * 5 + 1, none⟩ = some (.string x.key) ∧ X.cell? ⟨gx, ox + i * 5 + 2, none⟩ = some (.int .i64 x.t) ∧ X.cell? ⟨gx, ox + i * 5 + 3, none⟩ = some (.int .i64 x.q) ∧ X.cell? ⟨gx, ox + i * 5 + 4, none⟩ = some (.slice x.A x.n x.c) ∧ X.cell? ⟨gm, om + j * 5, none⟩ = some (.string y.ty) ∧ X.cell? ⟨gm, om + j * 5 + 1, none⟩ = some (.string y.key) ∧ X.cell? ⟨gm, om + j * 5 + 2, none⟩ = some (.int .i64 y.t) ∧ X.cell? ⟨gm, om + j * 5 + 3, none⟩ = some (.int .i64 y.q) ∧ X.cell? ⟨gm, om + j * 5 + 4, none⟩ = some (.slice y.A y.n y.c) := fun X hX => by
              obtain ⟨a0, a1, a2, a3, a4⟩ := HXC.out X hX
              obtain ⟨gm', om', cm', em', _, _, _, hdl'⟩ := seg_at (HSG.out.turns (Turns.of_below hX) (fun _ _ x => x)) (by omega)
              injection em' with em1' _ _
              injection em1' with em1'
              injection em1' with em1' em2' _
              subst em1' em2'
              obtain ⟨b0, b1, b2, b3, b4⟩ := hdl'.at hy
              exact ⟨a0, a1, a2, a3, a4, b0, b1, b2, b3, b4⟩
            obtain ⟨x0, x1, x2, x3, x4, y0, y1, y2, y3, y4⟩ := hS _ hT.out
            have HS := Lib.hid (fun X (hX : Below wr.heap.size wr X) => hS X (hT.out.trans (hX.mono hT.out.size)))
            have HBF := Lib.hid hb
            have HY := Lib.hid hy
            clear hS hbef hb hy hdl eob em2 hjM hglt HS3 d0 d1 d2 d3 d4 hJj
            have HB : Hid (Below wr.heap.size wr wr.drew) := (Below.refl _ wr).drew
            go_upto_region 6 with fail
            cases b with
            | false =>
              go_region_held3 (fun X => X.cell? ⟨gx, ox + i * 5, none⟩ = some (.string x.ty) ∧ X.cell? ⟨gx, ox + i * 5 + 1, none⟩ = some (.string x.key) ∧ X.cell? ⟨gx, ox + i * 5 + 2, none⟩ = some (.int .i64 x.t) ∧ X.cell? ⟨gx, ox + i * 5 + 3, none⟩ = some (.int .i64 x.q) ∧ X.cell? ⟨gx, ox + i * 5 + 4, none⟩ = some (.slice x.A x.n x.c) ∧ X.cell? ⟨gm, om + j * 5, none⟩ = some (.string y.ty) ∧ X.cell? ⟨gm, om + j * 5 + 1, none⟩ = some (.string y.key) ∧ X.cell? ⟨gm, om + j * 5 + 2, none⟩ = some (.int .i64 y.t) ∧ X.cell? ⟨gm, om + j * 5 + 3, none⟩ = some (.int .i64 y.q) ∧ X.cell? ⟨gm, om + j * 5 + 4, none⟩ = some (.slice y.A y.n y.c))
                (first
                  | with_reducible exact ⟨x0, x1, x2, x3, x4, y0, y1, y2, y3, y4⟩
                  | with_reducible exact HS.out _ HB.out
                  | fail)
                ((first
                  | (go_at_call 18
                     (with_reducible refine (HCM.out _).mono ?_)
                     rintro e w3 ⟨rfl, hb⟩
                     have h3 := HB.out.trans (hb.mono HB.out.size)
                     have HB := Lib.hid h3
                     clear hb h3)
                  | fail))
              have HT3 := Lib.hid (hT.out.trans (HB.out.mono hT.out.size))
              have hfin : insAt x M i = J := by rw [hI.out, insAt_no HY.out HBF.out, HJJ.out]
              clear x0 x1 x2 x3 x4 y0 y1 y2 y3 y4 HS HCM
              go_wp2
              go_meet
              exact ⟨J, hJ, rfl, hfin, HT3⟩
            | true =>
              go_region_held3 (fun X => X.cell? ⟨gx, ox + i * 5, none⟩ = some (.string x.ty) ∧ X.cell? ⟨gx, ox + i * 5 + 1, none⟩ = some (.string x.key) ∧ X.cell? ⟨gx, ox + i * 5 + 2, none⟩ = some (.int .i64 x.t) ∧ X.cell? ⟨gx, ox + i * 5 + 3, none⟩ = some (.int .i64 x.q) ∧ X.cell? ⟨gx, ox + i * 5 + 4, none⟩ = some (.slice x.A x.n x.c) ∧ X.cell? ⟨gm, om + j * 5, none⟩ = some (.string y.ty) ∧ X.cell? ⟨gm, om + j * 5 + 1, none⟩ = some (.string y.key) ∧ X.cell? ⟨gm, om + j * 5 + 2, none⟩ = some (.int .i64 y.t) ∧ X.cell? ⟨gm, om + j * 5 + 3, none⟩ = some (.int .i64 y.q) ∧ X.cell? ⟨gm, om + j * 5 + 4, none⟩ = some (.slice y.A y.n y.c))
                (first
                  | with_reducible exact ⟨x0, x1, x2, x3, x4, y0, y1, y2, y3, y4⟩
                  | with_reducible exact HS.out _ HB.out
                  | fail)
                ((first
                  | (go_at_call 18
                     (with_reducible refine (HCM.out _).mono ?_)
                     rintro e w3 ⟨rfl, hb⟩
                     have h3 := HB.out.trans (hb.mono HB.out.size)
                     have HB := Lib.hid h3
                     clear hb h3)
                  | fail))
              have HT3 := Lib.hid (hT.out.trans (HB.out.mono hT.out.size))
              have HI3 := Lib.hid (hI.out.trans (insAt_yes HY.out HBF.out))
              clear x0 x1 x2 x3 x4 y0 y1 y2 y3 y4 HS HCM
              go_wp2
              go_roundw
              case rel => exact ⟨j, by have := HJJ.out; omega, by go_num, HT3, HI3⟩
              case measure => have := HJJ.out; simp [intOf]; omega
      case rest =>
        obtain ⟨j, hj, rfl, hins, hB⟩ := hcut
        have HINS := Lib.hid hins
        have HBc := Lib.hid (HBE.out.trans (hB.out.mono HBE.out.size))
        have HSc := Lib.hid (HSG.out.turns (Turns.of_below hB.out) (fun _ _ x => x))
        have hi20 : i ≤ 20 := by omega
        clear hins hB HXC d0 d1 d2 d3 d4
        go_upto_region 9 with (at_builtin; refine wpList_append_seg _ rfl _ _ 39 rfl 24 i0 _ 5 72 Tryd.underlying39 hi0 hz0 hz1 hz2 rfl (by decide) _ i (M.flatMap Rc.cells) ob rfl (HSc.out.alloc _) ⟨wc.heap.size, 0, none⟩ 1 1 [.string ⟨#[]⟩, .string ⟨#[]⟩, .int .i64 0, .int .i64 0, .slice none 0 0] rfl rfl (five_news _ _ _ _ _ _ _ rfl) (by simp [Value.oneCell']) (by decide) (by unfold maxLen; omega) (by omega) ?_; intro v6 w6 ob6 hs6 ht6 ho6)
        obtain ⟨g6, hg6⟩ : ∃ g6, ob6 = some g6 := by
          obtain ⟨g, _, _, _, e, _⟩ := hs6.shape (by omega)
          exact ⟨g, e⟩
        subst hg6
        have hsR : Seg w6 24 5 v6 (i + 1) ((putAt zeroR M i).flatMap Rc.cells) (some g6) := by
          rw [put_end M i HML.out, List.flatMap_append]
          exact hs6
        obtain ⟨o6, cap6, rfl, hc61, hc62, hrd⟩ := rd_of_seg hsR
        have hmx : cap6 ≤ maxLen := by
          obtain ⟨A', cap', e, _, h2⟩ := hsR.form
          cases e
          exact h2
        have hT6 : Turns wc w6 (fun k => ob = some k) := ((Turns.refl wc _).alloc _).trans ht6 (fun _ _ e => e)
        have hB6 : Below w.heap.size w w6 := hT6.below HBc.out HBc.out.size (fun k hk e => by have := HOB.out k e; omega)
        have hge6 : w.heap.size ≤ g6 := by
          have hz := HBc.out.size
          rcases ho6 with e | ⟨g', e, hg'⟩
          · exact HOB.out g6 e.symm
          · injection e with e
            subst e
            simp at hg'
            omega
        have HRD := Lib.hid hrd
        have HB6 := Lib.hid hB6
        have HGE := Lib.hid hge6
        have HMX := Lib.hid hmx
        obtain ⟨N1, hN1⟩ : ∃ N1, i + 1 = N1 := ⟨_, rfl⟩
        have HN1 := Lib.hid hN1
        have hwN : IntKind.i64.wrap ((N1 : Int) - 1) = (i : Int) := by rw [IntKind.wrap_i64]; omega
        have hN20 : N1 ≤ 21 := by omega
        have hN9 : N1 ≤ 9223372036854775807 := by omega
        rw [hN1] at hc61 ⊢
        clear hs6 ht6 ho6 hsR hrd hT6 hB6 hge6 hmx hN1 HSc HBc
        go_upto_block 4 with fail
        go_cut [6] (fun s6 wx => Hid (∃ G, RD wx g6 o6 cap6 (putAt G M j)) ∧ Hid (Below w.heap.size w wx))
        case first =>
          go_wp2
          go_loopw [6] (fun v6 wx => ∃ k : Nat, j ≤ k ∧ k ≤ i ∧ v6 = .int .i64 k ∧ Hid (∃ G, RD wx g6 o6 cap6 (putAt G M k)) ∧ Hid (Below w.heap.size w wx)) (fun v6 _ => (intOf v6).toNat)
          case atStart => exact ⟨i, hj, Nat.le_refl _, rfl, Lib.hid ⟨_, HRD.out⟩, HB6⟩
          case round =>
            obtain ⟨k, hjk, hki, rfl, hR, hB⟩ := hrel
            by_cases hkj : j < k
            · obtain ⟨k', hk'⟩ : ∃ k', k = k' + 1 := ⟨k - 1, by omega⟩
              have hkjz : (j : Int) < (k : Int) := by omega
              have hwk : IntKind.i64.wrap ((k : Int) - 1) = (k' : Int) := by rw [IntKind.wrap_i64]; omega
              have hk0 : (0 : Int) ≤ (k' : Int) := by omega
              have hk1 : (k' : Int) < (N1 : Int) := by have := HN1.out; omega
              have hk2 : (k : Int) < (N1 : Int) := by have := HN1.out; omega
              have hkM : k' < M.length := by rw [HML.out]; omega
              obtain ⟨y, hy⟩ : ∃ y, M[k']? = some y := ⟨M[k'], List.getElem?_eq_getElem hkM⟩
              obtain ⟨G, hG⟩ := hR.out
              rw [hk'] at hG
              obtain ⟨y0, y1, y2, y3, y4⟩ := hG.2.at (get_hi (R := []) hy |>.1 |> fun h => by simpa using h)
              obtain ⟨x0, x1, x2, x3, x4⟩ := hG.2.at (get_hi (R := []) hy |>.2 |> fun h => by simpa using h)
              have hlen : k' + 1 < (putAt G M (k' + 1)).length := by rw [put_len, HML.out]; omega
              have hst := RD.store hG hlen y
              rw [put_set hy] at hst
              unfold set5 at hst
              rw [← hk'] at hst x0 x1 x2 x3 x4
              have HST := Lib.hid hst
              obtain ⟨z0, z1, z2, z3, z4⟩ : wr.frozen? ⟨g6, o6 + k * 5, none⟩ = false ∧ wr.frozen? ⟨g6, o6 + k * 5 + 1, none⟩ = false ∧ wr.frozen? ⟨g6, o6 + k * 5 + 2, none⟩ = false ∧ wr.frozen? ⟨g6, o6 + k * 5 + 3, none⟩ = false ∧ wr.frozen? ⟨g6, o6 + k * 5 + 4, none⟩ = false := ⟨hG.2.fz _, hG.2.fz _, hG.2.fz _, hG.2.fz _, hG.2.fz _⟩
              have HB2 := Lib.hid (((((hB.out.setCell (p := ⟨g6, o6 + k * 5, none⟩) HGE.out (.string y.ty)).setCell (p := ⟨g6, o6 + k * 5 + 1, none⟩) HGE.out (.string y.key)).setCell (p := ⟨g6, o6 + k * 5 + 2, none⟩) HGE.out (.int .i64 y.t)).setCell (p := ⟨g6, o6 + k * 5 + 3, none⟩) HGE.out (.int .i64 y.q)).setCell (p := ⟨g6, o6 + k * 5 + 4, none⟩) HGE.out (.slice y.A y.n y.c))
              have HKK := Lib.hid hk'
              clear hR hB hG hst hlen hy hkM hk'
              go_wp2
              go_roundw
              case rel => exact ⟨k', by have := HKK.out; omega, by have := HKK.out; omega, by go_num, Lib.hid ⟨y, HST.out⟩, HB2⟩
              case measure => have := HKK.out; simp [intOf]; omega
            · obtain rfl : k = j := by omega
              have hkjz : ¬ (k : Int) < (k : Int) := by omega
              go_wp2
              go_meet
              exact ⟨hR, hB⟩
        case rest =>
          obtain ⟨hR, hB⟩ := hcut
          obtain ⟨G, hG⟩ := hR.out
          obtain ⟨x0, x1, x2, x3, x4⟩ := HXW.out _ hB.out
          obtain ⟨q0, q1, q2, q3, q4⟩ := hG.2.at (put_get G M j (by rw [HML.out]; exact hj))
          have hst := RD.store hG (k := j) (by rw [put_len, HML.out]; omega) x
          rw [put_put (by rw [HML.out]; exact hj)] at hst
          unfold set5 at hst
          obtain ⟨z0, z1, z2, z3, z4⟩ : wc.frozen? ⟨g6, o6 + j * 5, none⟩ = false ∧ wc.frozen? ⟨g6, o6 + j * 5 + 1, none⟩ = false ∧ wc.frozen? ⟨g6, o6 + j * 5 + 2, none⟩ = false ∧ wc.frozen? ⟨g6, o6 + j * 5 + 3, none⟩ = false ∧ wc.frozen? ⟨g6, o6 + j * 5 + 4, none⟩ = false := ⟨hG.2.fz _, hG.2.fz _, hG.2.fz _, hG.2.fz _, hG.2.fz _⟩
          have HB2 := (((((hB.out.setCell (p := ⟨g6, o6 + j * 5, none⟩) HGE.out (.string x.ty)).setCell (p := ⟨g6, o6 + j * 5 + 1, none⟩) HGE.out (.string x.key)).setCell (p := ⟨g6, o6 + j * 5 + 2, none⟩) HGE.out (.int .i64 x.t)).setCell (p := ⟨g6, o6 + j * 5 + 3, none⟩) HGE.out (.int .i64 x.q)).setCell (p := ⟨g6, o6 + j * 5 + 4, none⟩) HGE.out (.slice x.A x.n x.c))
          have hjN : (j : Int) < (N1 : Int) := by have := HN1.out; omega
          have hw1 : IntKind.i64.wrap ((i : Int) + 1) = (i : Int) + 1 := by rw [IntKind.wrap_i64]; omega
          have hfin : putAt x M j = isort ((es.map rcE).take (i + 1)) := by
            obtain ⟨hl, hx⟩ := List.getElem?_eq_some_iff.1 HX.out
            rw [isort_take hl, hx, HMM.out]
            unfold insR
            rw [HML.out, HINS.out]
          have HRO : Hid (RO w _ (.slice (some ⟨g6, o6, none⟩) N1 cap6) (es.map rcE) (i + 1)) := Lib.hid ⟨HB2, some g6, by
            have := RD.seg hst (n := N1) (by rw [put_len, HML.out]; exact HN1.out) hc61 HMX.out
            rw [hfin, HN1.out] at this
            rw [HN1.out]
            exact this, fun g e => by cases e; exact HGE.out⟩
          clear hR hB hG hst HB2 hfin
          go_wp2
          go_roundw
          case rel => exact ⟨i + 1, by omega, by go_num, HRO⟩
          case measure => simp [intOf]; omega
    · obtain rfl : i = n := by omega
      have hiz : ¬ (i : Int) < (i : Int) := by omega
      clear hlt
      go_wp2
      go_ret
      exact ⟨_, rfl, hS.out⟩
end Go.Proofs.YtookojgemipakaaDoor.E6
