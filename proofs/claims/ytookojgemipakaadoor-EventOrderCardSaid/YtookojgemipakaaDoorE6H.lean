/- event.Sort, walked. -/
import Derived.Test.YtookojgemipakaaDoorE6G
import Derived.Test.YtookojgemipakaaDoorTab
import Derived.Deep.CutBlock
namespace Go.Proofs.YtookojgemipakaaDoor.E6
open Go.RowKit Go.Proofs.YtookojgemipakaaDoor Go.Proofs.YtookojgemipakaaDoor.Ev Go.Proofs.YtookojgemipakaaDoor.Evl Go.Proofs.YtookojgemipakaaDoor.E4
set_option linter.unusedVariables false
set_option maxRecDepth 100000
/-- What has been copied so far. -/
structure SI (w wr : World) (v3 : Value) (es : List EM) (k : Nat) : Prop where
  be : Below w.heap.size w wr
  ex : ∃ g, ∃ R : List Rc, Seg wr 24 5 v3 k (R.flatMap Rc.cells) (some g) ∧ w.heap.size ≤ g ∧ R.length = k ∧ Alike (Cp wr) R ((es.take k).map conE)
def SrtEnd (w : World) (es : List EM) (n : Nat) (e : Ending) (w' : World) : Prop := ∃ g o c, ∃ R : List Rc, e = .returned (.slice (some ⟨g, o, none⟩) n c) ∧ n ≤ c ∧ c ≤ 9223372036854775807 ∧ DL w' g o R ∧ R.length = n ∧ Alike (Cp w') R (isortG Ec.bef (es.map conE)) ∧ Below w.heap.size w w' ∧ g < w'.heap.size ∧ w.heap.size ≤ g
theorem dl_seg {w : World} {n g o c : Nat} {R : List Rc} (h : Seg w 24 5 (.slice (some ⟨g, o, none⟩) n c) n (R.flatMap Rc.cells) (some g)) : DL w g o R := by
  obtain ⟨o', c', e, _, _, hc, hf⟩ := seg_some h
  injection e with e _ _
  injection e with e
  injection e with _ e _
  subst e
  exact ⟨fun k hk j u hj => by rw [Nat.add_assoc]; exact hc (k * 5 + j) u (flat_get Rc.cells 5 rc_len R k hk j u hj), hf⟩
theorem five_news (w : World) (a0 a1 a2 a3 a4 : Value) (a : Nat) (ha : w.heap.size = a) : ∀ j u, [a0, a1, a2, a3, a4][j]? = some u → (w.alloc (.cells #[a0, a1, a2, a3, a4] 24)).cell? ((⟨a, 0, none⟩ : Addr).add j) = some u := by
  subst ha
  intro j u hj
  rw [show ((⟨w.heap.size, 0, none⟩ : Addr).add j) = ⟨w.heap.size, j, none⟩ from by simp [Addr.add]; omega]
  exact ((Row.made w 24 #[a0, a1, a2, a3, a4]).cell j).trans (by simpa using hj)
/-- One more copy. -/
theorem SI.push {w W W2 : World} {v3 v2 : Value} {es : List EM} {k g : Nat} {R : List Rc} {r : Rc} {ob2 : Option Nat} {o : Obj} (hk : k < es.length) (hb : Below w.heap.size w W) (hs : Seg W 24 5 v3 k (R.flatMap Rc.cells) (some g)) (hg : w.heap.size ≤ g) (hl : R.length = k)
    (ha : Alike (Cp W) R ((es.take k).map conE)) (hr : Cp W r (conE es[k])) (hs2 : Seg W2 24 5 v2 (k + 1) (R.flatMap Rc.cells ++ r.cells) ob2) (ht2 : Turns (W.alloc o) W2 (fun x => some g = some x)) (ho2 : ob2 = some g ∨ ∃ g', ob2 = some g' ∧ (W.alloc o).heap.size ≤ g') : SI w W2 v2 es (k + 1) := by
  have hT : Turns W W2 (fun x => x = g) := ((Turns.refl W _).alloc o).trans ht2 (fun _ _ e => by injection e with e; exact e.symm)
  have hz := hb.size
  have hR : (R ++ [r]).flatMap Rc.cells = R.flatMap Rc.cells ++ r.cells := by simp
  have hE : (es.take (k + 1)).map conE = (es.take k).map conE ++ [conE es[k]] := by rw [List.take_succ_eq_append_getElem hk, List.map_append]; rfl
  have hA : Alike (Cp W2) (R ++ [r]) ((es.take (k + 1)).map conE) := by
    rw [hE]
    exact (ha.append (.cons hr .nil)).mono (fun x y h => h.turns hs hT)
  have hB : Below w.heap.size w W2 := hT.below hb hz (fun j hj e => by omega)
  rcases ho2 with rfl | ⟨g', rfl, hg'⟩
  · exact ⟨hB, g, R ++ [r], by rw [hR]; exact hs2, hg, by rw [List.length_append, hl]; rfl, hA⟩
  · exact ⟨hB, g', R ++ [r], by rw [hR]; exact hs2, by simp at hg'; omega, by rw [List.length_append, hl]; rfl, hA⟩
theorem make_ev (n : Nat) (hn : n ≤ 1000) (w : World) : (Instr.makeSlice 39 (.int .i64 0) (.int .i64 (n : Int))).run Tryd.prog w = .ok (.slice (some ⟨w.heap.size, 0, none⟩) 0 n) (w.alloc (.cells (madeCells #[.string ⟨#[]⟩, .string ⟨#[]⟩, .int .i64 0, .int .i64 0, .slice none 0 0] (n * 5)) 24)) := by
  obtain ⟨i, hi, hz, hs, hb⟩ := info_parts event_info
  have hr := run_make (P := Tryd.prog) w 39 24 i _ Tryd.underlying39 hi hz .i64 .i64 0 n (by omega) (by omega) (by rw [hb]; omega) (by omega)
  simp only [Int.toNat_natCast, hs] at hr
  exact hr
theorem make_seg (n : Nat) (w : World) (hn : n ≤ 1000) : Seg (w.alloc (.cells (madeCells #[.string ⟨#[]⟩, .string ⟨#[]⟩, .int .i64 0, .int .i64 0, .slice none 0 0] (n * 5)) 24)) 24 5 (.slice (some ⟨w.heap.size, 0, none⟩) 0 n) 0 [] (some w.heap.size) :=
  ⟨by simp, _, n, rfl, Nat.zero_le _, by unfold maxLen; omega, .inr ⟨w.heap.size, 0, _, rfl, rfl, Row.made w _ _, by rw [size_madeCells]; omega, by simp⟩⟩
set_option maxHeartbeats 4000000 in
theorem sort_ev (w0 w : World) (v : Value) (es : List EM) (n : Nat) (h : EVS w0 w v es) (hn : es.length = n) (h20 : n ≤ 20) :
    Calls Tryd.prog 13 #[v] w (SrtEnd w es n) := by
  have HV := Lib.hid h
  obtain ⟨ob0, hs0, _, _⟩ := h.sg
  obtain ⟨A, c, rfl, hc1, hc2⟩ := hs0.form
  rw [hn] at HV hc1 ⊢
  have hc9 : c ≤ 9223372036854775807 := by unfold maxLen at hc2; omega
  obtain ⟨i0, hi0, hz0, hz1, hz2⟩ := info_parts event_info
  have hmk := make_ev n (by omega)
  have HSEG := Lib.hid (make_seg n w (by omega))
  have hB0 : Below w.heap.size w (w.alloc (.cells (madeCells #[.string ⟨#[]⟩, .string ⟨#[]⟩, .int .i64 0, .int .i64 0, .slice none 0 0] (n * 5)) 24)) := (Below.refl _ w).alloc (Nat.le_refl _) _
  have HSI : Hid (SI w (w.alloc (.cells (madeCells #[.string ⟨#[]⟩, .string ⟨#[]⟩, .int .i64 0, .int .i64 0, .slice none 0 0] (n * 5)) 24)) (.slice (some ⟨w.heap.size, 0, none⟩) 0 n) es 0) := Lib.hid ⟨hB0, _, [], HSEG.out, Nat.le_refl _, rfl, .nil⟩
  have HN := Lib.hid hn
  clear h hs0 hc2 HSEG hB0 hn
  go_enter Tryd.func13, Tryd.ntmps13
  go_wp2
  generalize w.alloc (.cells (madeCells #[.string ⟨#[]⟩, .string ⟨#[]⟩, .int .i64 0, .int .i64 0, .slice none 0 0] (n * 5)) 24) = W0 at HSI ⊢
  go_loopw [11, 3, 5] (fun v11 v3 s5 wr => ∃ k : Nat, k ≤ n ∧ v11 = .int .i64 k ∧ Hid (SI w wr v3 es k)) (fun v11 _ _ _ => n - (intOf v11).toNat)
  case atStart => exact ⟨0, by omega, rfl, HSI⟩
  case round =>
    clear HSI hmk
    obtain ⟨k, hk, rfl, hS⟩ := hrel
    by_cases hlt : k < n
    · have hkz : (k : Int) < (n : Int) := by omega
      have hkl : k < es.length := by rw [HN.out]; exact hlt
      obtain ⟨e, he⟩ : ∃ e, es[k] = e := ⟨_, rfl⟩
      have HV2 : EVS w0 wr (.slice A n c) es := EVS.call HV.out ⟨hS.out.be.os, hS.out.be.tape, hS.out.be.output, hS.out.be.size, hS.out.be.block⟩
      obtain ⟨gx, ox, cx, ex, _, _, hgx, ⟨c0, c1, c2, c3, c4⟩, hrow, hln⟩ := EVS.elem HV2 hkl he
      injection ex with ex1 ex2 ex3
      subst ex1 ex3
      have HE := Lib.hid he
      have HROW := Lib.hid hrow
      have HLN := Lib.hid hln
      obtain ⟨ety, ekey, et, eq', evb, evs⟩ := e
      dsimp only at c0 c1 c2 c3 c4 HROW HLN
      obtain ⟨m, hm⟩ : ∃ m, evs.length = m := ⟨_, rfl⟩
      rw [hm] at c4 HLN
      have HM := Lib.hid hm
      have hbz : Below wr.heap.size wr (wr.alloc (.cells #[.string ety, .string ekey, .int .i64 et, .int .i64 eq', .slice (some ⟨evb, 0, none⟩) m m] 24)) := (Below.refl _ wr).alloc (Nat.le_refl _) _
      have HCP := Lib.hid (copy_any ety ekey et eq' (some ⟨evb, 0, none⟩) m m evs _ (.inr ⟨evb, rfl, HM.out.symm, ⟨by have := HLN.out; have := HM.out; omega, by have := HLN.out; have := HM.out; omega⟩, HROW.out.below hbz HROW.out.lt⟩) HM.out.symm)
      have HSI := Lib.hid hS.out
      have HBZ := Lib.hid hbz
      clear hS HV2 he hrow hln hm ex2 hbz
      go_wp2_with fail
      refine HCP.out.mono ?_
      rintro e w3 ⟨yA, yc, rfl, hcp⟩
      obtain ⟨yob, hsv, hyg⟩ := hcp.seg
      obtain ⟨gb, ob', cb, ey, rfl, _, _, _, _⟩ := hsv.shape (by have := HLN.out; have := HM.out; omega)
      injection ey with ey1 ey2 ey3
      subst ey1 ey3
      have HB3 := Lib.hid (HBZ.out.trans (hcp.be.mono HBZ.out.size))
      have HC : Hid (Cp w3 ⟨ety, ekey, et, eq', some ⟨gb, ob', none⟩, m, yc⟩ (conE es[k])) := by
        show Cp _ _ _
        rw [HE.out]
        refine ⟨⟨rfl, rfl, rfl, rfl⟩, gb, ?_⟩
        have := hsv
        rw [HM.out] at this
        show Seg w3 33 4 (.slice (some ⟨gb, ob', none⟩) m yc) evs.length (vcells evs) (some gb)
        rw [HM.out]
        exact this
      obtain ⟨g, R, hs, hg, hl, ha⟩ := HSI.out.ex
      obtain ⟨A4, c4', rfl, hc41, hc42⟩ := hs.form
      have HS3 := Lib.hid (hs.turns (Turns.of_below HB3.out) (fun _ _ x => x))
      have HA3 := Lib.hid (ha.mono (fun x y h => h.call HB3.out))
      have HG := Lib.hid hg
      have HL := Lib.hid hl
      have HBE := Lib.hid (HSI.out.be.trans (HB3.out.mono HSI.out.be.size))
      have hk20 : k ≤ 20 := by omega
      have hc49 : c4' ≤ 9223372036854775807 := by unfold maxLen at hc42; omega
      rw [HM.out]
      clear hcp hsv hyg ey2 hs hg hl ha hc42 c0 c1 c2 c3 c4 HSI HBZ
      go_wp2_with (at_builtin; refine wpList_append_seg _ rfl _ _ 39 rfl 24 i0 _ 5 72 Tryd.underlying39 hi0 hz0 hz1 hz2 rfl (by decide) _ k (R.flatMap Rc.cells) (some g) rfl (HS3.out.alloc _) ⟨w3.heap.size, 0, none⟩ 1 1 [.string ety, .string ekey, .int .i64 et, .int .i64 eq', .slice (some ⟨gb, ob', none⟩) m yc] rfl rfl (five_news _ _ _ _ _ _ _ rfl) (by simp [Value.oneCell']) (by decide) (by unfold maxLen; omega) (by omega) ?_; intro v6 w6 ob6 hs6 ht6 ho6)
      have hP : Hid (SI w w6 v6 es (k + 1)) := Lib.hid (SI.push hkl HBE.out HS3.out HG.out HL.out HA3.out HC.out hs6 ht6 ho6)
      clear hs6 ht6 ho6
      go_roundw
      case rel => exact ⟨k + 1, by omega, by go_num, hP⟩
      case measure => simp [intOf]; omega
    · obtain rfl : k = n := by omega
      have hkz : ¬ (k : Int) < (k : Int) := by omega
      obtain ⟨g, R, hs, hg, hl, ha⟩ := hS.out.ex
      obtain ⟨o, c3, rfl, hc3, hc4, _, _⟩ := seg_some hs
      have HD := Lib.hid (dl_seg hs)
      have HSO := Lib.hid (sort_any g o k c3 R wr HD.out (hs.lt g rfl) hl hc3 (by omega) (by unfold maxLen at hc4; omega) h20)
      have HS := Lib.hid hs
      have HA := Lib.hid ha
      have HL := Lib.hid hl
      have HG := Lib.hid hg
      have HBE := Lib.hid hS.out.be
      have HC3 := Lib.hid hc3
      have HC4 := Lib.hid (show c3 ≤ 9223372036854775807 by unfold maxLen at hc4; omega)
      clear hs ha hl hS hg hc3 hc4
      go_wp2_with fail
      refine HSO.out.mono ?_
      rintro e w3 ⟨rfl, hT, hD⟩
      have HT := Lib.hid hT
      have HD3 := Lib.hid hD
      clear hT hD
      go_wp2
      go_ret
      refine ⟨g, o, c3, isort R, rfl, HC3.out, HC4.out, HD3.out, by rw [isort_len]; exact HL.out, ?_, HT.out.below HBE.out HBE.out.size (fun j hj e => by have := HG.out; omega), Nat.lt_of_lt_of_le (HS.out.lt g rfl) HT.out.size, HG.out⟩
      have ha2 : Alike (Cp wr) R (es.map conE) := by have := HA.out; rw [List.take_of_length_le (by rw [HN.out]; exact Nat.le_refl _)] at this; exact this
      rw [isort_eq]
      exact (isortG_alike (R := Cp wr) (b := Rc.bef) (b' := Ec.bef) (fun x y x' y' h1 h2 => cp_bef h1 h2) ha2).mono (fun x y h => h.turns HS.out HT.out)
end Go.Proofs.YtookojgemipakaaDoor.E6
