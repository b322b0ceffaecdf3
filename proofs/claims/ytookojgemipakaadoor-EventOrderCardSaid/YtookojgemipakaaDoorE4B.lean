/- The text of an event. -/
import Derived.Test.YtookojgemipakaaDoorOrVd
import Derived.Test.YtookojgemipakaaDoorOrSf
import Derived.Lib.Join
import Derived.Deep.RegionLaw
import Derived.Deep.RegionHeld3
namespace Go.Proofs.YtookojgemipakaaDoor.E4
open Go.RowKit Go.Proofs.YtookojgemipakaaDoor Go.Proofs.YtookojgemipakaaDoor.Door Go.Proofs.YtookojgemipakaaDoor.Ev Go.Proofs.YtookojgemipakaaDoor.Sch Go.Proofs.YtookojgemipakaaDoor.Ty Go.Proofs.YtookojgemipakaaDoor.Evl Go.Proofs.YtookojgemipakaaDoor.Vd
set_option linter.unusedVariables false
set_option maxRecDepth 100000
theorem vcells_get : ∀ (vs : List VV) (k : Nat) (h : k < vs.length) (j : Nat) (u : Value), (vs[k].cells)[j]? = some u → (vcells vs)[k * 4 + j]? = some u
  | [], _, h, _, _, _ => by simp at h
  | v :: r, 0, _, j, u, hj => by
    show (v.cells ++ vcells r)[0 * 4 + j]? = _
    have hjl : j < v.cells.length := (List.getElem?_eq_some_iff.1 hj).1
    rw [Nat.zero_mul, Nat.zero_add, List.getElem?_append_left hjl]
    exact hj
  | v :: r, k + 1, h, j, u, hj => by
    show (v.cells ++ vcells r)[(k + 1) * 4 + j]? = _
    have hl : v.cells.length = 4 := rfl
    rw [List.getElem?_append_right (by omega), hl, show (k + 1) * 4 + j - 4 = k * 4 + j by omega]
    exact vcells_get r k (by simp at h; omega) j u hj
theorem vl_row {w : World} {g : Nat} {cs : Array Value} {L : List VV} {n : Nat} (h : Row w g 33 cs) (hc : cs.toList = vcells L) (hn : L.length = n) (hn9 : n ≤ 1000) : VL w w.heap.size (.slice (some ⟨g, 0, none⟩) n n) L := by
  subst hn
  refine ⟨_, _, rfl, Nat.le_refl _, by omega, fun k hk => ⟨g, 0, rfl, h.lt, fun j u hj => ?_⟩⟩
  have := vcells_get L k hk j u hj
  rw [← hc] at this
  rw [show (0 + k * 4 + j) = k * 4 + j by omega, h.cell]
  simpa using this
def tv (L : List ByteArray) : List Value := L.map Value.string
/-- Texts that were put together. -/
structure Txs (w w' : World) (v : Value) (L : List ByteArray) (n : Nat) : Prop where
  be : Below w.heap.size w w'
  sg : ∃ ob, Seg w' 9 1 v n (tv L) ob ∧ ∀ g, ob = some g → w.heap.size < g
theorem Txs.call {w w1 w2 : World} {v : Value} {L : List ByteArray} {n : Nat} (h : Txs w w1 v L n) (g : Below w1.heap.size w1 w2) : Txs w w2 v L n := by
  obtain ⟨ob, h1, h2⟩ := h.sg
  exact ⟨h.be.trans (g.mono h.be.size), ob, h1.turns (Turns.of_below g) (fun _ _ x => x), h2⟩
theorem Txs.push {w W W2 : World} {v2 : Value} {L : List ByteArray} {s : ByteArray} {k : Nat} {ob ob2 : Option Nat} {o : Obj} (h : Below w.heap.size w W) (ho1 : ∀ g, ob = some g → w.heap.size < g)
    (hs2 : Seg W2 9 1 v2 (k + 1) (tv L ++ [.string s]) ob2) (ht2 : Turns (W.alloc o) W2 (fun g => ob = some g)) (ho2 : ob2 = ob ∨ ∃ g, ob2 = some g ∧ (W.alloc o).heap.size ≤ g) : Txs w W2 v2 (L ++ [s]) (k + 1) := by
  have hz := h.size
  refine ⟨ht2.below (h.alloc h.size o) (by simp; omega) (fun j hj e => by have := ho1 _ e; omega), ob2, ?_, fun g hg => ?_⟩
  · rw [show tv (L ++ [s]) = tv L ++ [.string s] by simp [tv]]
    exact hs2
  · rcases ho2 with e | ⟨g', e, hg'⟩
    · exact ho1 g (by rw [← e, hg])
    · rw [e] at hg; injection hg with hg; simp at hg'; omega
/-- The literal event's values and their texts. -/
def litV : List VV := [⟨1, 1, ⟨#[]⟩, false⟩, ⟨2, 0, ⟨#[117]⟩, false⟩]
def litT : List ByteArray := [⟨#[49]⟩, ⟨#[39, 117, 39]⟩]
theorem lit_text : ∀ k (h : k < litV.length), showB litV[k] = litT[k]'h := by
  intro k h
  match k, h with
  | 0, _ =>
    show (⟨(Num.txt 1).toArray⟩ : ByteArray) = ⟨#[49]⟩
    unfold Num.txt
    rw [if_neg (by decide)]
    unfold Num.dg
    rfl
  | 1, _ => rfl
theorem lit_in : ∀ k (h : k < litV.length), (-9223372036854775808 ≤ litV[k].i ∧ litV[k].i ≤ 9223372036854775807) ∧ litV[k].s.size < 1000000 := by
  intro k h
  match k, h with
  | 0, _ =>
    show ((-9223372036854775808 : Int) ≤ 1 ∧ (1 : Int) ≤ 9223372036854775807) ∧ (⟨#[]⟩ : ByteArray).size < 1000000
    exact ⟨⟨by decide, by decide⟩, by decide⟩
  | 1, _ =>
    show ((-9223372036854775808 : Int) ≤ 0 ∧ (0 : Int) ≤ 9223372036854775807) ∧ (⟨#[117]⟩ : ByteArray).size < 1000000
    exact ⟨⟨by decide, by decide⟩, by decide⟩
def textA : ByteArray := ⟨#[65, 40, 49, 44, 39, 117, 39, 41, 32, 111, 102, 32, 39, 107, 39, 32, 97, 116, 32, 53]⟩
def evA (g : Nat) : Array Value := #[.string ⟨#[65]⟩, .string ⟨#[107]⟩, .int .i64 5, .int .i64 0, .slice (some ⟨g, 0, none⟩) 2 2]
theorem ml_drew {w : World} (h : ML w) (n : Nat) : ML (w.drewN n) := h
theorem text_eq : ((((((((⟨#[65]⟩ : ByteArray) ++ ⟨#[40]⟩) ++ ⟨#[49, 44, 39, 117, 39]⟩) ++ ⟨#[41, 32, 111, 102, 32]⟩) ++ ⟨#[39, 107, 39]⟩) ++ ⟨#[32, 97, 116, 32]⟩) ++ ⟨#[53]⟩)) = textA := by
  apply ByteArray.ext
  apply Array.ext'
  simp [textA]
theorem txt5 : (⟨(Num.txt 5).toArray⟩ : ByteArray) = ⟨#[53]⟩ := by
  unfold Num.txt
  rw [if_neg (by decide)]
  unfold Num.dg
  rfl
set_option maxHeartbeats 4000000 in
theorem show_lit (g : Nat) (w : World) (hm : ML w) (hr : Row w g 33 #[.int .i64 1, .int .i64 1, .string ⟨#[]⟩, .bool false, .int .i64 2, .int .i64 0, .string ⟨#[117]⟩, .bool false]) :
    Calls Tryd.prog 34 #[.agg #[.string ⟨#[65]⟩, .string ⟨#[107]⟩, .int .i64 5, .int .i64 0, .slice (some ⟨g, 0, none⟩) 2 2]] w fun e w' => e = .returned (.string textA) ∧ Below w.heap.size w w' := by
  have hvl := vl_row (L := litV) (n := 2) hr rfl rfl (by decide)
  have HV := Lib.hid hvl
  have HM := Lib.hid hm
  have hX : Below w.heap.size w (w.alloc (.cells (evA g) 24)) := (Below.refl _ w).alloc (Nat.le_refl _) _
  have HT0 : Hid (Txs w (w.alloc (.cells (evA g) 24)) (.slice none 0 0) (litT.take 0) 0) := Lib.hid ⟨hX, none, Seg.nil _ _ _, fun g h => (by cases h)⟩
  have HR0 : Hid (Row (w.alloc (.cells (evA g) 24)) w.heap.size 24 (evA g)) := Lib.hid (Row.made _ _ _)
  clear hvl hm hX hr
  go_enter Tryd.func34, Tryd.ntmps34
  go_wp2
  go_loopw [9, 3, 5] (fun v9 v3 s5 wx => ∃ k : Nat, k ≤ 2 ∧ v9 = .int .i64 k ∧ Hid (Txs w wx v3 (litT.take k) k) ∧ Hid (Row wx w.heap.size 24 (evA g))) (fun v9 _ _ _ => 2 - (intOf v9).toNat)
  case atStart => exact ⟨0, by omega, rfl, HT0, HR0⟩
  case round =>
    clear HT0 HR0
    obtain ⟨k, hkn, rfl, hS, hR⟩ := hrel
    by_cases hlt : k < 2
    · have hk1 : (k : Int) < 2 := by omega
      have hkl : k < litV.length := hlt
      obtain ⟨A', c', e1, _, _, h3⟩ := HV.out.below hS.out.be (Nat.le_refl _)
      injection e1 with e1 e2 e3
      subst e1 e3
      clear e2
      obtain ⟨g', o, eg, hg, hc⟩ := h3 k hkl
      injection eg with eg
      injection eg with eg eo _
      subst eg eo
      obtain ⟨⟨xk, xi, xs, xb⟩, hx⟩ : ∃ x, litV[k] = x := ⟨_, rfl⟩
      have hin := lit_in k hkl
      rw [hx] at hin
      dsimp only at hin
      have htx : showB ⟨xk, xi, xs, xb⟩ = litT[k]'hkl := by rw [← hx]; exact lit_text k hkl
      have htk : litT.take (k + 1) = litT.take k ++ [litT[k]'hkl] := List.take_succ_eq_append_getElem _
      rw [hx] at hc
      have c0 := hc 0 _ rfl
      have c1 := hc 1 _ rfl
      have c2 := hc 2 _ rfl
      have c3 := hc 3 _ rfl
      simp only [Nat.add_zero, Nat.zero_add] at c0 c1 c2 c3
      have HB0 := Lib.hid (hS.out.be.alloc hS.out.be.size (.cells #[.int .i64 xk, .int .i64 xi, .string xs, .bool xb] 33))
      have HSH := Lib.hid (show_any xk xi xs xb (wr.alloc (.cells #[.int .i64 xk, .int .i64 xi, .string xs, .bool xb] 33)) (HM.out.below HB0.out) hin.2 hin.1.1 hin.1.2)
      rw [htx] at HSH
      obtain ⟨R, hRR⟩ : ∃ R, litT[k]'hkl = R := ⟨_, rfl⟩
      rw [hRR] at HSH htk
      have HTK := Lib.hid htk
      have HS := Lib.hid (hS.out.call ((Below.refl _ wr).alloc (Nat.le_refl _) (.cells #[.int .i64 xk, .int .i64 xi, .string xs, .bool xb] 33)))
      have HR := Lib.hid (hR.out.alloc (.cells #[.int .i64 xk, .int .i64 xi, .string xs, .bool xb] 33))
      clear h3 hc hx hin htx htk hRR hS hR hg
      go_wp2_with fail
      refine HSH.out.mono ?_
      rintro e w1 ⟨rfl, hb1⟩
      have hS1 := HS.out.call hb1
      have HR1 := Lib.hid (HR.out.below hb1 HR.out.lt)
      obtain ⟨ob, hs1, ho1⟩ := hS1.sg
      obtain ⟨A4, c4, rfl, hc41, hc42⟩ := hs1.form
      have hc49 : c4 ≤ 9223372036854775807 := by unfold maxLen at hc42; omega
      have HS1 := Lib.hid hs1
      have HO1 := Lib.hid ho1
      have HBE := Lib.hid hS1.be
      obtain ⟨i0, hi0, hz0, hz1, hz2⟩ := info_parts string_info
      clear hb1 hS1 hs1 ho1 HSH HS HR hc42 c0 c1 c2 c3
      go_wp2_with (at_builtin; refine wpList_append_seg _ rfl _ _ 55 rfl 9 i0 _ 1 16 Tryd.underlying55 hi0 hz0 hz1 hz2 rfl (by decide) _ k _ _ rfl (HS1.out.alloc _) ⟨w1.heap.size, 0, none⟩ 1 1 [.string R] rfl rfl (by simpa using one_newsS w1 (.string R)) (by simp [Value.oneCell']) (by decide) (by unfold maxLen; omega) (by omega) ?_; intro v6 w6 ob6 hs6 ht6 ho6)
      have hP : Hid (Txs w w6 v6 (litT.take (k + 1)) (k + 1)) := Lib.hid (by rw [HTK.out]; exact Txs.push HBE.out HO1.out hs6 ht6 ho6)
      have hR6 : Hid (Row w6 w.heap.size 24 (evA g)) := Lib.hid ((HR1.out.alloc _).turns ht6 (fun e => by have := HO1.out _ e; omega))
      clear hs6 ht6 ho6
      go_roundw
      case rel => exact ⟨k + 1, by omega, by go_num, hP, hR6⟩
      case measure => simp [intOf]; omega
    · obtain rfl : k = 2 := by omega
      have hk1 : ¬ ((2 : Nat) : Int) < 2 := by omega
      have h24 : litT.take 2 = litT := rfl
      rw [h24] at hS
      obtain ⟨ob, hs1, ho1⟩ := hS.out.sg
      obtain ⟨g1, o1, cap, rfl, rfl, hc1, hc2, hcell, _⟩ := hs1.shape (by omega)
      have HJ := Lib.hid (fun (X : World) (hX : Below wr.heap.size wr X) => Tryd.strings_Join g1 o1 cap litT ⟨#[44]⟩ X (fun j x hj => (hX.cell (p := ⟨g1, o1 + j, none⟩) (hs1.lt _ rfl)).trans (hcell j (.string x) (by unfold tv; rw [List.getElem?_map, hj]; rfl))) (Nat.lt_of_lt_of_le (hs1.lt _ rfl) hX.size) (by decide) hc1 (by decide))
      have HK := Lib.hid (fun (X : World) (hX : Below wr.heap.size wr X) => quote_any ⟨#[107]⟩ X ((HM.out.below hS.out.be).below hX) (by decide))
      have HD := Lib.hid (fun (X : World) => Num.digits_any' 5 X (by decide) (by decide))
      rw [show (⟨(Num.txt 5).toArray⟩ : ByteArray) = ⟨#[53]⟩ from txt5] at HD
      rw [show quoteB ⟨#[107]⟩ = (⟨#[39, 107, 39]⟩ : ByteArray) from rfl] at HK
      rw [show (⟨(Lib.join (litT.map (·.data.toList)) (⟨#[44]⟩ : ByteArray).data.toList).toArray⟩ : ByteArray) = ⟨#[49, 44, 39, 117, 39]⟩ from rfl] at HJ
      rw [show litT.length = 2 from rfl] at HJ
      have HR := Lib.hid (show ∀ X, Below wr.heap.size wr X → X.cell? ⟨w.heap.size, 0, none⟩ = some (.string ⟨#[65]⟩) ∧ X.cell? ⟨w.heap.size, 1, none⟩ = some (.string ⟨#[107]⟩) ∧ X.cell? ⟨w.heap.size, 2, none⟩ = some (.int .i64 5) from fun X h => by
        have := hR.out.below h hR.out.lt
        exact ⟨(this.cell 0).trans rfl, (this.cell 1).trans rfl, (this.cell 2).trans rfl⟩)
      have HBE := Lib.hid hS.out.be
      obtain ⟨p0, p1, p2⟩ := HR.out _ (Below.refl _ _)
      clear hs1 ho1 hS hR hcell HV
      go_wp2
      have HB : Hid (Below wr.heap.size wr wr.drew) := (Below.refl _ wr).drew
      go_region_held3 (fun X => X.cell? ⟨w.heap.size, 0, none⟩ = some (.string ⟨#[65]⟩) ∧ X.cell? ⟨w.heap.size, 1, none⟩ = some (.string ⟨#[107]⟩) ∧ X.cell? ⟨w.heap.size, 2, none⟩ = some (.int .i64 5))
        (first
          | exact ⟨p0, p1, p2⟩
          | exact HR.out _ HB.out
          | fail)
        ((first
          |
            (go_at_call 60
             (with_reducible refine (HJ.out _ HB.out).mono ?_)
             rintro e w3 ⟨rfl, hb⟩
             have h3 := HB.out.trans (hb.mono HB.out.size)
             have HB := Lib.hid h3
             clear hb h3)
          |
            (go_at_call 61
             (with_reducible refine (HK.out _ HB.out).mono ?_)
             rintro e w3 ⟨rfl, hb⟩
             have h3 := HB.out.trans (hb.mono HB.out.size)
             have HB := Lib.hid h3
             clear hb h3)
          |
            (go_at_call 62
             (with_reducible refine (HD.out _).mono ?_)
             rintro e w3 ⟨rfl, hb⟩
             have h3 := HB.out.trans (hb.mono HB.out.size)
             have HB := Lib.hid h3
             clear hb h3)
          | fail))
      all_goals
        go_wp2
        go_ret
        exact ⟨by rw [← text_eq]; rfl, HBE.out.trans (HB.out.mono HBE.out.size)⟩
end Go.Proofs.YtookojgemipakaaDoor.E4
