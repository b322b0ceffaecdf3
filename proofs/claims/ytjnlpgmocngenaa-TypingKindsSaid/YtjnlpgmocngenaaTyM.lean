/- The walk of the law TypingKinds. -/
import Derived.Test.YtjnlpgmocngenaaTyL
namespace Go.Proofs.Ytjnlpgmocngenaa.Ty
open Go.RowKit Go.Proofs.Ytjnlpgmocngenaa Go.Proofs.Ytjnlpgmocngenaa.Sch
set_option linter.unusedVariables false
set_option maxRecDepth 100000
theorem okv3 {x : Int} (h1 : 1 ≤ x) (h3 : x ≤ 3) : OkV x 0 ⟨#[]⟩ false := by
  have : x = 1 ∨ x = 2 ∨ x = 3 := by omega
  rcases this with rfl | rfl | rfl
  · exact .num 0 rfl
  · exact .text _ (by decide)
  · exact .truth false
theorem lawL_good {o x y : Int} (ho1 : 3 ≤ o) (ho2 : o ≤ 15) (hx1 : 1 ≤ x) (hx2 : x ≤ 3) (hy1 : 1 ≤ y) (hy2 : y ≤ 3) : Good (lawL o x y) := by
  have hp1 : partsI 1 = 0 := by decide
  unfold lawL
  rcases law_parts o ho1 ho2 with ⟨hq, _⟩ | ⟨hq, _⟩
  · rw [if_neg (by omega)]
    refine ⟨Nat.le_of_ble_eq_true rfl, fun k hk => ?_, fun k hk => ?_, ?_⟩
    · match k, hk with
      | 0, _ => exact .const (okv3 hx1 hx2)
      | 1, _ => exact .op o ho1 ho2
    · match k, hk with
      | 0, _ => show partsI 1 ≤ 0; rw [hp1]; omega
      | 1, _ => show partsI o ≤ ((1 - partsI 1) + 0 : Int); rw [hq, hp1]; omega
    · show ((1 - partsI 1) + ((1 - partsI o) + 0) : Int) = 1
      rw [hq, hp1]
      omega
  · rw [if_pos hq]
    refine ⟨Nat.le_of_ble_eq_true rfl, fun k hk => ?_, fun k hk => ?_, ?_⟩
    · match k, hk with
      | 0, _ => exact .const (okv3 hx1 hx2)
      | 1, _ => exact .const (okv3 hy1 hy2)
      | 2, _ => exact .op o ho1 ho2
    · match k, hk with
      | 0, _ => show partsI 1 ≤ 0; rw [hp1]; omega
      | 1, _ => show partsI 1 ≤ ((1 - partsI 1) + 0 : Int); rw [hp1]; omega
      | 2, _ => show partsI o ≤ ((1 - partsI 1) + ((1 - partsI 1) + 0) : Int); rw [hq, hp1]; omega
    · show ((1 - partsI 1) + ((1 - partsI 1) + ((1 - partsI o) + 0)) : Int) = 1
      rw [hq, hp1]
      omega
theorem node_info : (Try.prog.info? 71).map (fun i => (i.zero, i.size, i.bytes)) = some (some (.agg #[.int .i64 0, .int .i64 0, .int .i64 0, .string ByteArray.empty, .bool false, .string ByteArray.empty, .string ByteArray.empty]), 7, 80) := by kernel_rfl
theorem seg_of_row {w : World} {g n size : Nat} {t : TypeId} {cs : Array Value} (h : Row w g t cs) (hs : cs.size = n * size) (hn : n ≤ 1000) : Seg w t size (.slice (some ⟨g, 0, none⟩) n n) n cs.toList (some g) := by
  have hl : cs.toList.length = n * size := by simpa using hs
  exact ⟨hl, _, n, rfl, Nat.le_refl _, by unfold maxLen; omega, .inr ⟨g, 0, cs, rfl, rfl, h, by omega, by rw [List.drop_zero]; exact List.take_of_length_le (by omega)⟩⟩
theorem seven_news {w : World} {g : Nat} {t : TypeId} {cs : Array Value} (h : Row w g t cs) : ∀ j u, cs.toList[j]? = some u → w.cell? ((⟨g, 0, none⟩ : Addr).add j) = some u := fun j u hj => by
  rw [Addr.add_lit, Nat.zero_add, h.cell]
  simpa using hj
set_option maxHeartbeats 4000000 in
theorem kinds_law (op : Int) (hop : (Lit.int .i64 op).wf = true) (a : Int) (ha : (Lit.int .i64 a).wf = true) (b : Int) (hb : (Lit.int .i64 b).wf = true) (w : World) :
    Calls Try.prog 6 #[.int .i64 op, .int .i64 a, .int .i64 b] w fun e w' => e = .returned (.bool true) ∧ Below w.heap.size w w' := by
  have q1 := and255 op
  have q2 := and255 a
  have q3 := and255 b
  obtain ⟨o', ho', h01, h02⟩ : ∃ o' : Int, (op % 256).tmod 13 = o' ∧ 0 ≤ o' ∧ o' ≤ 12 := ⟨_, rfl, by rw [Int.tmod_eq_emod_of_nonneg (by omega)]; omega, by rw [Int.tmod_eq_emod_of_nonneg (by omega)]; omega⟩
  obtain ⟨x', hx', h11, h12⟩ : ∃ o' : Int, (a % 256).tmod 3 = o' ∧ 0 ≤ o' ∧ o' ≤ 2 := ⟨_, rfl, by rw [Int.tmod_eq_emod_of_nonneg (by omega)]; omega, by rw [Int.tmod_eq_emod_of_nonneg (by omega)]; omega⟩
  obtain ⟨y', hy', h21, h22⟩ : ∃ o' : Int, (b % 256).tmod 3 = o' ∧ 0 ≤ o' ∧ o' ≤ 2 := ⟨_, rfl, by rw [Int.tmod_eq_emod_of_nonneg (by omega)]; omega, by rw [Int.tmod_eq_emod_of_nonneg (by omega)]; omega⟩
  clear hop ha hb
  go_enter Try.func6, Try.ntmps6
  go_wp2_with fail
  refine (types_any _).mono ?_
  rintro e w1 ⟨v1, rfl, ht1, hb1⟩
  have HT1 := Lib.hid ht1
  clear ht1
  go_wp2_with fail
  refine (new_any _ typesL _ _ HT1.out (Nat.le_refl _)).mono ?_
  rintro e w2 ⟨p, c, rfl, hr, hsc, _, hb2⟩
  obtain rfl := typesL_ok hr
  have HS := Lib.hid (hsc rfl)
  have HB2 := Lib.hid (hb1.trans (hb2.mono hb1.size))
  clear hb1 hb2 hr hsc
  go_upto_region 4 with fail
  generalize ho : o' + 3 = o
  generalize hx : x' + 1 = x
  generalize hy : y' + 1 = y
  have ho1 : 3 ≤ o := by omega
  have ho2 : o ≤ 15 := by omega
  have hx1 : 1 ≤ x := by omega
  have hx2 : x ≤ 3 := by omega
  have hy1 : 1 ≤ y := by omega
  have hy2 : y ≤ 3 := by omega
  clear ho hx hy ho' hx' hy' h01 h02 h11 h12 h21 h22 q1 q2 q3
  obtain ⟨i0, hi0, hz0, hz1, hz2⟩ := info_parts node_info
  go_wp2_with fail
  refine (lconst_any x _).mono ?_
  rintro e w3 ⟨rfl, hb3⟩
  have HB3 := Lib.hid (HB2.out.trans (hb3.mono HB2.out.size))
  have HS3 := Lib.hid (HS.out.below hb3 hb3.size)
  clear hb3
  obtain ⟨pt, hpt⟩ : ∃ pt, partsI o = pt := ⟨_, rfl⟩
  have HPT := Lib.hid hpt
  have hp12 : pt = 1 ∨ pt = 2 := by rw [← hpt]; rcases law_parts o ho1 ho2 with ⟨h, _⟩ | ⟨h, _⟩ <;> omega
  clear hpt
  have hr4 : Row (w3.alloc (.cells #[.int .i64 1, .int .i64 x, .int .i64 0, .string ⟨#[]⟩, .bool false, .string ⟨#[]⟩, .string ⟨#[]⟩] 71)) w3.heap.size 71 #[.int .i64 1, .int .i64 x, .int .i64 0, .string ⟨#[]⟩, .bool false, .string ⟨#[]⟩, .string ⟨#[]⟩] := Row.made _ _ _
  have HSG4 := Lib.hid (seg_of_row (n := 1) (size := 7) hr4 rfl (by omega))
  have HB4 := Lib.hid (HB3.out.alloc HB3.out.size (.cells #[.int .i64 1, .int .i64 x, .int .i64 0, .string ⟨#[]⟩, .bool false, .string ⟨#[]⟩, .string ⟨#[]⟩] 71))
  have hX4 : Below w3.heap.size w3 (w3.alloc (.cells #[.int .i64 1, .int .i64 x, .int .i64 0, .string ⟨#[]⟩, .bool false, .string ⟨#[]⟩, .string ⟨#[]⟩] 71)) := (Below.refl _ w3).alloc (Nat.le_refl _) _
  have HS4 := Lib.hid (HS3.out.below hX4 (Nat.le_refl _))
  have HZ4 := Lib.hid hX4.size
  clear hX4
  have HZ3 := Lib.hid HB3.out.size
  clear hr4
  go_wp2_with fail
  refine (refParts_is o pt _ HPT.out).mono ?_
  rintro e w4 ⟨rfl, rfl⟩
  generalize (w3.alloc (.cells #[.int .i64 1, .int .i64 x, .int .i64 0, .string ⟨#[]⟩, .bool false, .string ⟨#[]⟩, .string ⟨#[]⟩] 71)) = W4 at HSG4 HB4 HS4 HZ4 ⊢
  generalize w3.heap.size = gb at HSG4 HZ3 HS4 HZ4 ⊢
  clear HS3 HB3 HS HB2 HT1
  go_upto_if 42 with fail
  go_cut [11, 12] (fun s11 s12 wx => ∃ (yy : Int) (A : Option Addr) (n c : Nat), s11 = .int .i64 yy ∧ s12 = .slice A n c ∧ Hid (∃ (l : List Nd) (ob : Option Nat), Seg wx 71 7 (.slice A n c) n (ncells l) ob ∧ l.length = n ∧ n ≤ 2 ∧ l ++ [⟨o, 0, 0, ⟨#[]⟩, false, ⟨#[]⟩, ⟨#[]⟩⟩] = lawL o x yy ∧ (¬ partsI o = 2 → yy = x) ∧ (1 ≤ yy ∧ yy ≤ 3) ∧ Below w.heap.size w wx ∧ ∃ B, Sc wx B p typesL ∧ w.heap.size ≤ B ∧ B ≤ wx.heap.size ∧ (∀ g, ob = some g → B ≤ g)))
  case first =>
    rcases hp12 with rfl | rfl
    · go_wp2
      go_meet
      exact ⟨x, _, _, _, rfl, rfl, Lib.hid ⟨[⟨1, x, 0, ⟨#[]⟩, false, ⟨#[]⟩, ⟨#[]⟩⟩], some gb, HSG4.out, rfl, by decide, by unfold lawL; rw [if_neg (by rw [HPT.out]; decide)]; rfl, fun _ => rfl, ⟨hx1, hx2⟩, HB4.out, gb, HS4.out, HZ3.out, HZ4.out, fun g h => by cases h; exact Nat.le_refl _⟩⟩
    · go_wp2_with fail
      refine (lconst_any y _).mono ?_
      rintro e w5 ⟨rfl, hb5⟩
      have HSG5 := Lib.hid (HSG4.out.turns (Turns.of_below hb5) (fun _ _ x => x))
      have HB5 := Lib.hid (HB4.out.trans (hb5.mono HB4.out.size))
      have HS5 := Lib.hid (HS4.out.below (hb5.mono HZ4.out) (Nat.le_refl _))
      have HZ5 := Lib.hid (Nat.le_trans HZ4.out hb5.size)
      clear hb5
      go_wp2_with (at_builtin; refine wpList_append_seg _ rfl _ _ 72 rfl 71 i0 _ 7 80 Try.underlying72 hi0 hz0 hz1 hz2 rfl (by decide) _ _ _ _ rfl (HSG5.out.alloc _) ⟨w5.heap.size, 0, none⟩ 1 1 [.int .i64 1, .int .i64 y, .int .i64 0, .string ⟨#[]⟩, .bool false, .string ⟨#[]⟩, .string ⟨#[]⟩] rfl rfl (by exact seven_news (Row.made _ _ _)) (by simp [Value.oneCell']) (by decide) (by unfold maxLen; omega) (by omega) ?_; intro v6 w6 ob6 hs6 ht6 ho6)
      obtain ⟨A6, c6, rfl, _, _⟩ := hs6.form
      have hz5 := HB5.out.size
      have hb6 := ht6.below (HB5.out.alloc HB5.out.size _) (by simp; omega) (fun j hj e => by cases e; have := HZ3.out; omega)
      go_meet
      have hB6 := ht6.below (B := gb) ((Below.refl gb w5).alloc HZ5.out _) (by have := HZ5.out; simp; omega) (fun j hj e => by cases e; omega)
      refine ⟨y, _, _, _, rfl, rfl, Lib.hid ⟨[⟨1, x, 0, ⟨#[]⟩, false, ⟨#[]⟩, ⟨#[]⟩⟩, ⟨1, y, 0, ⟨#[]⟩, false, ⟨#[]⟩, ⟨#[]⟩⟩], ob6, hs6, rfl, by decide, by unfold lawL; rw [if_pos HPT.out]; rfl, fun h => absurd HPT.out h, ⟨hy1, hy2⟩, hb6, gb, HS5.out.below hB6 (Nat.le_refl _), HZ3.out, Nat.le_trans HZ5.out (Nat.le_trans (by simp) ht6.size), fun g h => ?_⟩⟩
      rcases ho6 with e | ⟨g', e, hg'⟩
      · rw [e] at h; cases h; exact Nat.le_refl _
      · rw [e] at h; cases h; have := HZ5.out; simp at hg'; omega
  case rest =>
    obtain ⟨yy, A, n, cc, rfl, rfl, hf⟩ := hcut
    obtain ⟨l, ob, hsg, hln, hn2, hll, hyx, ⟨hyy1, hyy2⟩, hbe, B, hsc, hB1, hB2, hob⟩ := hf.out
    obtain ⟨A', c', e, hnc, hcm⟩ := hsg.form
    injection e with e1 e2 e3
    subst e3
    clear e1 e2 A'
    have hc9 : cc ≤ 9223372036854775807 := by unfold maxLen at hcm; omega
    have HSG := Lib.hid hsg
    have HLL := Lib.hid hll
    have HLN := Lib.hid hln
    have HBE := Lib.hid hbe
    have HSC := Lib.hid hsc
    have HOB := Lib.hid hob
    have HKD := Lib.hid ((law_kind typesL [] o x yy ho1 ho2).trans (law_want o x yy ho1 ho2 hyx))
    have HGD := Lib.hid (lawL_good ho1 ho2 hx1 hx2 hyy1 hyy2)
    have hn64 : n + 1 ≤ 64 := by omega
    clear hf hsg hln hll hyx hbe hsc hob HSG4 HB4 HS4 HZ4 HZ3 hcm
    go_upto_region 10 with (at_builtin; refine wpList_append_seg _ rfl _ _ 72 rfl 71 i0 _ 7 80 Try.underlying72 hi0 hz0 hz1 hz2 rfl (by decide) _ _ _ _ rfl (HSG.out.alloc _) ⟨wc.heap.size, 0, none⟩ 1 1 [.int .i64 o, .int .i64 0, .int .i64 0, .string ⟨#[]⟩, .bool false, .string ⟨#[]⟩, .string ⟨#[]⟩] rfl rfl (by exact seven_news (Row.made _ _ _)) (by simp [Value.oneCell']) (by decide) (by unfold maxLen; omega) (by omega) ?_; intro v6 w6 ob6 hs6 ht6 ho6)
    obtain ⟨A6, c6, rfl, hc61, hc62⟩ := hs6.form
    have HB6 := Lib.hid (ht6.below (HBE.out.alloc HBE.out.size _) (by have := HBE.out.size; simp; omega) (fun j hj e => by have := HOB.out _ e; omega))
    have hb6 := ht6.below (B := B) ((Below.refl B wc).alloc hB2 _) (by simp; omega) (fun j hj e => by have := HOB.out _ e; omega)
    have HZ6 : Hid (B ≤ w6.heap.size) := Lib.hid (Nat.le_trans hB2 (Nat.le_trans (by simp) ht6.size))
    have HS6 := Lib.hid (HSC.out.below hb6 HZ6.out)
    have HNS := Lib.hid (show Ns w6 w6.heap.size (.slice A6 (n + 1) c6) (lawL o x yy) from by
      rw [← HLL.out]
      refine ns_seg (ob := ob6) ?_ (by rw [List.length_append, HLN.out]; rfl)
      have : ncells (l ++ [⟨o, 0, 0, ⟨#[]⟩, false, ⟨#[]⟩, ⟨#[]⟩⟩]) = ncells l ++ [.int .i64 o, .int .i64 0, .int .i64 0, .string ⟨#[]⟩, .bool false, .string ⟨#[]⟩, .string ⟨#[]⟩] := by simp [ncells, Nd.cells]
      rw [this]
      exact hs6)
    have HBS : Hid (Bs w6 w6.heap.size (.slice none 0 0) []) := Lib.hid ⟨none, 0, rfl, by simp, by omega, fun k hk => by simp at hk⟩
    clear hs6 ht6 ho6 hb6 hc61 hc62 HSC HSG HBE
    have hcs : (7 ≤ o ∧ o ≤ 12 ∧ x = yy) ∨ (7 ≤ o ∧ o ≤ 12 ∧ ¬ x = yy) ∨ (o ≤ 6 ∧ x = 1 ∧ yy = 1) ∨ (o ≤ 6 ∧ x = 1 ∧ ¬ yy = 1) ∨ (o ≤ 6 ∧ ¬ x = 1) ∨ (13 ≤ o ∧ x = 3 ∧ yy = 3) ∨ (13 ≤ o ∧ x = 3 ∧ ¬ yy = 3) ∨ (13 ≤ o ∧ ¬ x = 3) := by omega
    rcases hcs with ⟨k0, k1, k2⟩ | ⟨k0, k1, k2⟩ | ⟨k0, k1, k2⟩ | ⟨k0, k1, k2⟩ | ⟨k0, k1⟩ | ⟨k0, k1, k2⟩ | ⟨k0, k1, k2⟩ | ⟨k0, k1⟩
    · have HW : Hid (wantK o x yy = 3) := Lib.hid (by unfold wantK; rw [if_pos ⟨k0, k1⟩, if_pos k2])
      have HE : Hid (kindS typesL [] (lawL o x yy) [] = (3, 0)) := Lib.hid (by rw [HKD.out, HW.out]; rfl)
      have b1 : decide (7 ≤ o) = true := decide_eq_true (by omega)
      have b2 : decide (o ≤ 12) = true := decide_eq_true (by omega)
      have b4 : (x == yy) = true := by simp; omega
      clear k0 k1 k2
      go_wp2_with fail
      refine (kind_any p typesL _ [] _ (lawL o x yy) _ HS6.out HBS.out HNS.out HGD.out).mono ?_
      rw [HE.out]
      rintro e w7 ⟨rfl, hb7⟩
      have HB7 := Lib.hid (HB6.out.trans (hb7.mono HB6.out.size))
      clear hb7
      go_wp2_with fail
      refine (awake_any _).mono ?_
      rintro e w8 ⟨rfl, hb8⟩
      have HB8 := Lib.hid (HB7.out.trans (hb8.mono HB7.out.size))
      clear hb8
      go_wp2
      go_ret
      exact ⟨rfl, HB8.out⟩
    · have HW : Hid (wantK o x yy = 0) := Lib.hid (by unfold wantK; rw [if_pos ⟨k0, k1⟩, if_neg k2])
      have HE : Hid (kindS typesL [] (lawL o x yy) [] = (0, 10)) := Lib.hid (by rw [HKD.out, HW.out]; rfl)
      have b1 : decide (7 ≤ o) = true := decide_eq_true (by omega)
      have b2 : decide (o ≤ 12) = true := decide_eq_true (by omega)
      have b4 : (x == yy) = false := by simp; omega
      clear k0 k1 k2
      go_wp2_with fail
      refine (kind_any p typesL _ [] _ (lawL o x yy) _ HS6.out HBS.out HNS.out HGD.out).mono ?_
      rw [HE.out]
      rintro e w7 ⟨rfl, hb7⟩
      have HB7 := Lib.hid (HB6.out.trans (hb7.mono HB6.out.size))
      clear hb7
      go_wp2_with fail
      refine (awake_any _).mono ?_
      rintro e w8 ⟨rfl, hb8⟩
      have HB8 := Lib.hid (HB7.out.trans (hb8.mono HB7.out.size))
      clear hb8
      go_wp2
      go_ret
      exact ⟨rfl, HB8.out⟩
    · have HW : Hid (wantK o x yy = 1) := Lib.hid (by unfold wantK; rw [if_neg (by omega), if_pos k0, if_pos ⟨k1, k2⟩])
      have HE : Hid (kindS typesL [] (lawL o x yy) [] = (1, 0)) := Lib.hid (by rw [HKD.out, HW.out]; rfl)
      have b1 : decide (7 ≤ o) = false := decide_eq_false (by omega)
      have b3 : decide (o ≤ 6) = true := decide_eq_true (by omega)
      have b4 : (x == 1) = true := by simp; omega
      have b5 : (yy == 1) = true := by simp; omega
      clear k0 k1 k2
      go_wp2_with fail
      refine (kind_any p typesL _ [] _ (lawL o x yy) _ HS6.out HBS.out HNS.out HGD.out).mono ?_
      rw [HE.out]
      rintro e w7 ⟨rfl, hb7⟩
      have HB7 := Lib.hid (HB6.out.trans (hb7.mono HB6.out.size))
      clear hb7
      go_wp2_with fail
      refine (awake_any _).mono ?_
      rintro e w8 ⟨rfl, hb8⟩
      have HB8 := Lib.hid (HB7.out.trans (hb8.mono HB7.out.size))
      clear hb8
      go_wp2
      go_ret
      exact ⟨rfl, HB8.out⟩
    · have HW : Hid (wantK o x yy = 0) := Lib.hid (by unfold wantK; rw [if_neg (by omega), if_pos k0, if_neg (by omega)])
      have HE : Hid (kindS typesL [] (lawL o x yy) [] = (0, 10)) := Lib.hid (by rw [HKD.out, HW.out]; rfl)
      have b1 : decide (7 ≤ o) = false := decide_eq_false (by omega)
      have b3 : decide (o ≤ 6) = true := decide_eq_true (by omega)
      have b4 : (x == 1) = true := by simp; omega
      have b5 : (yy == 1) = false := by simp; omega
      clear k0 k1 k2
      go_wp2_with fail
      refine (kind_any p typesL _ [] _ (lawL o x yy) _ HS6.out HBS.out HNS.out HGD.out).mono ?_
      rw [HE.out]
      rintro e w7 ⟨rfl, hb7⟩
      have HB7 := Lib.hid (HB6.out.trans (hb7.mono HB6.out.size))
      clear hb7
      go_wp2_with fail
      refine (awake_any _).mono ?_
      rintro e w8 ⟨rfl, hb8⟩
      have HB8 := Lib.hid (HB7.out.trans (hb8.mono HB7.out.size))
      clear hb8
      go_wp2
      go_ret
      exact ⟨rfl, HB8.out⟩
    · have HW : Hid (wantK o x yy = 0) := Lib.hid (by unfold wantK; rw [if_neg (by omega), if_pos k0, if_neg (by omega)])
      have HE : Hid (kindS typesL [] (lawL o x yy) [] = (0, 10)) := Lib.hid (by rw [HKD.out, HW.out]; rfl)
      have b1 : decide (7 ≤ o) = false := decide_eq_false (by omega)
      have b3 : decide (o ≤ 6) = true := decide_eq_true (by omega)
      have b4 : (x == 1) = false := by simp; omega
      clear k0 k1
      go_wp2_with fail
      refine (kind_any p typesL _ [] _ (lawL o x yy) _ HS6.out HBS.out HNS.out HGD.out).mono ?_
      rw [HE.out]
      rintro e w7 ⟨rfl, hb7⟩
      have HB7 := Lib.hid (HB6.out.trans (hb7.mono HB6.out.size))
      clear hb7
      go_wp2_with fail
      refine (awake_any _).mono ?_
      rintro e w8 ⟨rfl, hb8⟩
      have HB8 := Lib.hid (HB7.out.trans (hb8.mono HB7.out.size))
      clear hb8
      go_wp2
      go_ret
      exact ⟨rfl, HB8.out⟩
    · have HW : Hid (wantK o x yy = 3) := Lib.hid (by unfold wantK; rw [if_neg (by omega), if_neg (by omega), if_pos ⟨k1, k2⟩])
      have HE : Hid (kindS typesL [] (lawL o x yy) [] = (3, 0)) := Lib.hid (by rw [HKD.out, HW.out]; rfl)
      have b1 : decide (7 ≤ o) = true := decide_eq_true (by omega)
      have b2 : decide (o ≤ 12) = false := decide_eq_false (by omega)
      have b3 : decide (o ≤ 6) = false := decide_eq_false (by omega)
      have b4 : (x == 3) = true := by simp; omega
      have b5 : (yy == 3) = true := by simp; omega
      clear k0 k1 k2
      go_wp2_with fail
      refine (kind_any p typesL _ [] _ (lawL o x yy) _ HS6.out HBS.out HNS.out HGD.out).mono ?_
      rw [HE.out]
      rintro e w7 ⟨rfl, hb7⟩
      have HB7 := Lib.hid (HB6.out.trans (hb7.mono HB6.out.size))
      clear hb7
      go_wp2_with fail
      refine (awake_any _).mono ?_
      rintro e w8 ⟨rfl, hb8⟩
      have HB8 := Lib.hid (HB7.out.trans (hb8.mono HB7.out.size))
      clear hb8
      go_wp2
      go_ret
      exact ⟨rfl, HB8.out⟩
    · have HW : Hid (wantK o x yy = 0) := Lib.hid (by unfold wantK; rw [if_neg (by omega), if_neg (by omega), if_neg (by omega)])
      have HE : Hid (kindS typesL [] (lawL o x yy) [] = (0, 10)) := Lib.hid (by rw [HKD.out, HW.out]; rfl)
      have b1 : decide (7 ≤ o) = true := decide_eq_true (by omega)
      have b2 : decide (o ≤ 12) = false := decide_eq_false (by omega)
      have b3 : decide (o ≤ 6) = false := decide_eq_false (by omega)
      have b4 : (x == 3) = true := by simp; omega
      have b5 : (yy == 3) = false := by simp; omega
      clear k0 k1 k2
      go_wp2_with fail
      refine (kind_any p typesL _ [] _ (lawL o x yy) _ HS6.out HBS.out HNS.out HGD.out).mono ?_
      rw [HE.out]
      rintro e w7 ⟨rfl, hb7⟩
      have HB7 := Lib.hid (HB6.out.trans (hb7.mono HB6.out.size))
      clear hb7
      go_wp2_with fail
      refine (awake_any _).mono ?_
      rintro e w8 ⟨rfl, hb8⟩
      have HB8 := Lib.hid (HB7.out.trans (hb8.mono HB7.out.size))
      clear hb8
      go_wp2
      go_ret
      exact ⟨rfl, HB8.out⟩
    · have HW : Hid (wantK o x yy = 0) := Lib.hid (by unfold wantK; rw [if_neg (by omega), if_neg (by omega), if_neg (by omega)])
      have HE : Hid (kindS typesL [] (lawL o x yy) [] = (0, 10)) := Lib.hid (by rw [HKD.out, HW.out]; rfl)
      have b1 : decide (7 ≤ o) = true := decide_eq_true (by omega)
      have b2 : decide (o ≤ 12) = false := decide_eq_false (by omega)
      have b3 : decide (o ≤ 6) = false := decide_eq_false (by omega)
      have b4 : (x == 3) = false := by simp; omega
      clear k0 k1
      go_wp2_with fail
      refine (kind_any p typesL _ [] _ (lawL o x yy) _ HS6.out HBS.out HNS.out HGD.out).mono ?_
      rw [HE.out]
      rintro e w7 ⟨rfl, hb7⟩
      have HB7 := Lib.hid (HB6.out.trans (hb7.mono HB6.out.size))
      clear hb7
      go_wp2_with fail
      refine (awake_any _).mono ?_
      rintro e w8 ⟨rfl, hb8⟩
      have HB8 := Lib.hid (HB7.out.trans (hb8.mono HB7.out.size))
      clear hb8
      go_wp2
      go_ret
      exact ⟨rfl, HB8.out⟩
end Go.Proofs.Ytjnlpgmocngenaa.Ty
