/- The law HeapPlays. -/
import Derived.Test.YtickliklghecgaaHpW
import Derived.Test.YtickliklghecgaaLaw
import Derived.Test.YtickliklghecgaaOpen
import Derived.Deep.RegionHeld3
import Derived.Deep.DeepCutAuto
import Derived.Deep.CutBlock
import Derived.BigQuiet
namespace Go.Proofs.Ytickliklghecgaa.Hp
open Go.RowKit Go.Proofs.Ytickliklghecgaa Go.Proofs.Ytickliklghecgaa.Mut
set_option linter.unusedVariables false
set_option maxRecDepth 100000
structure Cut7h (C : Prop) where
  G1 : Prop
  G2 : Prop
  G3 : Prop
  G4 : Prop
  G5 : Prop
  G6 : Prop
  G7 : Prop
  ok : Go.RowKit.Hid G1 → Go.RowKit.Hid G2 → Go.RowKit.Hid G3 → Go.RowKit.Hid G4 → Go.RowKit.Hid G5 → Go.RowKit.Hid G6 → Go.RowKit.Hid G7 → Go.RowKit.Hid True → C
set_option maxHeartbeats 20000000 in
noncomputable def part1 (ga oa n c : Nat) (f g h : Nat → Int) (ln : n ≤ c) (lc : c ≤ 9223372036854775807) (w : World) (HL : Hid (∀ k, k < n → ga < w.heap.size ∧ w.cell? ⟨ga, oa + k * 3, none⟩ = some (.int .i64 (f k)) ∧ w.cell? ⟨ga, oa + k * 3 + 1, none⟩ = some (.int .i64 (g k)) ∧ w.cell? ⟨ga, oa + k * 3 + 2, none⟩ = some (.int .i64 (h k)))) :
    Cut7h (Calls Try.prog 3 #[.slice (some ⟨ga, oa, none⟩) n c] w fun e w' => e = .returned (.bool true) ∧ Below w.heap.size w w') := by
  apply Cut7h.mk
  case ok =>
    intro g1 g2 g3 g4 g5 g6 g7 g_last
    go_enter Try.func3, Try.ntmps3
    go_wp2_with fail
    refine (awake_any _).mono ?_
    rintro e w1 ⟨rfl, hb1⟩
    have H0 : Hid (Gm w ((w1.alloc (.cells #[.slice none 0 0] 26)).alloc (.cells #[] 30)) w1.heap.size 0 (.slice (some ⟨w1.heap.size + 1, 0, none⟩) 0 0)) := Lib.hid
      ⟨_, _, _, _, _, ⟨⟨⟨(Row.made w1 _ _).alloc _, Seg.nil _ _ _⟩, hb1.size, (fun _ e => by cases e), (hb1.alloc hb1.size _).alloc (by have := hb1.size; simp; omega) _⟩, empty_sl _ _, (fun _ e => by cases e)⟩, (fun i h0 hl => by simp at hl), List.Perm.refl _, Nat.le_refl _⟩
    have HB1 := Lib.hid hb1
    obtain ⟨i0, hi0, hz0, hz1, hz2⟩ := info_parts stamp_info
    clear hb1
    go_wp2_with fail
    go_loopw [4, 5] (fun s4 s5 wr => ∃ i : Nat, i ≤ n ∧ i ≤ 60 ∧ s5 = .int .i64 i ∧ Hid (Gm w wr w1.heap.size i s4)) (fun _ s5 _ => 60 - (intOf s5).toNat)
    case atStart => exact ⟨0, by omega, by omega, rfl, H0⟩
    case round =>
      obtain ⟨i, hi, hi60, rfl, hj⟩ := hrel
      obtain ⟨v, ob, xs, om, m, hp, hq⟩ := hj.out
      obtain ⟨V, rfl⟩ : ∃ V, V = wr := ⟨_, rfl⟩
      have HP := Lib.hid hp
      have HQ := Lib.hid hq
      clear hj H0
      by_cases hlt : i < n ∧ i < 60
      · obtain ⟨hin, hi6⟩ := hlt
        obtain ⟨hga, hc0, hc1, hc2⟩ := HL.out i hin
        have a0 : V.cell? ⟨ga, oa + i * 3, none⟩ = some (.int .i64 (f i)) := (hp.fr.be.cell (p := ⟨ga, oa + i * 3, none⟩) hga).trans hc0
        have a1 : V.cell? ⟨ga, oa + i * 3 + 1, none⟩ = some (.int .i64 (g i)) := (hp.fr.be.cell (p := ⟨ga, oa + i * 3 + 1, none⟩) hga).trans hc1
        have a2 : V.cell? ⟨ga, oa + i * 3 + 2, none⟩ = some (.int .i64 (h i)) := (hp.fr.be.cell (p := ⟨ga, oa + i * 3 + 2, none⟩) hga).trans hc2
        have e60 : decide ((i : Int) < 60) = true := by simp; omega
        have hii : (i : Int) < (n : Int) := by omega
        obtain ⟨A4, c4, rfl, hn4, hm4⟩ := hp.sl.form
        have hsv : w.heap.size ≤ V.heap.size := hp.fr.be.size
        have b1 : (V.alloc (.cells #[.int .i64 0, .int .i64 0, .int .i64 0] 30)).cell? ⟨ga, oa + i * 3 + 1, none⟩ = some (.int .i64 (g i)) := Lib.cell?_alloc_some _ a1
        have b2 : (V.alloc (.cells #[.int .i64 0, .int .i64 0, .int .i64 0] 30)).cell? ⟨ga, oa + i * 3 + 2, none⟩ = some (.int .i64 (h i)) := Lib.cell?_alloc_some _ a2
        clear hp hq hc0 hc1 hc2
        go_upto_region 8 with fail
        go_cut [6] (fun s6 wx => s6 = .pointer (some ⟨V.heap.size, 0, none⟩) ∧ ∃ x : St, Hid (Row wx V.heap.size 30 #[.int .i64 x.t, .int .i64 x.q, .int .i64 x.a]) ∧ Hid (Below V.heap.size V wx))
        case first =>
          go_region
          all_goals
            go_wp2
            go_meet
            exact ⟨rfl, ⟨bits .and .i64 (g i) 7, bits .and .i64 (h i) 3, i⟩, Lib.hid (Row.made V _ _), Lib.hid (below_drewN ((Below.refl _ V).alloc (Nat.le_refl _) _) 1)⟩
        case rest =>
          obtain ⟨rfl, x, HXB, HBX⟩ := hcut
          obtain ⟨V2, rfl⟩ : ∃ V2, V2 = wc := ⟨_, rfl⟩
          have HP2 := Lib.hid (HP.out.call HBX.out)
          have d0 : V2.cell? ⟨ga, oa + i * 3, none⟩ = some (.int .i64 (f i)) := (HBX.out.cell (p := ⟨ga, oa + i * 3, none⟩) (show ga < V.heap.size by omega)).trans a0
          clear a0 a1 a2 b1 b2
          obtain ⟨y, hy, hy0, hy8⟩ : ∃ y : Int, bits .and .i64 (f i) 7 = y ∧ 0 ≤ y ∧ y < 8 := ⟨_, rfl, by rw [and7]; omega, by rw [and7]; omega⟩
          have HY := Lib.hid hy
          have x0 : V2.cell? ⟨V.heap.size, 0, none⟩ = some (.int .i64 x.t) := (HXB.out.cell 0).trans rfl
          have x1 : V2.cell? ⟨V.heap.size, 1, none⟩ = some (.int .i64 x.q) := (HXB.out.cell 1).trans rfl
          have x2 : V2.cell? ⟨V.heap.size, 2, none⟩ = some (.int .i64 x.a) := (HXB.out.cell 2).trans rfl
          have HXN : Hid (¬ (V.heap.size = w1.heap.size ∨ ob = some V.heap.size)) := Lib.hid (by
            rintro (e | e)
            · have := HP.out.fr.hm.row.lt; omega
            · have := HP.out.fr.hm.seg.lt _ e; omega)
          clear hy
          go_upto_block 2 with fail
          rw [HY.out]
          go_cut [4] (fun s4 wx => Hid (Gm w wx w1.heap.size (i + 1) s4))
          case first =>
            rcases (show y = 0 ∨ y = 1 ∨ y = 2 ∨ y = 3 ∨ y = 4 ∨ y = 5 ∨ y = 6 ∨ y = 7 from by omega) with rfl | rfl | rfl | rfl | rfl | rfl | rfl | rfl
            · (repeat (rename_i x_0 x_1 x_2 x_3 x_4 x_5 x_6 x_7 x_8 x_9 x_10 x_11 x_12 x_13 x_14 x_15 x_16 x_17 x_18 x_19 x_20 x_21 x_22 x_23 x_24 x_25 x_26 x_27 x_28 x_29 x_30 x_31 x_32 x_33 x_34 x_35 x_36 x_37 x_38 x_39 x_40 x_41 x_42 x_43 x_44 x_45 x_46 x_47 x_48 x_49 x_50 x_51 x_52 x_53 x_54 x_55 x_56 x_57 x_58 x_59 x_60 x_61 x_62 x_63; revert x_0 x_1 x_2 x_3 x_4 x_5 x_6 x_7 x_8 x_9 x_10 x_11 x_12 x_13 x_14 x_15 x_16 x_17 x_18 x_19 x_20 x_21 x_22 x_23 x_24 x_25 x_26 x_27 x_28 x_29 x_30 x_31 x_32 x_33 x_34 x_35 x_36 x_37 x_38 x_39 x_40 x_41 x_42 x_43 x_44 x_45 x_46 x_47 x_48 x_49 x_50 x_51 x_52 x_53 x_54 x_55 x_56 x_57 x_58 x_59 x_60 x_61 x_62 x_63))
              (repeat (rename_i x_0 x_1 x_2 x_3 x_4 x_5 x_6 x_7; revert x_0 x_1 x_2 x_3 x_4 x_5 x_6 x_7))
              (repeat (rename_i x_; revert x_))
              try (revert u0)
              try (revert u1)
              try (revert u2)
              first | revert u3 u4 u5 u6 u7 u8 u9 u10 u11 u12 u13 u14 | ((try (revert u3)); (try (revert u4)); (try (revert u5)); (try (revert u6)); (try (revert u7)); (try (revert u8)); (try (revert u9)); (try (revert u10)); (try (revert u11)); (try (revert u12)); (try (revert u13)); (try (revert u14)))
              first | revert u15 u16 u17 u18 u19 u20 u21 u22 u23 u24 u25 u26 | ((try (revert u15)); (try (revert u16)); (try (revert u17)); (try (revert u18)); (try (revert u19)); (try (revert u20)); (try (revert u21)); (try (revert u22)); (try (revert u23)); (try (revert u24)); (try (revert u25)); (try (revert u26)))
              first | revert u27 u28 u29 u30 u31 u32 u33 u34 u35 u36 u37 u38 | ((try (revert u27)); (try (revert u28)); (try (revert u29)); (try (revert u30)); (try (revert u31)); (try (revert u32)); (try (revert u33)); (try (revert u34)); (try (revert u35)); (try (revert u36)); (try (revert u37)); (try (revert u38)))
              first | revert u39 u40 u41 u42 u43 u44 u45 u46 u47 u48 u49 u50 | ((try (revert u39)); (try (revert u40)); (try (revert u41)); (try (revert u42)); (try (revert u43)); (try (revert u44)); (try (revert u45)); (try (revert u46)); (try (revert u47)); (try (revert u48)); (try (revert u49)); (try (revert u50)))
              first | revert u51 u52 u53 u54 u55 u56 u57 u58 u59 u60 u61 u62 | ((try (revert u51)); (try (revert u52)); (try (revert u53)); (try (revert u54)); (try (revert u55)); (try (revert u56)); (try (revert u57)); (try (revert u58)); (try (revert u59)); (try (revert u60)); (try (revert u61)); (try (revert u62)))
              first | revert u63 u64 u65 u66 u67 u68 u69 u70 u71 u72 u73 u74 | ((try (revert u63)); (try (revert u64)); (try (revert u65)); (try (revert u66)); (try (revert u67)); (try (revert u68)); (try (revert u69)); (try (revert u70)); (try (revert u71)); (try (revert u72)); (try (revert u73)); (try (revert u74)))
              first | revert u75 u76 u77 u78 u79 u80 u81 u82 u83 u84 u85 u86 | ((try (revert u75)); (try (revert u76)); (try (revert u77)); (try (revert u78)); (try (revert u79)); (try (revert u80)); (try (revert u81)); (try (revert u82)); (try (revert u83)); (try (revert u84)); (try (revert u85)); (try (revert u86)))
              first | revert u87 u88 u89 u90 u91 u92 u93 u94 u95 u96 u97 u98 | ((try (revert u87)); (try (revert u88)); (try (revert u89)); (try (revert u90)); (try (revert u91)); (try (revert u92)); (try (revert u93)); (try (revert u94)); (try (revert u95)); (try (revert u96)); (try (revert u97)); (try (revert u98)))
              first | revert u99 u100 u101 u102 u103 u104 u105 u106 u107 u108 u109 u110 | ((try (revert u99)); (try (revert u100)); (try (revert u101)); (try (revert u102)); (try (revert u103)); (try (revert u104)); (try (revert u105)); (try (revert u106)); (try (revert u107)); (try (revert u108)); (try (revert u109)); (try (revert u110)))
              first | revert u111 u112 u113 u114 u115 u116 u117 u118 u119 u120 u121 u122 | ((try (revert u111)); (try (revert u112)); (try (revert u113)); (try (revert u114)); (try (revert u115)); (try (revert u116)); (try (revert u117)); (try (revert u118)); (try (revert u119)); (try (revert u120)); (try (revert u121)); (try (revert u122)))
              first | revert u123 u124 u125 u126 u127 u128 u129 u130 u131 u132 u133 u134 | ((try (revert u123)); (try (revert u124)); (try (revert u125)); (try (revert u126)); (try (revert u127)); (try (revert u128)); (try (revert u129)); (try (revert u130)); (try (revert u131)); (try (revert u132)); (try (revert u133)); (try (revert u134)))
              first | revert u135 u136 u137 u138 u139 u140 u141 u142 u143 u144 u145 u146 | ((try (revert u135)); (try (revert u136)); (try (revert u137)); (try (revert u138)); (try (revert u139)); (try (revert u140)); (try (revert u141)); (try (revert u142)); (try (revert u143)); (try (revert u144)); (try (revert u145)); (try (revert u146)))
              first | revert u147 u148 u149 u150 u151 u152 u153 u154 u155 u156 u157 u158 | ((try (revert u147)); (try (revert u148)); (try (revert u149)); (try (revert u150)); (try (revert u151)); (try (revert u152)); (try (revert u153)); (try (revert u154)); (try (revert u155)); (try (revert u156)); (try (revert u157)); (try (revert u158)))
              first | revert u159 u160 u161 u162 u163 u164 u165 u166 u167 u168 u169 u170 | ((try (revert u159)); (try (revert u160)); (try (revert u161)); (try (revert u162)); (try (revert u163)); (try (revert u164)); (try (revert u165)); (try (revert u166)); (try (revert u167)); (try (revert u168)); (try (revert u169)); (try (revert u170)))
              first | revert u171 u172 u173 u174 u175 u176 u177 u178 u179 u180 u181 u182 | ((try (revert u171)); (try (revert u172)); (try (revert u173)); (try (revert u174)); (try (revert u175)); (try (revert u176)); (try (revert u177)); (try (revert u178)); (try (revert u179)); (try (revert u180)); (try (revert u181)); (try (revert u182)))
              first | revert u183 u184 u185 u186 u187 u188 u189 u190 u191 u192 u193 u194 | ((try (revert u183)); (try (revert u184)); (try (revert u185)); (try (revert u186)); (try (revert u187)); (try (revert u188)); (try (revert u189)); (try (revert u190)); (try (revert u191)); (try (revert u192)); (try (revert u193)); (try (revert u194)))
              first | revert u195 u196 u197 u198 u199 u200 u201 u202 u203 u204 u205 | ((try (revert u195)); (try (revert u196)); (try (revert u197)); (try (revert u198)); (try (revert u199)); (try (revert u200)); (try (revert u201)); (try (revert u202)); (try (revert u203)); (try (revert u204)); (try (revert u205)))
              try revert Int
              try revert i64
              try revert w1
              try revert hb1
              try revert H0
              try revert i
              try revert HB1
              try revert i0
              try revert hi0
              try revert hz0
              try revert hz1
              try revert hz2
              try revert wr
              try revert hi
              try revert hi60
              try revert hj
              try revert v
              try revert ob
              try revert xs
              try revert om
              try revert m
              try revert hp
              try revert hq
              try revert V
              try revert HP
              try revert HQ
              try revert hlt
              try revert hin
              try revert hi6
              try revert hga
              try revert hc0
              try revert hc1
              try revert hc2
              try revert a0
              try revert a1
              try revert a2
              try revert e60
              try revert hii
              try revert A4
              try revert c4
              try revert hn4
              try revert hm4
              try revert hsv
              try revert b1
              try revert b2
              try revert x
              try revert bits
              try revert and
              try revert HXB
              try revert HBX
              try revert V2
              try revert wc
              try revert HP2
              try revert d0
              try revert y
              try revert hy
              try revert hy0
              try revert hy8
              try revert HY
              try revert x0
              try revert x1
              try revert x2
              try revert HXN
              try revert e
              revert g_last
              exact g1.out
            · (repeat (rename_i x_0 x_1 x_2 x_3 x_4 x_5 x_6 x_7 x_8 x_9 x_10 x_11 x_12 x_13 x_14 x_15 x_16 x_17 x_18 x_19 x_20 x_21 x_22 x_23 x_24 x_25 x_26 x_27 x_28 x_29 x_30 x_31 x_32 x_33 x_34 x_35 x_36 x_37 x_38 x_39 x_40 x_41 x_42 x_43 x_44 x_45 x_46 x_47 x_48 x_49 x_50 x_51 x_52 x_53 x_54 x_55 x_56 x_57 x_58 x_59 x_60 x_61 x_62 x_63; revert x_0 x_1 x_2 x_3 x_4 x_5 x_6 x_7 x_8 x_9 x_10 x_11 x_12 x_13 x_14 x_15 x_16 x_17 x_18 x_19 x_20 x_21 x_22 x_23 x_24 x_25 x_26 x_27 x_28 x_29 x_30 x_31 x_32 x_33 x_34 x_35 x_36 x_37 x_38 x_39 x_40 x_41 x_42 x_43 x_44 x_45 x_46 x_47 x_48 x_49 x_50 x_51 x_52 x_53 x_54 x_55 x_56 x_57 x_58 x_59 x_60 x_61 x_62 x_63))
              (repeat (rename_i x_0 x_1 x_2 x_3 x_4 x_5 x_6 x_7; revert x_0 x_1 x_2 x_3 x_4 x_5 x_6 x_7))
              (repeat (rename_i x_; revert x_))
              try (revert u0)
              try (revert u1)
              try (revert u2)
              first | revert u3 u4 u5 u6 u7 u8 u9 u10 u11 u12 u13 u14 | ((try (revert u3)); (try (revert u4)); (try (revert u5)); (try (revert u6)); (try (revert u7)); (try (revert u8)); (try (revert u9)); (try (revert u10)); (try (revert u11)); (try (revert u12)); (try (revert u13)); (try (revert u14)))
              first | revert u15 u16 u17 u18 u19 u20 u21 u22 u23 u24 u25 u26 | ((try (revert u15)); (try (revert u16)); (try (revert u17)); (try (revert u18)); (try (revert u19)); (try (revert u20)); (try (revert u21)); (try (revert u22)); (try (revert u23)); (try (revert u24)); (try (revert u25)); (try (revert u26)))
              first | revert u27 u28 u29 u30 u31 u32 u33 u34 u35 u36 u37 u38 | ((try (revert u27)); (try (revert u28)); (try (revert u29)); (try (revert u30)); (try (revert u31)); (try (revert u32)); (try (revert u33)); (try (revert u34)); (try (revert u35)); (try (revert u36)); (try (revert u37)); (try (revert u38)))
              first | revert u39 u40 u41 u42 u43 u44 u45 u46 u47 u48 u49 u50 | ((try (revert u39)); (try (revert u40)); (try (revert u41)); (try (revert u42)); (try (revert u43)); (try (revert u44)); (try (revert u45)); (try (revert u46)); (try (revert u47)); (try (revert u48)); (try (revert u49)); (try (revert u50)))
              first | revert u51 u52 u53 u54 u55 u56 u57 u58 u59 u60 u61 u62 | ((try (revert u51)); (try (revert u52)); (try (revert u53)); (try (revert u54)); (try (revert u55)); (try (revert u56)); (try (revert u57)); (try (revert u58)); (try (revert u59)); (try (revert u60)); (try (revert u61)); (try (revert u62)))
              first | revert u63 u64 u65 u66 u67 u68 u69 u70 u71 u72 u73 u74 | ((try (revert u63)); (try (revert u64)); (try (revert u65)); (try (revert u66)); (try (revert u67)); (try (revert u68)); (try (revert u69)); (try (revert u70)); (try (revert u71)); (try (revert u72)); (try (revert u73)); (try (revert u74)))
              first | revert u75 u76 u77 u78 u79 u80 u81 u82 u83 u84 u85 u86 | ((try (revert u75)); (try (revert u76)); (try (revert u77)); (try (revert u78)); (try (revert u79)); (try (revert u80)); (try (revert u81)); (try (revert u82)); (try (revert u83)); (try (revert u84)); (try (revert u85)); (try (revert u86)))
              first | revert u87 u88 u89 u90 u91 u92 u93 u94 u95 u96 u97 u98 | ((try (revert u87)); (try (revert u88)); (try (revert u89)); (try (revert u90)); (try (revert u91)); (try (revert u92)); (try (revert u93)); (try (revert u94)); (try (revert u95)); (try (revert u96)); (try (revert u97)); (try (revert u98)))
              first | revert u99 u100 u101 u102 u103 u104 u105 u106 u107 u108 u109 u110 | ((try (revert u99)); (try (revert u100)); (try (revert u101)); (try (revert u102)); (try (revert u103)); (try (revert u104)); (try (revert u105)); (try (revert u106)); (try (revert u107)); (try (revert u108)); (try (revert u109)); (try (revert u110)))
              first | revert u111 u112 u113 u114 u115 u116 u117 u118 u119 u120 u121 u122 | ((try (revert u111)); (try (revert u112)); (try (revert u113)); (try (revert u114)); (try (revert u115)); (try (revert u116)); (try (revert u117)); (try (revert u118)); (try (revert u119)); (try (revert u120)); (try (revert u121)); (try (revert u122)))
              first | revert u123 u124 u125 u126 u127 u128 u129 u130 u131 u132 u133 u134 | ((try (revert u123)); (try (revert u124)); (try (revert u125)); (try (revert u126)); (try (revert u127)); (try (revert u128)); (try (revert u129)); (try (revert u130)); (try (revert u131)); (try (revert u132)); (try (revert u133)); (try (revert u134)))
              first | revert u135 u136 u137 u138 u139 u140 u141 u142 u143 u144 u145 u146 | ((try (revert u135)); (try (revert u136)); (try (revert u137)); (try (revert u138)); (try (revert u139)); (try (revert u140)); (try (revert u141)); (try (revert u142)); (try (revert u143)); (try (revert u144)); (try (revert u145)); (try (revert u146)))
              first | revert u147 u148 u149 u150 u151 u152 u153 u154 u155 u156 u157 u158 | ((try (revert u147)); (try (revert u148)); (try (revert u149)); (try (revert u150)); (try (revert u151)); (try (revert u152)); (try (revert u153)); (try (revert u154)); (try (revert u155)); (try (revert u156)); (try (revert u157)); (try (revert u158)))
              first | revert u159 u160 u161 u162 u163 u164 u165 u166 u167 u168 u169 u170 | ((try (revert u159)); (try (revert u160)); (try (revert u161)); (try (revert u162)); (try (revert u163)); (try (revert u164)); (try (revert u165)); (try (revert u166)); (try (revert u167)); (try (revert u168)); (try (revert u169)); (try (revert u170)))
              first | revert u171 u172 u173 u174 u175 u176 u177 u178 u179 u180 u181 u182 | ((try (revert u171)); (try (revert u172)); (try (revert u173)); (try (revert u174)); (try (revert u175)); (try (revert u176)); (try (revert u177)); (try (revert u178)); (try (revert u179)); (try (revert u180)); (try (revert u181)); (try (revert u182)))
              first | revert u183 u184 u185 u186 u187 u188 u189 u190 u191 u192 u193 u194 | ((try (revert u183)); (try (revert u184)); (try (revert u185)); (try (revert u186)); (try (revert u187)); (try (revert u188)); (try (revert u189)); (try (revert u190)); (try (revert u191)); (try (revert u192)); (try (revert u193)); (try (revert u194)))
              first | revert u195 u196 u197 u198 u199 u200 u201 u202 u203 u204 u205 | ((try (revert u195)); (try (revert u196)); (try (revert u197)); (try (revert u198)); (try (revert u199)); (try (revert u200)); (try (revert u201)); (try (revert u202)); (try (revert u203)); (try (revert u204)); (try (revert u205)))
              try revert Int
              try revert i64
              try revert w1
              try revert hb1
              try revert H0
              try revert i
              try revert HB1
              try revert i0
              try revert hi0
              try revert hz0
              try revert hz1
              try revert hz2
              try revert wr
              try revert hi
              try revert hi60
              try revert hj
              try revert v
              try revert ob
              try revert xs
              try revert om
              try revert m
              try revert hp
              try revert hq
              try revert V
              try revert HP
              try revert HQ
              try revert hlt
              try revert hin
              try revert hi6
              try revert hga
              try revert hc0
              try revert hc1
              try revert hc2
              try revert a0
              try revert a1
              try revert a2
              try revert e60
              try revert hii
              try revert A4
              try revert c4
              try revert hn4
              try revert hm4
              try revert hsv
              try revert b1
              try revert b2
              try revert x
              try revert bits
              try revert and
              try revert HXB
              try revert HBX
              try revert V2
              try revert wc
              try revert HP2
              try revert d0
              try revert y
              try revert hy
              try revert hy0
              try revert hy8
              try revert HY
              try revert x0
              try revert x1
              try revert x2
              try revert HXN
              try revert e
              revert g_last
              exact g2.out
            · (repeat (rename_i x_0 x_1 x_2 x_3 x_4 x_5 x_6 x_7 x_8 x_9 x_10 x_11 x_12 x_13 x_14 x_15 x_16 x_17 x_18 x_19 x_20 x_21 x_22 x_23 x_24 x_25 x_26 x_27 x_28 x_29 x_30 x_31 x_32 x_33 x_34 x_35 x_36 x_37 x_38 x_39 x_40 x_41 x_42 x_43 x_44 x_45 x_46 x_47 x_48 x_49 x_50 x_51 x_52 x_53 x_54 x_55 x_56 x_57 x_58 x_59 x_60 x_61 x_62 x_63; revert x_0 x_1 x_2 x_3 x_4 x_5 x_6 x_7 x_8 x_9 x_10 x_11 x_12 x_13 x_14 x_15 x_16 x_17 x_18 x_19 x_20 x_21 x_22 x_23 x_24 x_25 x_26 x_27 x_28 x_29 x_30 x_31 x_32 x_33 x_34 x_35 x_36 x_37 x_38 x_39 x_40 x_41 x_42 x_43 x_44 x_45 x_46 x_47 x_48 x_49 x_50 x_51 x_52 x_53 x_54 x_55 x_56 x_57 x_58 x_59 x_60 x_61 x_62 x_63))
              (repeat (rename_i x_0 x_1 x_2 x_3 x_4 x_5 x_6 x_7; revert x_0 x_1 x_2 x_3 x_4 x_5 x_6 x_7))
              (repeat (rename_i x_; revert x_))
              try (revert u0)
              try (revert u1)
              try (revert u2)
              first | revert u3 u4 u5 u6 u7 u8 u9 u10 u11 u12 u13 u14 | ((try (revert u3)); (try (revert u4)); (try (revert u5)); (try (revert u6)); (try (revert u7)); (try (revert u8)); (try (revert u9)); (try (revert u10)); (try (revert u11)); (try (revert u12)); (try (revert u13)); (try (revert u14)))
              first | revert u15 u16 u17 u18 u19 u20 u21 u22 u23 u24 u25 u26 | ((try (revert u15)); (try (revert u16)); (try (revert u17)); (try (revert u18)); (try (revert u19)); (try (revert u20)); (try (revert u21)); (try (revert u22)); (try (revert u23)); (try (revert u24)); (try (revert u25)); (try (revert u26)))
              first | revert u27 u28 u29 u30 u31 u32 u33 u34 u35 u36 u37 u38 | ((try (revert u27)); (try (revert u28)); (try (revert u29)); (try (revert u30)); (try (revert u31)); (try (revert u32)); (try (revert u33)); (try (revert u34)); (try (revert u35)); (try (revert u36)); (try (revert u37)); (try (revert u38)))
              first | revert u39 u40 u41 u42 u43 u44 u45 u46 u47 u48 u49 u50 | ((try (revert u39)); (try (revert u40)); (try (revert u41)); (try (revert u42)); (try (revert u43)); (try (revert u44)); (try (revert u45)); (try (revert u46)); (try (revert u47)); (try (revert u48)); (try (revert u49)); (try (revert u50)))
              first | revert u51 u52 u53 u54 u55 u56 u57 u58 u59 u60 u61 u62 | ((try (revert u51)); (try (revert u52)); (try (revert u53)); (try (revert u54)); (try (revert u55)); (try (revert u56)); (try (revert u57)); (try (revert u58)); (try (revert u59)); (try (revert u60)); (try (revert u61)); (try (revert u62)))
              first | revert u63 u64 u65 u66 u67 u68 u69 u70 u71 u72 u73 u74 | ((try (revert u63)); (try (revert u64)); (try (revert u65)); (try (revert u66)); (try (revert u67)); (try (revert u68)); (try (revert u69)); (try (revert u70)); (try (revert u71)); (try (revert u72)); (try (revert u73)); (try (revert u74)))
              first | revert u75 u76 u77 u78 u79 u80 u81 u82 u83 u84 u85 u86 | ((try (revert u75)); (try (revert u76)); (try (revert u77)); (try (revert u78)); (try (revert u79)); (try (revert u80)); (try (revert u81)); (try (revert u82)); (try (revert u83)); (try (revert u84)); (try (revert u85)); (try (revert u86)))
              first | revert u87 u88 u89 u90 u91 u92 u93 u94 u95 u96 u97 u98 | ((try (revert u87)); (try (revert u88)); (try (revert u89)); (try (revert u90)); (try (revert u91)); (try (revert u92)); (try (revert u93)); (try (revert u94)); (try (revert u95)); (try (revert u96)); (try (revert u97)); (try (revert u98)))
              first | revert u99 u100 u101 u102 u103 u104 u105 u106 u107 u108 u109 u110 | ((try (revert u99)); (try (revert u100)); (try (revert u101)); (try (revert u102)); (try (revert u103)); (try (revert u104)); (try (revert u105)); (try (revert u106)); (try (revert u107)); (try (revert u108)); (try (revert u109)); (try (revert u110)))
              first | revert u111 u112 u113 u114 u115 u116 u117 u118 u119 u120 u121 u122 | ((try (revert u111)); (try (revert u112)); (try (revert u113)); (try (revert u114)); (try (revert u115)); (try (revert u116)); (try (revert u117)); (try (revert u118)); (try (revert u119)); (try (revert u120)); (try (revert u121)); (try (revert u122)))
              first | revert u123 u124 u125 u126 u127 u128 u129 u130 u131 u132 u133 u134 | ((try (revert u123)); (try (revert u124)); (try (revert u125)); (try (revert u126)); (try (revert u127)); (try (revert u128)); (try (revert u129)); (try (revert u130)); (try (revert u131)); (try (revert u132)); (try (revert u133)); (try (revert u134)))
              first | revert u135 u136 u137 u138 u139 u140 u141 u142 u143 u144 u145 u146 | ((try (revert u135)); (try (revert u136)); (try (revert u137)); (try (revert u138)); (try (revert u139)); (try (revert u140)); (try (revert u141)); (try (revert u142)); (try (revert u143)); (try (revert u144)); (try (revert u145)); (try (revert u146)))
              first | revert u147 u148 u149 u150 u151 u152 u153 u154 u155 u156 u157 u158 | ((try (revert u147)); (try (revert u148)); (try (revert u149)); (try (revert u150)); (try (revert u151)); (try (revert u152)); (try (revert u153)); (try (revert u154)); (try (revert u155)); (try (revert u156)); (try (revert u157)); (try (revert u158)))
              first | revert u159 u160 u161 u162 u163 u164 u165 u166 u167 u168 u169 u170 | ((try (revert u159)); (try (revert u160)); (try (revert u161)); (try (revert u162)); (try (revert u163)); (try (revert u164)); (try (revert u165)); (try (revert u166)); (try (revert u167)); (try (revert u168)); (try (revert u169)); (try (revert u170)))
              first | revert u171 u172 u173 u174 u175 u176 u177 u178 u179 u180 u181 u182 | ((try (revert u171)); (try (revert u172)); (try (revert u173)); (try (revert u174)); (try (revert u175)); (try (revert u176)); (try (revert u177)); (try (revert u178)); (try (revert u179)); (try (revert u180)); (try (revert u181)); (try (revert u182)))
              first | revert u183 u184 u185 u186 u187 u188 u189 u190 u191 u192 u193 u194 | ((try (revert u183)); (try (revert u184)); (try (revert u185)); (try (revert u186)); (try (revert u187)); (try (revert u188)); (try (revert u189)); (try (revert u190)); (try (revert u191)); (try (revert u192)); (try (revert u193)); (try (revert u194)))
              first | revert u195 u196 u197 u198 u199 u200 u201 u202 u203 u204 u205 | ((try (revert u195)); (try (revert u196)); (try (revert u197)); (try (revert u198)); (try (revert u199)); (try (revert u200)); (try (revert u201)); (try (revert u202)); (try (revert u203)); (try (revert u204)); (try (revert u205)))
              try revert Int
              try revert i64
              try revert w1
              try revert hb1
              try revert H0
              try revert i
              try revert HB1
              try revert i0
              try revert hi0
              try revert hz0
              try revert hz1
              try revert hz2
              try revert wr
              try revert hi
              try revert hi60
              try revert hj
              try revert v
              try revert ob
              try revert xs
              try revert om
              try revert m
              try revert hp
              try revert hq
              try revert V
              try revert HP
              try revert HQ
              try revert hlt
              try revert hin
              try revert hi6
              try revert hga
              try revert hc0
              try revert hc1
              try revert hc2
              try revert a0
              try revert a1
              try revert a2
              try revert e60
              try revert hii
              try revert A4
              try revert c4
              try revert hn4
              try revert hm4
              try revert hsv
              try revert b1
              try revert b2
              try revert x
              try revert bits
              try revert and
              try revert HXB
              try revert HBX
              try revert V2
              try revert wc
              try revert HP2
              try revert d0
              try revert y
              try revert hy
              try revert hy0
              try revert hy8
              try revert HY
              try revert x0
              try revert x1
              try revert x2
              try revert HXN
              try revert e
              revert g_last
              exact g4.out
            · (repeat (rename_i x_0 x_1 x_2 x_3 x_4 x_5 x_6 x_7 x_8 x_9 x_10 x_11 x_12 x_13 x_14 x_15 x_16 x_17 x_18 x_19 x_20 x_21 x_22 x_23 x_24 x_25 x_26 x_27 x_28 x_29 x_30 x_31 x_32 x_33 x_34 x_35 x_36 x_37 x_38 x_39 x_40 x_41 x_42 x_43 x_44 x_45 x_46 x_47 x_48 x_49 x_50 x_51 x_52 x_53 x_54 x_55 x_56 x_57 x_58 x_59 x_60 x_61 x_62 x_63; revert x_0 x_1 x_2 x_3 x_4 x_5 x_6 x_7 x_8 x_9 x_10 x_11 x_12 x_13 x_14 x_15 x_16 x_17 x_18 x_19 x_20 x_21 x_22 x_23 x_24 x_25 x_26 x_27 x_28 x_29 x_30 x_31 x_32 x_33 x_34 x_35 x_36 x_37 x_38 x_39 x_40 x_41 x_42 x_43 x_44 x_45 x_46 x_47 x_48 x_49 x_50 x_51 x_52 x_53 x_54 x_55 x_56 x_57 x_58 x_59 x_60 x_61 x_62 x_63))
              (repeat (rename_i x_0 x_1 x_2 x_3 x_4 x_5 x_6 x_7; revert x_0 x_1 x_2 x_3 x_4 x_5 x_6 x_7))
              (repeat (rename_i x_; revert x_))
              try (revert u0)
              try (revert u1)
              try (revert u2)
              first | revert u3 u4 u5 u6 u7 u8 u9 u10 u11 u12 u13 u14 | ((try (revert u3)); (try (revert u4)); (try (revert u5)); (try (revert u6)); (try (revert u7)); (try (revert u8)); (try (revert u9)); (try (revert u10)); (try (revert u11)); (try (revert u12)); (try (revert u13)); (try (revert u14)))
              first | revert u15 u16 u17 u18 u19 u20 u21 u22 u23 u24 u25 u26 | ((try (revert u15)); (try (revert u16)); (try (revert u17)); (try (revert u18)); (try (revert u19)); (try (revert u20)); (try (revert u21)); (try (revert u22)); (try (revert u23)); (try (revert u24)); (try (revert u25)); (try (revert u26)))
              first | revert u27 u28 u29 u30 u31 u32 u33 u34 u35 u36 u37 u38 | ((try (revert u27)); (try (revert u28)); (try (revert u29)); (try (revert u30)); (try (revert u31)); (try (revert u32)); (try (revert u33)); (try (revert u34)); (try (revert u35)); (try (revert u36)); (try (revert u37)); (try (revert u38)))
              first | revert u39 u40 u41 u42 u43 u44 u45 u46 u47 u48 u49 u50 | ((try (revert u39)); (try (revert u40)); (try (revert u41)); (try (revert u42)); (try (revert u43)); (try (revert u44)); (try (revert u45)); (try (revert u46)); (try (revert u47)); (try (revert u48)); (try (revert u49)); (try (revert u50)))
              first | revert u51 u52 u53 u54 u55 u56 u57 u58 u59 u60 u61 u62 | ((try (revert u51)); (try (revert u52)); (try (revert u53)); (try (revert u54)); (try (revert u55)); (try (revert u56)); (try (revert u57)); (try (revert u58)); (try (revert u59)); (try (revert u60)); (try (revert u61)); (try (revert u62)))
              first | revert u63 u64 u65 u66 u67 u68 u69 u70 u71 u72 u73 u74 | ((try (revert u63)); (try (revert u64)); (try (revert u65)); (try (revert u66)); (try (revert u67)); (try (revert u68)); (try (revert u69)); (try (revert u70)); (try (revert u71)); (try (revert u72)); (try (revert u73)); (try (revert u74)))
              first | revert u75 u76 u77 u78 u79 u80 u81 u82 u83 u84 u85 u86 | ((try (revert u75)); (try (revert u76)); (try (revert u77)); (try (revert u78)); (try (revert u79)); (try (revert u80)); (try (revert u81)); (try (revert u82)); (try (revert u83)); (try (revert u84)); (try (revert u85)); (try (revert u86)))
              first | revert u87 u88 u89 u90 u91 u92 u93 u94 u95 u96 u97 u98 | ((try (revert u87)); (try (revert u88)); (try (revert u89)); (try (revert u90)); (try (revert u91)); (try (revert u92)); (try (revert u93)); (try (revert u94)); (try (revert u95)); (try (revert u96)); (try (revert u97)); (try (revert u98)))
              first | revert u99 u100 u101 u102 u103 u104 u105 u106 u107 u108 u109 u110 | ((try (revert u99)); (try (revert u100)); (try (revert u101)); (try (revert u102)); (try (revert u103)); (try (revert u104)); (try (revert u105)); (try (revert u106)); (try (revert u107)); (try (revert u108)); (try (revert u109)); (try (revert u110)))
              first | revert u111 u112 u113 u114 u115 u116 u117 u118 u119 u120 u121 u122 | ((try (revert u111)); (try (revert u112)); (try (revert u113)); (try (revert u114)); (try (revert u115)); (try (revert u116)); (try (revert u117)); (try (revert u118)); (try (revert u119)); (try (revert u120)); (try (revert u121)); (try (revert u122)))
              first | revert u123 u124 u125 u126 u127 u128 u129 u130 u131 u132 u133 u134 | ((try (revert u123)); (try (revert u124)); (try (revert u125)); (try (revert u126)); (try (revert u127)); (try (revert u128)); (try (revert u129)); (try (revert u130)); (try (revert u131)); (try (revert u132)); (try (revert u133)); (try (revert u134)))
              first | revert u135 u136 u137 u138 u139 u140 u141 u142 u143 u144 u145 u146 | ((try (revert u135)); (try (revert u136)); (try (revert u137)); (try (revert u138)); (try (revert u139)); (try (revert u140)); (try (revert u141)); (try (revert u142)); (try (revert u143)); (try (revert u144)); (try (revert u145)); (try (revert u146)))
              first | revert u147 u148 u149 u150 u151 u152 u153 u154 u155 u156 u157 u158 | ((try (revert u147)); (try (revert u148)); (try (revert u149)); (try (revert u150)); (try (revert u151)); (try (revert u152)); (try (revert u153)); (try (revert u154)); (try (revert u155)); (try (revert u156)); (try (revert u157)); (try (revert u158)))
              first | revert u159 u160 u161 u162 u163 u164 u165 u166 u167 u168 u169 u170 | ((try (revert u159)); (try (revert u160)); (try (revert u161)); (try (revert u162)); (try (revert u163)); (try (revert u164)); (try (revert u165)); (try (revert u166)); (try (revert u167)); (try (revert u168)); (try (revert u169)); (try (revert u170)))
              first | revert u171 u172 u173 u174 u175 u176 u177 u178 u179 u180 u181 u182 | ((try (revert u171)); (try (revert u172)); (try (revert u173)); (try (revert u174)); (try (revert u175)); (try (revert u176)); (try (revert u177)); (try (revert u178)); (try (revert u179)); (try (revert u180)); (try (revert u181)); (try (revert u182)))
              first | revert u183 u184 u185 u186 u187 u188 u189 u190 u191 u192 u193 u194 | ((try (revert u183)); (try (revert u184)); (try (revert u185)); (try (revert u186)); (try (revert u187)); (try (revert u188)); (try (revert u189)); (try (revert u190)); (try (revert u191)); (try (revert u192)); (try (revert u193)); (try (revert u194)))
              first | revert u195 u196 u197 u198 u199 u200 u201 u202 u203 u204 u205 | ((try (revert u195)); (try (revert u196)); (try (revert u197)); (try (revert u198)); (try (revert u199)); (try (revert u200)); (try (revert u201)); (try (revert u202)); (try (revert u203)); (try (revert u204)); (try (revert u205)))
              try revert Int
              try revert i64
              try revert w1
              try revert hb1
              try revert H0
              try revert i
              try revert HB1
              try revert i0
              try revert hi0
              try revert hz0
              try revert hz1
              try revert hz2
              try revert wr
              try revert hi
              try revert hi60
              try revert hj
              try revert v
              try revert ob
              try revert xs
              try revert om
              try revert m
              try revert hp
              try revert hq
              try revert V
              try revert HP
              try revert HQ
              try revert hlt
              try revert hin
              try revert hi6
              try revert hga
              try revert hc0
              try revert hc1
              try revert hc2
              try revert a0
              try revert a1
              try revert a2
              try revert e60
              try revert hii
              try revert A4
              try revert c4
              try revert hn4
              try revert hm4
              try revert hsv
              try revert b1
              try revert b2
              try revert x
              try revert bits
              try revert and
              try revert HXB
              try revert HBX
              try revert V2
              try revert wc
              try revert HP2
              try revert d0
              try revert y
              try revert hy
              try revert hy0
              try revert hy8
              try revert HY
              try revert x0
              try revert x1
              try revert x2
              try revert HXN
              try revert e
              revert g_last
              exact g5.out
            · go_wp2
              go_meet
              exact Lib.hid ⟨_, _, _, _, _, HP2.out, HQ.out.more (Nat.le_succ _)⟩
            · (repeat (rename_i x_0 x_1 x_2 x_3 x_4 x_5 x_6 x_7 x_8 x_9 x_10 x_11 x_12 x_13 x_14 x_15 x_16 x_17 x_18 x_19 x_20 x_21 x_22 x_23 x_24 x_25 x_26 x_27 x_28 x_29 x_30 x_31 x_32 x_33 x_34 x_35 x_36 x_37 x_38 x_39 x_40 x_41 x_42 x_43 x_44 x_45 x_46 x_47 x_48 x_49 x_50 x_51 x_52 x_53 x_54 x_55 x_56 x_57 x_58 x_59 x_60 x_61 x_62 x_63; revert x_0 x_1 x_2 x_3 x_4 x_5 x_6 x_7 x_8 x_9 x_10 x_11 x_12 x_13 x_14 x_15 x_16 x_17 x_18 x_19 x_20 x_21 x_22 x_23 x_24 x_25 x_26 x_27 x_28 x_29 x_30 x_31 x_32 x_33 x_34 x_35 x_36 x_37 x_38 x_39 x_40 x_41 x_42 x_43 x_44 x_45 x_46 x_47 x_48 x_49 x_50 x_51 x_52 x_53 x_54 x_55 x_56 x_57 x_58 x_59 x_60 x_61 x_62 x_63))
              (repeat (rename_i x_0 x_1 x_2 x_3 x_4 x_5 x_6 x_7; revert x_0 x_1 x_2 x_3 x_4 x_5 x_6 x_7))
              (repeat (rename_i x_; revert x_))
              try (revert u0)
              try (revert u1)
              try (revert u2)
              first | revert u3 u4 u5 u6 u7 u8 u9 u10 u11 u12 u13 u14 | ((try (revert u3)); (try (revert u4)); (try (revert u5)); (try (revert u6)); (try (revert u7)); (try (revert u8)); (try (revert u9)); (try (revert u10)); (try (revert u11)); (try (revert u12)); (try (revert u13)); (try (revert u14)))
              first | revert u15 u16 u17 u18 u19 u20 u21 u22 u23 u24 u25 u26 | ((try (revert u15)); (try (revert u16)); (try (revert u17)); (try (revert u18)); (try (revert u19)); (try (revert u20)); (try (revert u21)); (try (revert u22)); (try (revert u23)); (try (revert u24)); (try (revert u25)); (try (revert u26)))
              first | revert u27 u28 u29 u30 u31 u32 u33 u34 u35 u36 u37 u38 | ((try (revert u27)); (try (revert u28)); (try (revert u29)); (try (revert u30)); (try (revert u31)); (try (revert u32)); (try (revert u33)); (try (revert u34)); (try (revert u35)); (try (revert u36)); (try (revert u37)); (try (revert u38)))
              first | revert u39 u40 u41 u42 u43 u44 u45 u46 u47 u48 u49 u50 | ((try (revert u39)); (try (revert u40)); (try (revert u41)); (try (revert u42)); (try (revert u43)); (try (revert u44)); (try (revert u45)); (try (revert u46)); (try (revert u47)); (try (revert u48)); (try (revert u49)); (try (revert u50)))
              first | revert u51 u52 u53 u54 u55 u56 u57 u58 u59 u60 u61 u62 | ((try (revert u51)); (try (revert u52)); (try (revert u53)); (try (revert u54)); (try (revert u55)); (try (revert u56)); (try (revert u57)); (try (revert u58)); (try (revert u59)); (try (revert u60)); (try (revert u61)); (try (revert u62)))
              first | revert u63 u64 u65 u66 u67 u68 u69 u70 u71 u72 u73 u74 | ((try (revert u63)); (try (revert u64)); (try (revert u65)); (try (revert u66)); (try (revert u67)); (try (revert u68)); (try (revert u69)); (try (revert u70)); (try (revert u71)); (try (revert u72)); (try (revert u73)); (try (revert u74)))
              first | revert u75 u76 u77 u78 u79 u80 u81 u82 u83 u84 u85 u86 | ((try (revert u75)); (try (revert u76)); (try (revert u77)); (try (revert u78)); (try (revert u79)); (try (revert u80)); (try (revert u81)); (try (revert u82)); (try (revert u83)); (try (revert u84)); (try (revert u85)); (try (revert u86)))
              first | revert u87 u88 u89 u90 u91 u92 u93 u94 u95 u96 u97 u98 | ((try (revert u87)); (try (revert u88)); (try (revert u89)); (try (revert u90)); (try (revert u91)); (try (revert u92)); (try (revert u93)); (try (revert u94)); (try (revert u95)); (try (revert u96)); (try (revert u97)); (try (revert u98)))
              first | revert u99 u100 u101 u102 u103 u104 u105 u106 u107 u108 u109 u110 | ((try (revert u99)); (try (revert u100)); (try (revert u101)); (try (revert u102)); (try (revert u103)); (try (revert u104)); (try (revert u105)); (try (revert u106)); (try (revert u107)); (try (revert u108)); (try (revert u109)); (try (revert u110)))
              first | revert u111 u112 u113 u114 u115 u116 u117 u118 u119 u120 u121 u122 | ((try (revert u111)); (try (revert u112)); (try (revert u113)); (try (revert u114)); (try (revert u115)); (try (revert u116)); (try (revert u117)); (try (revert u118)); (try (revert u119)); (try (revert u120)); (try (revert u121)); (try (revert u122)))
              first | revert u123 u124 u125 u126 u127 u128 u129 u130 u131 u132 u133 u134 | ((try (revert u123)); (try (revert u124)); (try (revert u125)); (try (revert u126)); (try (revert u127)); (try (revert u128)); (try (revert u129)); (try (revert u130)); (try (revert u131)); (try (revert u132)); (try (revert u133)); (try (revert u134)))
              first | revert u135 u136 u137 u138 u139 u140 u141 u142 u143 u144 u145 u146 | ((try (revert u135)); (try (revert u136)); (try (revert u137)); (try (revert u138)); (try (revert u139)); (try (revert u140)); (try (revert u141)); (try (revert u142)); (try (revert u143)); (try (revert u144)); (try (revert u145)); (try (revert u146)))
              first | revert u147 u148 u149 u150 u151 u152 u153 u154 u155 u156 u157 u158 | ((try (revert u147)); (try (revert u148)); (try (revert u149)); (try (revert u150)); (try (revert u151)); (try (revert u152)); (try (revert u153)); (try (revert u154)); (try (revert u155)); (try (revert u156)); (try (revert u157)); (try (revert u158)))
              first | revert u159 u160 u161 u162 u163 u164 u165 u166 u167 u168 u169 u170 | ((try (revert u159)); (try (revert u160)); (try (revert u161)); (try (revert u162)); (try (revert u163)); (try (revert u164)); (try (revert u165)); (try (revert u166)); (try (revert u167)); (try (revert u168)); (try (revert u169)); (try (revert u170)))
              first | revert u171 u172 u173 u174 u175 u176 u177 u178 u179 u180 u181 u182 | ((try (revert u171)); (try (revert u172)); (try (revert u173)); (try (revert u174)); (try (revert u175)); (try (revert u176)); (try (revert u177)); (try (revert u178)); (try (revert u179)); (try (revert u180)); (try (revert u181)); (try (revert u182)))
              first | revert u183 u184 u185 u186 u187 u188 u189 u190 u191 u192 u193 u194 | ((try (revert u183)); (try (revert u184)); (try (revert u185)); (try (revert u186)); (try (revert u187)); (try (revert u188)); (try (revert u189)); (try (revert u190)); (try (revert u191)); (try (revert u192)); (try (revert u193)); (try (revert u194)))
              first | revert u195 u196 u197 u198 u199 u200 u201 u202 u203 u204 u205 | ((try (revert u195)); (try (revert u196)); (try (revert u197)); (try (revert u198)); (try (revert u199)); (try (revert u200)); (try (revert u201)); (try (revert u202)); (try (revert u203)); (try (revert u204)); (try (revert u205)))
              try revert Int
              try revert i64
              try revert w1
              try revert hb1
              try revert H0
              try revert i
              try revert HB1
              try revert i0
              try revert hi0
              try revert hz0
              try revert hz1
              try revert hz2
              try revert wr
              try revert hi
              try revert hi60
              try revert hj
              try revert v
              try revert ob
              try revert xs
              try revert om
              try revert m
              try revert hp
              try revert hq
              try revert V
              try revert HP
              try revert HQ
              try revert hlt
              try revert hin
              try revert hi6
              try revert hga
              try revert hc0
              try revert hc1
              try revert hc2
              try revert a0
              try revert a1
              try revert a2
              try revert e60
              try revert hii
              try revert A4
              try revert c4
              try revert hn4
              try revert hm4
              try revert hsv
              try revert b1
              try revert b2
              try revert x
              try revert bits
              try revert and
              try revert HXB
              try revert HBX
              try revert V2
              try revert wc
              try revert HP2
              try revert d0
              try revert y
              try revert hy
              try revert hy0
              try revert hy8
              try revert HY
              try revert x0
              try revert x1
              try revert x2
              try revert HXN
              try revert e
              revert g_last
              exact g3.out
            · go_wp2
              go_meet
              exact Lib.hid ⟨_, _, _, _, _, HP2.out, HQ.out.more (Nat.le_succ _)⟩
            · go_wp2
              go_meet
              exact Lib.hid ⟨_, _, _, _, _, HP2.out, HQ.out.more (Nat.le_succ _)⟩
          case rest =>
            (repeat (rename_i x_0 x_1 x_2 x_3 x_4 x_5 x_6 x_7 x_8 x_9 x_10 x_11 x_12 x_13 x_14 x_15 x_16 x_17 x_18 x_19 x_20 x_21 x_22 x_23 x_24 x_25 x_26 x_27 x_28 x_29 x_30 x_31 x_32 x_33 x_34 x_35 x_36 x_37 x_38 x_39 x_40 x_41 x_42 x_43 x_44 x_45 x_46 x_47 x_48 x_49 x_50 x_51 x_52 x_53 x_54 x_55 x_56 x_57 x_58 x_59 x_60 x_61 x_62 x_63; revert x_0 x_1 x_2 x_3 x_4 x_5 x_6 x_7 x_8 x_9 x_10 x_11 x_12 x_13 x_14 x_15 x_16 x_17 x_18 x_19 x_20 x_21 x_22 x_23 x_24 x_25 x_26 x_27 x_28 x_29 x_30 x_31 x_32 x_33 x_34 x_35 x_36 x_37 x_38 x_39 x_40 x_41 x_42 x_43 x_44 x_45 x_46 x_47 x_48 x_49 x_50 x_51 x_52 x_53 x_54 x_55 x_56 x_57 x_58 x_59 x_60 x_61 x_62 x_63))
            (repeat (rename_i x_0 x_1 x_2 x_3 x_4 x_5 x_6 x_7; revert x_0 x_1 x_2 x_3 x_4 x_5 x_6 x_7))
            (repeat (rename_i x_; revert x_))
            try (revert u0)
            try (revert u1)
            try (revert u2)
            first | revert u3 u4 u5 u6 u7 u8 u9 u10 u11 u12 u13 u14 | ((try (revert u3)); (try (revert u4)); (try (revert u5)); (try (revert u6)); (try (revert u7)); (try (revert u8)); (try (revert u9)); (try (revert u10)); (try (revert u11)); (try (revert u12)); (try (revert u13)); (try (revert u14)))
            first | revert u15 u16 u17 u18 u19 u20 u21 u22 u23 u24 u25 u26 | ((try (revert u15)); (try (revert u16)); (try (revert u17)); (try (revert u18)); (try (revert u19)); (try (revert u20)); (try (revert u21)); (try (revert u22)); (try (revert u23)); (try (revert u24)); (try (revert u25)); (try (revert u26)))
            first | revert u27 u28 u29 u30 u31 u32 u33 u34 u35 u36 u37 u38 | ((try (revert u27)); (try (revert u28)); (try (revert u29)); (try (revert u30)); (try (revert u31)); (try (revert u32)); (try (revert u33)); (try (revert u34)); (try (revert u35)); (try (revert u36)); (try (revert u37)); (try (revert u38)))
            first | revert u39 u40 u41 u42 u43 u44 u45 u46 u47 u48 u49 u50 | ((try (revert u39)); (try (revert u40)); (try (revert u41)); (try (revert u42)); (try (revert u43)); (try (revert u44)); (try (revert u45)); (try (revert u46)); (try (revert u47)); (try (revert u48)); (try (revert u49)); (try (revert u50)))
            first | revert u51 u52 u53 u54 u55 u56 u57 u58 u59 u60 u61 u62 | ((try (revert u51)); (try (revert u52)); (try (revert u53)); (try (revert u54)); (try (revert u55)); (try (revert u56)); (try (revert u57)); (try (revert u58)); (try (revert u59)); (try (revert u60)); (try (revert u61)); (try (revert u62)))
            first | revert u63 u64 u65 u66 u67 u68 u69 u70 u71 u72 u73 u74 | ((try (revert u63)); (try (revert u64)); (try (revert u65)); (try (revert u66)); (try (revert u67)); (try (revert u68)); (try (revert u69)); (try (revert u70)); (try (revert u71)); (try (revert u72)); (try (revert u73)); (try (revert u74)))
            first | revert u75 u76 u77 u78 u79 u80 u81 u82 u83 u84 u85 u86 | ((try (revert u75)); (try (revert u76)); (try (revert u77)); (try (revert u78)); (try (revert u79)); (try (revert u80)); (try (revert u81)); (try (revert u82)); (try (revert u83)); (try (revert u84)); (try (revert u85)); (try (revert u86)))
            first | revert u87 u88 u89 u90 u91 u92 u93 u94 u95 u96 u97 u98 | ((try (revert u87)); (try (revert u88)); (try (revert u89)); (try (revert u90)); (try (revert u91)); (try (revert u92)); (try (revert u93)); (try (revert u94)); (try (revert u95)); (try (revert u96)); (try (revert u97)); (try (revert u98)))
            first | revert u99 u100 u101 u102 u103 u104 u105 u106 u107 u108 u109 u110 | ((try (revert u99)); (try (revert u100)); (try (revert u101)); (try (revert u102)); (try (revert u103)); (try (revert u104)); (try (revert u105)); (try (revert u106)); (try (revert u107)); (try (revert u108)); (try (revert u109)); (try (revert u110)))
            first | revert u111 u112 u113 u114 u115 u116 u117 u118 u119 u120 u121 u122 | ((try (revert u111)); (try (revert u112)); (try (revert u113)); (try (revert u114)); (try (revert u115)); (try (revert u116)); (try (revert u117)); (try (revert u118)); (try (revert u119)); (try (revert u120)); (try (revert u121)); (try (revert u122)))
            first | revert u123 u124 u125 u126 u127 u128 u129 u130 u131 u132 u133 u134 | ((try (revert u123)); (try (revert u124)); (try (revert u125)); (try (revert u126)); (try (revert u127)); (try (revert u128)); (try (revert u129)); (try (revert u130)); (try (revert u131)); (try (revert u132)); (try (revert u133)); (try (revert u134)))
            first | revert u135 u136 u137 u138 u139 u140 u141 u142 u143 u144 u145 u146 | ((try (revert u135)); (try (revert u136)); (try (revert u137)); (try (revert u138)); (try (revert u139)); (try (revert u140)); (try (revert u141)); (try (revert u142)); (try (revert u143)); (try (revert u144)); (try (revert u145)); (try (revert u146)))
            first | revert u147 u148 u149 u150 u151 u152 u153 u154 u155 u156 u157 u158 | ((try (revert u147)); (try (revert u148)); (try (revert u149)); (try (revert u150)); (try (revert u151)); (try (revert u152)); (try (revert u153)); (try (revert u154)); (try (revert u155)); (try (revert u156)); (try (revert u157)); (try (revert u158)))
            first | revert u159 u160 u161 u162 u163 u164 u165 u166 u167 u168 u169 u170 | ((try (revert u159)); (try (revert u160)); (try (revert u161)); (try (revert u162)); (try (revert u163)); (try (revert u164)); (try (revert u165)); (try (revert u166)); (try (revert u167)); (try (revert u168)); (try (revert u169)); (try (revert u170)))
            first | revert u171 u172 u173 u174 u175 u176 u177 u178 u179 u180 u181 u182 | ((try (revert u171)); (try (revert u172)); (try (revert u173)); (try (revert u174)); (try (revert u175)); (try (revert u176)); (try (revert u177)); (try (revert u178)); (try (revert u179)); (try (revert u180)); (try (revert u181)); (try (revert u182)))
            first | revert u183 u184 u185 u186 u187 u188 u189 u190 u191 u192 u193 u194 | ((try (revert u183)); (try (revert u184)); (try (revert u185)); (try (revert u186)); (try (revert u187)); (try (revert u188)); (try (revert u189)); (try (revert u190)); (try (revert u191)); (try (revert u192)); (try (revert u193)); (try (revert u194)))
            first | revert u195 u196 u197 u198 u199 u200 u201 u202 u203 u204 u205 | ((try (revert u195)); (try (revert u196)); (try (revert u197)); (try (revert u198)); (try (revert u199)); (try (revert u200)); (try (revert u201)); (try (revert u202)); (try (revert u203)); (try (revert u204)); (try (revert u205)))
            try revert Int
            try revert i64
            try revert w1
            try revert hb1
            try revert H0
            try revert i
            try revert HB1
            try revert i0
            try revert hi0
            try revert hz0
            try revert hz1
            try revert hz2
            try revert wr
            try revert hi
            try revert hi60
            try revert hj
            try revert v
            try revert ob
            try revert xs
            try revert om
            try revert m
            try revert hp
            try revert hq
            try revert V
            try revert HP
            try revert HQ
            try revert hlt
            try revert hin
            try revert hi6
            try revert hga
            try revert hc0
            try revert hc1
            try revert hc2
            try revert a0
            try revert a1
            try revert a2
            try revert e60
            try revert hii
            try revert A4
            try revert c4
            try revert hn4
            try revert hm4
            try revert hsv
            try revert b1
            try revert b2
            try revert x
            try revert bits
            try revert and
            try revert HXB
            try revert HBX
            try revert V2
            try revert wc
            try revert HP2
            try revert d0
            try revert y
            try revert hy
            try revert hy0
            try revert hy8
            try revert HY
            try revert x0
            try revert x1
            try revert x2
            try revert HXN
            try revert e
            revert g_last
            exact g6.out
      · (repeat (rename_i x_0 x_1 x_2 x_3 x_4 x_5 x_6 x_7 x_8 x_9 x_10 x_11 x_12 x_13 x_14 x_15 x_16 x_17 x_18 x_19 x_20 x_21 x_22 x_23 x_24 x_25 x_26 x_27 x_28 x_29 x_30 x_31 x_32 x_33 x_34 x_35 x_36 x_37 x_38 x_39 x_40 x_41 x_42 x_43 x_44 x_45 x_46 x_47 x_48 x_49 x_50 x_51 x_52 x_53 x_54 x_55 x_56 x_57 x_58 x_59 x_60 x_61 x_62 x_63; revert x_0 x_1 x_2 x_3 x_4 x_5 x_6 x_7 x_8 x_9 x_10 x_11 x_12 x_13 x_14 x_15 x_16 x_17 x_18 x_19 x_20 x_21 x_22 x_23 x_24 x_25 x_26 x_27 x_28 x_29 x_30 x_31 x_32 x_33 x_34 x_35 x_36 x_37 x_38 x_39 x_40 x_41 x_42 x_43 x_44 x_45 x_46 x_47 x_48 x_49 x_50 x_51 x_52 x_53 x_54 x_55 x_56 x_57 x_58 x_59 x_60 x_61 x_62 x_63))
        (repeat (rename_i x_0 x_1 x_2 x_3 x_4 x_5 x_6 x_7; revert x_0 x_1 x_2 x_3 x_4 x_5 x_6 x_7))
        (repeat (rename_i x_; revert x_))
        try (revert u0)
        try (revert u1)
        try (revert u2)
        first | revert u3 u4 u5 u6 u7 u8 u9 u10 u11 u12 u13 u14 | ((try (revert u3)); (try (revert u4)); (try (revert u5)); (try (revert u6)); (try (revert u7)); (try (revert u8)); (try (revert u9)); (try (revert u10)); (try (revert u11)); (try (revert u12)); (try (revert u13)); (try (revert u14)))
        first | revert u15 u16 u17 u18 u19 u20 u21 u22 u23 u24 u25 u26 | ((try (revert u15)); (try (revert u16)); (try (revert u17)); (try (revert u18)); (try (revert u19)); (try (revert u20)); (try (revert u21)); (try (revert u22)); (try (revert u23)); (try (revert u24)); (try (revert u25)); (try (revert u26)))
        first | revert u27 u28 u29 u30 u31 u32 u33 u34 u35 u36 u37 u38 | ((try (revert u27)); (try (revert u28)); (try (revert u29)); (try (revert u30)); (try (revert u31)); (try (revert u32)); (try (revert u33)); (try (revert u34)); (try (revert u35)); (try (revert u36)); (try (revert u37)); (try (revert u38)))
        first | revert u39 u40 u41 u42 u43 u44 u45 u46 u47 u48 u49 u50 | ((try (revert u39)); (try (revert u40)); (try (revert u41)); (try (revert u42)); (try (revert u43)); (try (revert u44)); (try (revert u45)); (try (revert u46)); (try (revert u47)); (try (revert u48)); (try (revert u49)); (try (revert u50)))
        first | revert u51 u52 u53 u54 u55 u56 u57 u58 u59 u60 u61 u62 | ((try (revert u51)); (try (revert u52)); (try (revert u53)); (try (revert u54)); (try (revert u55)); (try (revert u56)); (try (revert u57)); (try (revert u58)); (try (revert u59)); (try (revert u60)); (try (revert u61)); (try (revert u62)))
        first | revert u63 u64 u65 u66 u67 u68 u69 u70 u71 u72 u73 u74 | ((try (revert u63)); (try (revert u64)); (try (revert u65)); (try (revert u66)); (try (revert u67)); (try (revert u68)); (try (revert u69)); (try (revert u70)); (try (revert u71)); (try (revert u72)); (try (revert u73)); (try (revert u74)))
        first | revert u75 u76 u77 u78 u79 u80 u81 u82 u83 u84 u85 u86 | ((try (revert u75)); (try (revert u76)); (try (revert u77)); (try (revert u78)); (try (revert u79)); (try (revert u80)); (try (revert u81)); (try (revert u82)); (try (revert u83)); (try (revert u84)); (try (revert u85)); (try (revert u86)))
        first | revert u87 u88 u89 u90 u91 u92 u93 u94 u95 u96 u97 u98 | ((try (revert u87)); (try (revert u88)); (try (revert u89)); (try (revert u90)); (try (revert u91)); (try (revert u92)); (try (revert u93)); (try (revert u94)); (try (revert u95)); (try (revert u96)); (try (revert u97)); (try (revert u98)))
        first | revert u99 u100 u101 u102 u103 u104 u105 u106 u107 u108 u109 u110 | ((try (revert u99)); (try (revert u100)); (try (revert u101)); (try (revert u102)); (try (revert u103)); (try (revert u104)); (try (revert u105)); (try (revert u106)); (try (revert u107)); (try (revert u108)); (try (revert u109)); (try (revert u110)))
        first | revert u111 u112 u113 u114 u115 u116 u117 u118 u119 u120 u121 u122 | ((try (revert u111)); (try (revert u112)); (try (revert u113)); (try (revert u114)); (try (revert u115)); (try (revert u116)); (try (revert u117)); (try (revert u118)); (try (revert u119)); (try (revert u120)); (try (revert u121)); (try (revert u122)))
        first | revert u123 u124 u125 u126 u127 u128 u129 u130 u131 u132 u133 u134 | ((try (revert u123)); (try (revert u124)); (try (revert u125)); (try (revert u126)); (try (revert u127)); (try (revert u128)); (try (revert u129)); (try (revert u130)); (try (revert u131)); (try (revert u132)); (try (revert u133)); (try (revert u134)))
        first | revert u135 u136 u137 u138 u139 u140 u141 u142 u143 u144 u145 u146 | ((try (revert u135)); (try (revert u136)); (try (revert u137)); (try (revert u138)); (try (revert u139)); (try (revert u140)); (try (revert u141)); (try (revert u142)); (try (revert u143)); (try (revert u144)); (try (revert u145)); (try (revert u146)))
        first | revert u147 u148 u149 u150 u151 u152 u153 u154 u155 u156 u157 u158 | ((try (revert u147)); (try (revert u148)); (try (revert u149)); (try (revert u150)); (try (revert u151)); (try (revert u152)); (try (revert u153)); (try (revert u154)); (try (revert u155)); (try (revert u156)); (try (revert u157)); (try (revert u158)))
        first | revert u159 u160 u161 u162 u163 u164 u165 u166 u167 u168 u169 u170 | ((try (revert u159)); (try (revert u160)); (try (revert u161)); (try (revert u162)); (try (revert u163)); (try (revert u164)); (try (revert u165)); (try (revert u166)); (try (revert u167)); (try (revert u168)); (try (revert u169)); (try (revert u170)))
        first | revert u171 u172 u173 u174 u175 u176 u177 u178 u179 u180 u181 u182 | ((try (revert u171)); (try (revert u172)); (try (revert u173)); (try (revert u174)); (try (revert u175)); (try (revert u176)); (try (revert u177)); (try (revert u178)); (try (revert u179)); (try (revert u180)); (try (revert u181)); (try (revert u182)))
        first | revert u183 u184 u185 u186 u187 u188 u189 u190 u191 u192 u193 u194 | ((try (revert u183)); (try (revert u184)); (try (revert u185)); (try (revert u186)); (try (revert u187)); (try (revert u188)); (try (revert u189)); (try (revert u190)); (try (revert u191)); (try (revert u192)); (try (revert u193)); (try (revert u194)))
        first | revert u195 u196 u197 u198 u199 u200 u201 u202 u203 u204 u205 | ((try (revert u195)); (try (revert u196)); (try (revert u197)); (try (revert u198)); (try (revert u199)); (try (revert u200)); (try (revert u201)); (try (revert u202)); (try (revert u203)); (try (revert u204)); (try (revert u205)))
        try revert Int
        try revert i64
        try revert w1
        try revert hb1
        try revert H0
        try revert i
        try revert HB1
        try revert i0
        try revert hi0
        try revert hz0
        try revert hz1
        try revert hz2
        try revert wr
        try revert hi
        try revert hi60
        try revert hj
        try revert v
        try revert ob
        try revert xs
        try revert om
        try revert m
        try revert hp
        try revert hq
        try revert V
        try revert HP
        try revert HQ
        try revert hlt
        try revert hin
        try revert hi6
        try revert hga
        try revert hc0
        try revert hc1
        try revert hc2
        try revert a0
        try revert a1
        try revert a2
        try revert e60
        try revert hii
        try revert A4
        try revert c4
        try revert hn4
        try revert hm4
        try revert hsv
        try revert b1
        try revert b2
        try revert x
        try revert bits
        try revert and
        try revert HXB
        try revert HBX
        try revert V2
        try revert wc
        try revert HP2
        try revert d0
        try revert y
        try revert hy
        try revert hy0
        try revert hy8
        try revert HY
        try revert x0
        try revert x1
        try revert x2
        try revert HXN
        try revert e
        revert g_last
        exact g7.out
end Go.Proofs.Ytickliklghecgaa.Hp
