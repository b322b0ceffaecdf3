/- The law TermNodes, walked. -/
import Derived.Test.YtlpkeinablekpaaDoorTmL
import Derived.Deep.CutBlock
namespace Go.Proofs.YtlpkeinablekpaaDoor.Tm
open Go.RowKit Go.Proofs.YtlpkeinablekpaaDoor Go.Proofs.YtlpkeinablekpaaDoor.Door Go.Proofs.YtlpkeinablekpaaDoor.Ev Go.Proofs.YtlpkeinablekpaaDoor.Sch Go.Proofs.YtlpkeinablekpaaDoor.Evl Go.Proofs.YtlpkeinablekpaaDoor.Ty Go.Proofs.YtlpkeinablekpaaDoor.Vd
set_option linter.unusedVariables false
set_option maxRecDepth 100000
--ARGS op k i s b v f w HM
--HEARTS 4000000
theorem nv_no {k i : Int} {s : ByteArray} {b : Bool} (h : ¬ (k = 0 ∧ i = 0 ∧ s = ⟨#[]⟩ ∧ b = false)) : nvB k i s b = false := by
  cases e : nvB k i s b
  · rfl
  · exact absurd (nvB_ok.1 e) h
structure Cut_TmE (C : Prop) where
  G1 : Prop
  G2 : Prop
  G3 : Prop
  G4 : Prop
  ok : Go.RowKit.Hid G1 → Go.RowKit.Hid G2 → Go.RowKit.Hid G3 → Go.RowKit.Hid G4 → Go.RowKit.Hid True → C
set_option maxHeartbeats 4000000 in
noncomputable def part_TmE (op k i : Int) (s : ByteArray) (b : Bool) (v f : ByteArray) (w : World) (HM : Hid (ML w)) :
    Cut_TmE (Calls Tryd.prog 3 #[.agg #[.int .i64 op, .int .i64 k, .int .i64 i, .string s, .bool b, .string v, .string f]] w fun e w' => e = .returned (.bool true) ∧ Below w.heap.size w w') := by
  apply Cut_TmE.mk
  case ok =>
    intro g_1 g_2 g_3 g_4 g_last
    obtain ⟨V, hV⟩ : ∃ V : ByteArray, v.extract 0 (min (v.size : Int) 18).toNat = V := ⟨_, rfl⟩
    obtain ⟨F, hF⟩ : ∃ F : ByteArray, f.extract 0 (min (f.size : Int) 18).toNat = F := ⟨_, rfl⟩
    have a15 := and15 op
    obtain ⟨o, ho⟩ : ∃ o, op % 16 + 1 = o := ⟨_, rfl⟩
    have HO : Hid (1 ≤ o ∧ o ≤ 16) := by unfold Hid; omega
    have hw : IntKind.i64.wrap (op % 16 + 1) = o := by rw [IntKind.wrap_i64]; omega
    go_enter Tryd.func3, Tryd.ntmps3
    go_upto_region 3 with fail
    have HR1 : Hid (Row ((w.alloc (.cells #[.int .i64 op, .int .i64 k, .int .i64 i, .string s, .bool b, .string v, .string f] 25)).alloc (.cells #[.int .i64 o, .int .i64 k, .int .i64 i, .string s, .bool b, .string v, .string f] 25)) w.heap.size 25 #[.int .i64 op, .int .i64 k, .int .i64 i, .string s, .bool b, .string v, .string f]) := (Row.made _ _ _).alloc _
    have HR3 : Hid (Row ((w.alloc (.cells #[.int .i64 op, .int .i64 k, .int .i64 i, .string s, .bool b, .string v, .string f] 25)).alloc (.cells #[.int .i64 o, .int .i64 k, .int .i64 i, .string s, .bool b, .string v, .string f] 25)) (w.heap.size + 1) 25 #[.int .i64 o, .int .i64 k, .int .i64 i, .string s, .bool b, .string v, .string f]) := by
      have := Row.made (w.alloc (.cells #[.int .i64 op, .int .i64 k, .int .i64 i, .string s, .bool b, .string v, .string f] 25)) 25 #[.int .i64 o, .int .i64 k, .int .i64 i, .string s, .bool b, .string v, .string f]
      unfold Hid
      simpa using this
    have HB : Hid (Below w.heap.size w ((w.alloc (.cells #[.int .i64 op, .int .i64 k, .int .i64 i, .string s, .bool b, .string v, .string f] 25)).alloc (.cells #[.int .i64 o, .int .i64 k, .int .i64 i, .string s, .bool b, .string v, .string f] 25))) := ((Below.refl _ w).alloc (Nat.le_refl _) _).alloc (by simp) _
    generalize (w.alloc (.cells #[.int .i64 op, .int .i64 k, .int .i64 i, .string s, .bool b, .string v, .string f] 25)).alloc (.cells #[.int .i64 o, .int .i64 k, .int .i64 i, .string s, .bool b, .string v, .string f] 25) = W0 at HR1 HR3 HB ⊢
    have hne : w.heap.size ≠ w.heap.size + 1 := by omega
    have hge : Hid (w.heap.size ≤ w.heap.size + 1) := Nat.le_succ _
    generalize w.heap.size + 1 = b3 at HR3 hne hge ⊢
    have hne2 : b3 ≠ w.heap.size := hne.symm
    go_cut [] (fun wx => Hid (NX w wx b3 o k i s b V F))
    case first =>
      have v5 := HR1.out.is 5 rfl
      have v6 := HR1.out.is 6 rfl
      have r5 := HR3.out.is 5 rfl
      have r6 := HR3.out.is 6 rfl
      have z5 := HR3.out.free 5
      have z6 := HR3.out.free 6
      have HP1 : Hid (NX w ((W0.setCell ⟨b3, 5, none⟩ (.string V)).setCell ⟨b3, 6, none⟩ (.string F)) b3 o k i s b V F) := ⟨(HR3.out.put 5 (.string V)).put 6 (.string F), (HB.out.setCell hge.out _).setCell hge.out _⟩
      have HP2 : Hid (NX w ((W0.setCell ⟨b3, 6, none⟩ (.string F)).setCell ⟨b3, 5, none⟩ (.string V)) b3 o k i s b V F) := ⟨(HR3.out.put 6 (.string F)).put 5 (.string V), (HB.out.setCell hge.out _).setCell hge.out _⟩
      have hm1 : (0 : Int) ≤ min (v.size : Int) 18 := by omega
      have hm2 : min (v.size : Int) 18 ≤ (v.size : Int) := by omega
      have hm3 : (0 : Int) ≤ min (f.size : Int) 18 := by omega
      have hm4 : min (f.size : Int) 18 ≤ (f.size : Int) := by omega
      have hsl1 : ∀ wx : World, (Instr.slice 9 (.string v) none (some (.int .i64 (min (v.size : Int) 18))) none).run Tryd.prog wx = .ok (.string V) wx := fun wx => by
        rw [← hV]; exact run_slice_string_h (P := Tryd.prog) (w := wx) 9 v Tryd.underlying9 .i64 _ hm1 hm2
      have hsl2 : ∀ wx : World, (Instr.slice 9 (.string f) none (some (.int .i64 (min (f.size : Int) 18))) none).run Tryd.prog wx = .ok (.string F) wx := fun wx => by
        rw [← hF]; exact run_slice_string_h (P := Tryd.prog) (w := wx) 9 f Tryd.underlying9 .i64 _ hm3 hm4
      clear hV hF ho hw a15 hm1 hm2 hm3 hm4
      go_region
      all_goals
        go_wp2
        go_meet
        first
          | exact HP1.out.call (Below.refl _ _).drew
          | exact HP2.out.call (Below.refl _ _).drew
    case rest =>
      have HX := Lib.hid hcut.out
      clear hcut HR1 HR3 HB hV hF ho hw a15 hne hne2 hge
      obtain ⟨c0, c1, c2, c3, c4, c5, c6⟩ := HX.out.cells
      go_upto_region 4 with fail
      go_cut [4] (fun s4 wx => s4 = .bool (emB V F) ∧ wc = wx)
      case first =>
        cases h1 : (V.toList == [])
        · have HE : Hid (emB V F = false) := by unfold Hid emB; rw [h1]; rfl
          go_wp2
          go_meet
          exact ⟨by rw [HE.out], rfl⟩
        · cases h2 : (F.toList == [])
          all_goals
            have HE : Hid (emB V F = (F.toList == [])) := by unfold Hid emB; rw [h1]; rfl
            rw [h2] at HE
            go_wp2
            go_meet
            exact ⟨by rw [HE.out], rfl⟩
      case rest =>
        obtain ⟨rfl, rfl⟩ := hcut
        obtain ⟨em, hem⟩ : ∃ em, emB V F = em := ⟨_, rfl⟩
        have HEM := Lib.hid hem
        rw [hem]
        clear hem
        go_upto_region 5 with fail
        go_cut [5] (fun s5 wx => s5 = .bool (nvB k i s b) ∧ wc = wx)
        case first =>
          (repeat (rename_i x_0 x_1 x_2 x_3 x_4 x_5 x_6 x_7 x_8 x_9 x_10 x_11 x_12 x_13 x_14 x_15 x_16 x_17 x_18 x_19 x_20 x_21 x_22 x_23 x_24 x_25 x_26 x_27 x_28 x_29 x_30 x_31 x_32 x_33 x_34 x_35 x_36 x_37 x_38 x_39 x_40 x_41 x_42 x_43 x_44 x_45 x_46 x_47 x_48 x_49 x_50 x_51 x_52 x_53 x_54 x_55 x_56 x_57 x_58 x_59 x_60 x_61 x_62 x_63; revert x_0 x_1 x_2 x_3 x_4 x_5 x_6 x_7 x_8 x_9 x_10 x_11 x_12 x_13 x_14 x_15 x_16 x_17 x_18 x_19 x_20 x_21 x_22 x_23 x_24 x_25 x_26 x_27 x_28 x_29 x_30 x_31 x_32 x_33 x_34 x_35 x_36 x_37 x_38 x_39 x_40 x_41 x_42 x_43 x_44 x_45 x_46 x_47 x_48 x_49 x_50 x_51 x_52 x_53 x_54 x_55 x_56 x_57 x_58 x_59 x_60 x_61 x_62 x_63))
          (repeat (rename_i x_0 x_1 x_2 x_3 x_4 x_5 x_6 x_7; revert x_0 x_1 x_2 x_3 x_4 x_5 x_6 x_7))
          (repeat (rename_i x_; revert x_))
          first | revert u7 u8 u9 u10 u11 u12 u13 u14 u15 u16 u17 u18 | ((try (revert u7)); (try (revert u8)); (try (revert u9)); (try (revert u10)); (try (revert u11)); (try (revert u12)); (try (revert u13)); (try (revert u14)); (try (revert u15)); (try (revert u16)); (try (revert u17)); (try (revert u18)))
          first | revert u19 u20 u21 u22 u23 u24 u25 u26 u27 u28 u29 u30 | ((try (revert u19)); (try (revert u20)); (try (revert u21)); (try (revert u22)); (try (revert u23)); (try (revert u24)); (try (revert u25)); (try (revert u26)); (try (revert u27)); (try (revert u28)); (try (revert u29)); (try (revert u30)))
          first | revert u31 u32 u33 u34 u35 u36 u37 u38 u39 u40 u41 u42 | ((try (revert u31)); (try (revert u32)); (try (revert u33)); (try (revert u34)); (try (revert u35)); (try (revert u36)); (try (revert u37)); (try (revert u38)); (try (revert u39)); (try (revert u40)); (try (revert u41)); (try (revert u42)))
          first | revert u43 u44 u45 u46 u47 u48 u49 u50 u51 u52 u53 u54 | ((try (revert u43)); (try (revert u44)); (try (revert u45)); (try (revert u46)); (try (revert u47)); (try (revert u48)); (try (revert u49)); (try (revert u50)); (try (revert u51)); (try (revert u52)); (try (revert u53)); (try (revert u54)))
          first | revert u55 u56 u57 u58 u59 u60 u61 u62 u63 u64 u65 u66 | ((try (revert u55)); (try (revert u56)); (try (revert u57)); (try (revert u58)); (try (revert u59)); (try (revert u60)); (try (revert u61)); (try (revert u62)); (try (revert u63)); (try (revert u64)); (try (revert u65)); (try (revert u66)))
          first | revert u67 u68 u69 u70 u71 u72 u73 u74 u75 u76 u77 u78 | ((try (revert u67)); (try (revert u68)); (try (revert u69)); (try (revert u70)); (try (revert u71)); (try (revert u72)); (try (revert u73)); (try (revert u74)); (try (revert u75)); (try (revert u76)); (try (revert u77)); (try (revert u78)))
          first | revert u79 u80 u81 u82 u83 u84 u85 u86 u87 u88 u89 u90 | ((try (revert u79)); (try (revert u80)); (try (revert u81)); (try (revert u82)); (try (revert u83)); (try (revert u84)); (try (revert u85)); (try (revert u86)); (try (revert u87)); (try (revert u88)); (try (revert u89)); (try (revert u90)))
          first | revert u91 u92 u93 u94 u95 u96 u97 u98 u99 u100 u101 u102 | ((try (revert u91)); (try (revert u92)); (try (revert u93)); (try (revert u94)); (try (revert u95)); (try (revert u96)); (try (revert u97)); (try (revert u98)); (try (revert u99)); (try (revert u100)); (try (revert u101)); (try (revert u102)))
          first | revert u103 u104 u105 u106 u107 u108 u109 u110 u111 u112 u113 u114 | ((try (revert u103)); (try (revert u104)); (try (revert u105)); (try (revert u106)); (try (revert u107)); (try (revert u108)); (try (revert u109)); (try (revert u110)); (try (revert u111)); (try (revert u112)); (try (revert u113)); (try (revert u114)))
          first | revert u115 u116 u117 u118 u119 u120 u121 u122 u123 u124 u125 u126 | ((try (revert u115)); (try (revert u116)); (try (revert u117)); (try (revert u118)); (try (revert u119)); (try (revert u120)); (try (revert u121)); (try (revert u122)); (try (revert u123)); (try (revert u124)); (try (revert u125)); (try (revert u126)))
          first | revert u127 u128 u129 u130 u131 u132 u133 u134 u135 u136 u137 u138 | ((try (revert u127)); (try (revert u128)); (try (revert u129)); (try (revert u130)); (try (revert u131)); (try (revert u132)); (try (revert u133)); (try (revert u134)); (try (revert u135)); (try (revert u136)); (try (revert u137)); (try (revert u138)))
          try revert wr
          try revert V
          try revert hV
          try revert ByteArray
          try revert extract
          try revert min
          try revert size
          try revert Int
          try revert F
          try revert hF
          try revert a15
          try revert o
          try revert ho
          try revert HO
          try revert hw
          try revert HR1
          try revert HR3
          try revert HB
          try revert W0
          try revert hne
          try revert hge
          try revert b3
          try revert hne2
          try revert v5
          try revert v6
          try revert r5
          try revert r6
          try revert z5
          try revert z6
          try revert HP1
          try revert HP2
          try revert hm1
          try revert hm2
          try revert hm3
          try revert hm4
          try revert hsl1
          try revert hsl2
          try revert HX
          try revert c0
          try revert c1
          try revert c2
          try revert c3
          try revert c4
          try revert c5
          try revert c6
          try revert emB
          try revert wc
          try revert HE
          try revert em
          try revert hem
          try revert HEM
          try revert e
          revert g_last
          exact g_1.out
        case rest =>
          obtain ⟨rfl, rfl⟩ := hcut
          obtain ⟨nv, hnv⟩ : ∃ nv, nvB k i s b = nv := ⟨_, rfl⟩
          have HNV := Lib.hid hnv
          rw [hnv]
          clear hnv
          go_upto_region 7 with fail
          have hb6 : Below wc.heap.size wc (wc.alloc (.cells #[.int .i64 k, .int .i64 i, .string s, .bool b] 23)) := (Below.refl _ _).alloc (Nat.le_refl _) _
          have HX6 := Lib.hid (HX.out.call hb6)
          have H6 : Hid (Row (wc.alloc (.cells #[.int .i64 k, .int .i64 i, .string s, .bool b] 23)) wc.heap.size 23 #[.int .i64 k, .int .i64 i, .string s, .bool b]) := Row.made _ _ _
          clear c0 c1 c2 c3 c4 c5 c6 hb6
          generalize wc.alloc (.cells #[.int .i64 k, .int .i64 i, .string s, .bool b] 23) = W6 at HX6 H6 ⊢
          generalize wc.heap.size = b6 at H6 ⊢
          have d0 := H6.out.is 0 rfl
          have d1 := H6.out.is 1 rfl
          have d2 := H6.out.is 2 rfl
          have d3 := H6.out.is 3 rfl
          go_cut [7] (fun s7 wx => s7 = .bool (valB k i s b) ∧ W6 = wx)
          case first =>
            (repeat (rename_i x_0 x_1 x_2 x_3 x_4 x_5 x_6 x_7 x_8 x_9 x_10 x_11 x_12 x_13 x_14 x_15 x_16 x_17 x_18 x_19 x_20 x_21 x_22 x_23 x_24 x_25 x_26 x_27 x_28 x_29 x_30 x_31 x_32 x_33 x_34 x_35 x_36 x_37 x_38 x_39 x_40 x_41 x_42 x_43 x_44 x_45 x_46 x_47 x_48 x_49 x_50 x_51 x_52 x_53 x_54 x_55 x_56 x_57 x_58 x_59 x_60 x_61 x_62 x_63; revert x_0 x_1 x_2 x_3 x_4 x_5 x_6 x_7 x_8 x_9 x_10 x_11 x_12 x_13 x_14 x_15 x_16 x_17 x_18 x_19 x_20 x_21 x_22 x_23 x_24 x_25 x_26 x_27 x_28 x_29 x_30 x_31 x_32 x_33 x_34 x_35 x_36 x_37 x_38 x_39 x_40 x_41 x_42 x_43 x_44 x_45 x_46 x_47 x_48 x_49 x_50 x_51 x_52 x_53 x_54 x_55 x_56 x_57 x_58 x_59 x_60 x_61 x_62 x_63))
            (repeat (rename_i x_0 x_1 x_2 x_3 x_4 x_5 x_6 x_7; revert x_0 x_1 x_2 x_3 x_4 x_5 x_6 x_7))
            (repeat (rename_i x_; revert x_))
            first | revert u7 u8 u9 u10 u11 u12 u13 u14 u15 u16 u17 u18 | ((try (revert u7)); (try (revert u8)); (try (revert u9)); (try (revert u10)); (try (revert u11)); (try (revert u12)); (try (revert u13)); (try (revert u14)); (try (revert u15)); (try (revert u16)); (try (revert u17)); (try (revert u18)))
            first | revert u19 u20 u21 u22 u23 u24 u25 u26 u27 u28 u29 u30 | ((try (revert u19)); (try (revert u20)); (try (revert u21)); (try (revert u22)); (try (revert u23)); (try (revert u24)); (try (revert u25)); (try (revert u26)); (try (revert u27)); (try (revert u28)); (try (revert u29)); (try (revert u30)))
            first | revert u31 u32 u33 u34 u35 u36 u37 u38 u39 u40 u41 u42 | ((try (revert u31)); (try (revert u32)); (try (revert u33)); (try (revert u34)); (try (revert u35)); (try (revert u36)); (try (revert u37)); (try (revert u38)); (try (revert u39)); (try (revert u40)); (try (revert u41)); (try (revert u42)))
            first | revert u43 u44 u45 u46 u47 u48 u49 u50 u51 u52 u53 u54 | ((try (revert u43)); (try (revert u44)); (try (revert u45)); (try (revert u46)); (try (revert u47)); (try (revert u48)); (try (revert u49)); (try (revert u50)); (try (revert u51)); (try (revert u52)); (try (revert u53)); (try (revert u54)))
            first | revert u55 u56 u57 u58 u59 u60 u61 u62 u63 u64 u65 u66 | ((try (revert u55)); (try (revert u56)); (try (revert u57)); (try (revert u58)); (try (revert u59)); (try (revert u60)); (try (revert u61)); (try (revert u62)); (try (revert u63)); (try (revert u64)); (try (revert u65)); (try (revert u66)))
            first | revert u67 u68 u69 u70 u71 u72 u73 u74 u75 u76 u77 u78 | ((try (revert u67)); (try (revert u68)); (try (revert u69)); (try (revert u70)); (try (revert u71)); (try (revert u72)); (try (revert u73)); (try (revert u74)); (try (revert u75)); (try (revert u76)); (try (revert u77)); (try (revert u78)))
            first | revert u79 u80 u81 u82 u83 u84 u85 u86 u87 u88 u89 u90 | ((try (revert u79)); (try (revert u80)); (try (revert u81)); (try (revert u82)); (try (revert u83)); (try (revert u84)); (try (revert u85)); (try (revert u86)); (try (revert u87)); (try (revert u88)); (try (revert u89)); (try (revert u90)))
            first | revert u91 u92 u93 u94 u95 u96 u97 u98 u99 u100 u101 u102 | ((try (revert u91)); (try (revert u92)); (try (revert u93)); (try (revert u94)); (try (revert u95)); (try (revert u96)); (try (revert u97)); (try (revert u98)); (try (revert u99)); (try (revert u100)); (try (revert u101)); (try (revert u102)))
            first | revert u103 u104 u105 u106 u107 u108 u109 u110 u111 u112 u113 u114 | ((try (revert u103)); (try (revert u104)); (try (revert u105)); (try (revert u106)); (try (revert u107)); (try (revert u108)); (try (revert u109)); (try (revert u110)); (try (revert u111)); (try (revert u112)); (try (revert u113)); (try (revert u114)))
            first | revert u115 u116 u117 u118 u119 u120 u121 u122 u123 u124 u125 u126 | ((try (revert u115)); (try (revert u116)); (try (revert u117)); (try (revert u118)); (try (revert u119)); (try (revert u120)); (try (revert u121)); (try (revert u122)); (try (revert u123)); (try (revert u124)); (try (revert u125)); (try (revert u126)))
            first | revert u127 u128 u129 u130 u131 u132 u133 u134 u135 u136 u137 u138 | ((try (revert u127)); (try (revert u128)); (try (revert u129)); (try (revert u130)); (try (revert u131)); (try (revert u132)); (try (revert u133)); (try (revert u134)); (try (revert u135)); (try (revert u136)); (try (revert u137)); (try (revert u138)))
            try revert V
            try revert hV
            try revert ByteArray
            try revert extract
            try revert min
            try revert size
            try revert Int
            try revert F
            try revert hF
            try revert a15
            try revert o
            try revert ho
            try revert HO
            try revert hw
            try revert HR1
            try revert HR3
            try revert HB
            try revert W0
            try revert hne
            try revert hge
            try revert b3
            try revert hne2
            try revert v5
            try revert v6
            try revert r5
            try revert r6
            try revert z5
            try revert z6
            try revert HP1
            try revert HP2
            try revert hm1
            try revert hm2
            try revert hm3
            try revert hm4
            try revert hsl1
            try revert hsl2
            try revert HX
            try revert c0
            try revert c1
            try revert c2
            try revert c3
            try revert c4
            try revert c5
            try revert c6
            try revert emB
            try revert wc
            try revert HE
            try revert em
            try revert hem
            try revert HEM
            try revert nvB
            try revert wr
            try revert nv
            try revert hnv
            try revert HNV
            try revert hb6
            try revert HX6
            try revert H6
            try revert W6
            try revert b6
            try revert d0
            try revert d1
            try revert d2
            try revert d3
            try revert e
            revert g_last
            exact g_2.out
          case rest =>
            obtain ⟨rfl, rfl⟩ := hcut
            obtain ⟨va, hva⟩ : ∃ va, valB k i s b = va := ⟨_, rfl⟩
            have HVA := Lib.hid hva
            rw [hva]
            clear hva d0 d1 d2 d3
            obtain ⟨c0, c1, c2, c3, c4, c5, c6⟩ := HX6.out.cells
            go_upto_block 0 with fail
            clear H6
            go_cut [8] (fun s8 wx => s8 = .bool (wantB o k i s b V F) ∧ Hid (NX w wx b3 o k i s b V F))
            case first =>
              (repeat (rename_i x_0 x_1 x_2 x_3 x_4 x_5 x_6 x_7 x_8 x_9 x_10 x_11 x_12 x_13 x_14 x_15 x_16 x_17 x_18 x_19 x_20 x_21 x_22 x_23 x_24 x_25 x_26 x_27 x_28 x_29 x_30 x_31 x_32 x_33 x_34 x_35 x_36 x_37 x_38 x_39 x_40 x_41 x_42 x_43 x_44 x_45 x_46 x_47 x_48 x_49 x_50 x_51 x_52 x_53 x_54 x_55 x_56 x_57 x_58 x_59 x_60 x_61 x_62 x_63; revert x_0 x_1 x_2 x_3 x_4 x_5 x_6 x_7 x_8 x_9 x_10 x_11 x_12 x_13 x_14 x_15 x_16 x_17 x_18 x_19 x_20 x_21 x_22 x_23 x_24 x_25 x_26 x_27 x_28 x_29 x_30 x_31 x_32 x_33 x_34 x_35 x_36 x_37 x_38 x_39 x_40 x_41 x_42 x_43 x_44 x_45 x_46 x_47 x_48 x_49 x_50 x_51 x_52 x_53 x_54 x_55 x_56 x_57 x_58 x_59 x_60 x_61 x_62 x_63))
              (repeat (rename_i x_0 x_1 x_2 x_3 x_4 x_5 x_6 x_7; revert x_0 x_1 x_2 x_3 x_4 x_5 x_6 x_7))
              (repeat (rename_i x_; revert x_))
              first | revert u7 u8 u9 u10 u11 u12 u13 u14 u15 u16 u17 u18 | ((try (revert u7)); (try (revert u8)); (try (revert u9)); (try (revert u10)); (try (revert u11)); (try (revert u12)); (try (revert u13)); (try (revert u14)); (try (revert u15)); (try (revert u16)); (try (revert u17)); (try (revert u18)))
              first | revert u19 u20 u21 u22 u23 u24 u25 u26 u27 u28 u29 u30 | ((try (revert u19)); (try (revert u20)); (try (revert u21)); (try (revert u22)); (try (revert u23)); (try (revert u24)); (try (revert u25)); (try (revert u26)); (try (revert u27)); (try (revert u28)); (try (revert u29)); (try (revert u30)))
              first | revert u31 u32 u33 u34 u35 u36 u37 u38 u39 u40 u41 u42 | ((try (revert u31)); (try (revert u32)); (try (revert u33)); (try (revert u34)); (try (revert u35)); (try (revert u36)); (try (revert u37)); (try (revert u38)); (try (revert u39)); (try (revert u40)); (try (revert u41)); (try (revert u42)))
              first | revert u43 u44 u45 u46 u47 u48 u49 u50 u51 u52 u53 u54 | ((try (revert u43)); (try (revert u44)); (try (revert u45)); (try (revert u46)); (try (revert u47)); (try (revert u48)); (try (revert u49)); (try (revert u50)); (try (revert u51)); (try (revert u52)); (try (revert u53)); (try (revert u54)))
              first | revert u55 u56 u57 u58 u59 u60 u61 u62 u63 u64 u65 u66 | ((try (revert u55)); (try (revert u56)); (try (revert u57)); (try (revert u58)); (try (revert u59)); (try (revert u60)); (try (revert u61)); (try (revert u62)); (try (revert u63)); (try (revert u64)); (try (revert u65)); (try (revert u66)))
              first | revert u67 u68 u69 u70 u71 u72 u73 u74 u75 u76 u77 u78 | ((try (revert u67)); (try (revert u68)); (try (revert u69)); (try (revert u70)); (try (revert u71)); (try (revert u72)); (try (revert u73)); (try (revert u74)); (try (revert u75)); (try (revert u76)); (try (revert u77)); (try (revert u78)))
              first | revert u79 u80 u81 u82 u83 u84 u85 u86 u87 u88 u89 u90 | ((try (revert u79)); (try (revert u80)); (try (revert u81)); (try (revert u82)); (try (revert u83)); (try (revert u84)); (try (revert u85)); (try (revert u86)); (try (revert u87)); (try (revert u88)); (try (revert u89)); (try (revert u90)))
              first | revert u91 u92 u93 u94 u95 u96 u97 u98 u99 u100 u101 u102 | ((try (revert u91)); (try (revert u92)); (try (revert u93)); (try (revert u94)); (try (revert u95)); (try (revert u96)); (try (revert u97)); (try (revert u98)); (try (revert u99)); (try (revert u100)); (try (revert u101)); (try (revert u102)))
              first | revert u103 u104 u105 u106 u107 u108 u109 u110 u111 u112 u113 u114 | ((try (revert u103)); (try (revert u104)); (try (revert u105)); (try (revert u106)); (try (revert u107)); (try (revert u108)); (try (revert u109)); (try (revert u110)); (try (revert u111)); (try (revert u112)); (try (revert u113)); (try (revert u114)))
              first | revert u115 u116 u117 u118 u119 u120 u121 u122 u123 u124 u125 u126 | ((try (revert u115)); (try (revert u116)); (try (revert u117)); (try (revert u118)); (try (revert u119)); (try (revert u120)); (try (revert u121)); (try (revert u122)); (try (revert u123)); (try (revert u124)); (try (revert u125)); (try (revert u126)))
              first | revert u127 u128 u129 u130 u131 u132 u133 u134 u135 u136 u137 u138 | ((try (revert u127)); (try (revert u128)); (try (revert u129)); (try (revert u130)); (try (revert u131)); (try (revert u132)); (try (revert u133)); (try (revert u134)); (try (revert u135)); (try (revert u136)); (try (revert u137)); (try (revert u138)))
              try revert V
              try revert hV
              try revert ByteArray
              try revert extract
              try revert min
              try revert size
              try revert Int
              try revert F
              try revert hF
              try revert a15
              try revert o
              try revert ho
              try revert HO
              try revert hw
              try revert HR1
              try revert HR3
              try revert HB
              try revert W0
              try revert hne
              try revert hge
              try revert b3
              try revert hne2
              try revert v5
              try revert v6
              try revert r5
              try revert r6
              try revert z5
              try revert z6
              try revert HP1
              try revert HP2
              try revert hm1
              try revert hm2
              try revert hm3
              try revert hm4
              try revert hsl1
              try revert hsl2
              try revert HX
              try revert c0
              try revert c1
              try revert c2
              try revert c3
              try revert c4
              try revert c5
              try revert c6
              try revert emB
              try revert wc
              try revert HE
              try revert em
              try revert hem
              try revert HEM
              try revert nvB
              try revert wr
              try revert nv
              try revert hnv
              try revert HNV
              try revert hb6
              try revert HX6
              try revert H6
              try revert W6
              try revert b6
              try revert d0
              try revert d1
              try revert d2
              try revert d3
              try revert valB
              try revert va
              try revert hva
              try revert HVA
              try revert e
              revert g_last
              exact g_3.out
            case rest =>
              (repeat (rename_i x_0 x_1 x_2 x_3 x_4 x_5 x_6 x_7 x_8 x_9 x_10 x_11 x_12 x_13 x_14 x_15 x_16 x_17 x_18 x_19 x_20 x_21 x_22 x_23 x_24 x_25 x_26 x_27 x_28 x_29 x_30 x_31 x_32 x_33 x_34 x_35 x_36 x_37 x_38 x_39 x_40 x_41 x_42 x_43 x_44 x_45 x_46 x_47 x_48 x_49 x_50 x_51 x_52 x_53 x_54 x_55 x_56 x_57 x_58 x_59 x_60 x_61 x_62 x_63; revert x_0 x_1 x_2 x_3 x_4 x_5 x_6 x_7 x_8 x_9 x_10 x_11 x_12 x_13 x_14 x_15 x_16 x_17 x_18 x_19 x_20 x_21 x_22 x_23 x_24 x_25 x_26 x_27 x_28 x_29 x_30 x_31 x_32 x_33 x_34 x_35 x_36 x_37 x_38 x_39 x_40 x_41 x_42 x_43 x_44 x_45 x_46 x_47 x_48 x_49 x_50 x_51 x_52 x_53 x_54 x_55 x_56 x_57 x_58 x_59 x_60 x_61 x_62 x_63))
              (repeat (rename_i x_0 x_1 x_2 x_3 x_4 x_5 x_6 x_7; revert x_0 x_1 x_2 x_3 x_4 x_5 x_6 x_7))
              (repeat (rename_i x_; revert x_))
              first | revert u7 u8 u9 u10 u11 u12 u13 u14 u15 u16 u17 u18 | ((try (revert u7)); (try (revert u8)); (try (revert u9)); (try (revert u10)); (try (revert u11)); (try (revert u12)); (try (revert u13)); (try (revert u14)); (try (revert u15)); (try (revert u16)); (try (revert u17)); (try (revert u18)))
              first | revert u19 u20 u21 u22 u23 u24 u25 u26 u27 u28 u29 u30 | ((try (revert u19)); (try (revert u20)); (try (revert u21)); (try (revert u22)); (try (revert u23)); (try (revert u24)); (try (revert u25)); (try (revert u26)); (try (revert u27)); (try (revert u28)); (try (revert u29)); (try (revert u30)))
              first | revert u31 u32 u33 u34 u35 u36 u37 u38 u39 u40 u41 u42 | ((try (revert u31)); (try (revert u32)); (try (revert u33)); (try (revert u34)); (try (revert u35)); (try (revert u36)); (try (revert u37)); (try (revert u38)); (try (revert u39)); (try (revert u40)); (try (revert u41)); (try (revert u42)))
              first | revert u43 u44 u45 u46 u47 u48 u49 u50 u51 u52 u53 u54 | ((try (revert u43)); (try (revert u44)); (try (revert u45)); (try (revert u46)); (try (revert u47)); (try (revert u48)); (try (revert u49)); (try (revert u50)); (try (revert u51)); (try (revert u52)); (try (revert u53)); (try (revert u54)))
              first | revert u55 u56 u57 u58 u59 u60 u61 u62 u63 u64 u65 u66 | ((try (revert u55)); (try (revert u56)); (try (revert u57)); (try (revert u58)); (try (revert u59)); (try (revert u60)); (try (revert u61)); (try (revert u62)); (try (revert u63)); (try (revert u64)); (try (revert u65)); (try (revert u66)))
              first | revert u67 u68 u69 u70 u71 u72 u73 u74 u75 u76 u77 u78 | ((try (revert u67)); (try (revert u68)); (try (revert u69)); (try (revert u70)); (try (revert u71)); (try (revert u72)); (try (revert u73)); (try (revert u74)); (try (revert u75)); (try (revert u76)); (try (revert u77)); (try (revert u78)))
              first | revert u79 u80 u81 u82 u83 u84 u85 u86 u87 u88 u89 u90 | ((try (revert u79)); (try (revert u80)); (try (revert u81)); (try (revert u82)); (try (revert u83)); (try (revert u84)); (try (revert u85)); (try (revert u86)); (try (revert u87)); (try (revert u88)); (try (revert u89)); (try (revert u90)))
              first | revert u91 u92 u93 u94 u95 u96 u97 u98 u99 u100 u101 u102 | ((try (revert u91)); (try (revert u92)); (try (revert u93)); (try (revert u94)); (try (revert u95)); (try (revert u96)); (try (revert u97)); (try (revert u98)); (try (revert u99)); (try (revert u100)); (try (revert u101)); (try (revert u102)))
              first | revert u103 u104 u105 u106 u107 u108 u109 u110 u111 u112 u113 u114 | ((try (revert u103)); (try (revert u104)); (try (revert u105)); (try (revert u106)); (try (revert u107)); (try (revert u108)); (try (revert u109)); (try (revert u110)); (try (revert u111)); (try (revert u112)); (try (revert u113)); (try (revert u114)))
              first | revert u115 u116 u117 u118 u119 u120 u121 u122 u123 u124 u125 u126 | ((try (revert u115)); (try (revert u116)); (try (revert u117)); (try (revert u118)); (try (revert u119)); (try (revert u120)); (try (revert u121)); (try (revert u122)); (try (revert u123)); (try (revert u124)); (try (revert u125)); (try (revert u126)))
              first | revert u127 u128 u129 u130 u131 u132 u133 u134 u135 u136 u137 u138 | ((try (revert u127)); (try (revert u128)); (try (revert u129)); (try (revert u130)); (try (revert u131)); (try (revert u132)); (try (revert u133)); (try (revert u134)); (try (revert u135)); (try (revert u136)); (try (revert u137)); (try (revert u138)))
              try revert V
              try revert hV
              try revert ByteArray
              try revert extract
              try revert min
              try revert size
              try revert Int
              try revert F
              try revert hF
              try revert a15
              try revert o
              try revert ho
              try revert HO
              try revert hw
              try revert HR1
              try revert HR3
              try revert HB
              try revert W0
              try revert hne
              try revert hge
              try revert b3
              try revert hne2
              try revert v5
              try revert v6
              try revert r5
              try revert r6
              try revert z5
              try revert z6
              try revert HP1
              try revert HP2
              try revert hm1
              try revert hm2
              try revert hm3
              try revert hm4
              try revert hsl1
              try revert hsl2
              try revert HX
              try revert c0
              try revert c1
              try revert c2
              try revert c3
              try revert c4
              try revert c5
              try revert c6
              try revert emB
              try revert wc
              try revert HE
              try revert em
              try revert hem
              try revert HEM
              try revert nvB
              try revert wr
              try revert nv
              try revert hnv
              try revert HNV
              try revert hb6
              try revert HX6
              try revert H6
              try revert W6
              try revert b6
              try revert d0
              try revert d1
              try revert d2
              try revert d3
              try revert valB
              try revert va
              try revert hva
              try revert HVA
              try revert e
              revert g_last
              exact g_4.out
end Go.Proofs.YtlpkeinablekpaaDoor.Tm
