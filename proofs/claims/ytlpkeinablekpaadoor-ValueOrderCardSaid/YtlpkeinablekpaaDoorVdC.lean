/- The law ValueOrder. -/
import Derived.Test.YtlpkeinablekpaaDoorVdB
import Derived.Test.YtlpkeinablekpaaDoorVdM
import Derived.BigRegion
import Derived.Deep.RegionHeld3
import Derived.Test.YtlpkeinablekpaaDoorTab
namespace Go.Proofs.YtlpkeinablekpaaDoor.Vd
open Go.RowKit Go.Proofs.YtlpkeinablekpaaDoor Go.Proofs.YtlpkeinablekpaaDoor.Door Go.Proofs.YtlpkeinablekpaaDoor.Ev Go.Proofs.YtlpkeinablekpaaDoor.Sch Go.Proofs.YtlpkeinablekpaaDoor.Evl Go.Proofs.YtlpkeinablekpaaDoor.Ty
set_option linter.unusedVariables false
set_option maxRecDepth 100000
theorem take_at {P : Program} {ops : Array Oper} {Q : Exit → Act → World → Prop} {md : Region.Mode} {S : World → Prop} {fuel : Nat} {listed : Array Bool} {a : Act} {w : World} (i : Nat) (d : Tmp) (oi : Oper) {v : Value} (hi : ops[i]? = some oi) (hd : oi.dst = some d)
    (hs : Region.noSelect ops = true) (hf : Region.free md ops listed i = true) (hr : (Region.ready md ops listed).contains i = true)
    (hQ : ∀ c a w, Q (.panic c) (a.put oi.dst v) w → Q (.panic c) a w) (hy : YieldsIf P ops S oi v a) (hS : S w)
    (h : wpAnyH P md ops Q S fuel (listed.setIfInBounds i true) (a.put (some d) v) w) : wpAnyH P md ops Q S (fuel + 1) listed a w :=
  wpAnyH_take hi hs hf hr hQ hy hS (by rw [hd]; exact h)
/-- Where the law's values lie. -/
structure VS (w W : World) (ba bb b7 b8 b9 : Nat) (a b x y z : VV) : Prop where
  ra : Row W ba 23 a.cells.toArray
  rb : Row W bb 23 b.cells.toArray
  r7 : Row W b7 23 x.cells.toArray
  r8 : Row W b8 23 y.cells.toArray
  r9 : Row W b9 23 z.cells.toArray
  n8 : b8 ≠ ba ∧ b8 ≠ bb ∧ b8 ≠ b7 ∧ b8 ≠ b9
  n9 : b9 ≠ ba ∧ b9 ≠ bb ∧ b9 ≠ b7 ∧ b9 ≠ b8
  g : w.heap.size ≤ b8 ∧ w.heap.size ≤ b9
  be : Below w.heap.size w W
section
variable {w W W' : World} {ba bb b7 b8 b9 : Nat} {a b x y z : VV}
theorem VS.call (h : VS w W ba bb b7 b8 b9 a b x y z) (t : Below W.heap.size W W') : VS w W' ba bb b7 b8 b9 a b x y z :=
  ⟨h.ra.below t h.ra.lt, h.rb.below t h.rb.lt, h.r7.below t h.r7.lt, h.r8.below t h.r8.lt, h.r9.below t h.r9.lt, h.n8, h.n9, h.g, h.be.trans (t.mono h.be.size)⟩
theorem VS.put8 (h : VS w W ba bb b7 b8 b9 a b x y z) (k : Int) : VS w (W.setCell ⟨b8, 0, none⟩ (.int .i64 k)) ba bb b7 b8 b9 a b x ⟨k, y.i, y.s, y.b⟩ z :=
  ⟨h.ra.past (Ne.symm h.n8.1) _, h.rb.past (Ne.symm h.n8.2.1) _, h.r7.past (Ne.symm h.n8.2.2.1) _, h.r8.put 0 (.int .i64 k), h.r9.past (Ne.symm h.n8.2.2.2) _, h.n8, h.n9, h.g, h.be.setCell h.g.1 _⟩
theorem VS.put9 (h : VS w W ba bb b7 b8 b9 a b x y z) (k : Int) : VS w (W.setCell ⟨b9, 0, none⟩ (.int .i64 k)) ba bb b7 b8 b9 a b x y ⟨k, z.i, z.s, z.b⟩ :=
  ⟨h.ra.past (Ne.symm h.n9.1) _, h.rb.past (Ne.symm h.n9.2.1) _, h.r7.past (Ne.symm h.n9.2.2.1) _, h.r8.past (Ne.symm h.n9.2.2.2) _, h.r9.put 0 (.int .i64 k), h.n8, h.n9, h.g, h.be.setCell h.g.2 _⟩
theorem VS.cells (h : VS w W ba bb b7 b8 b9 a b x y z) : W.cell? ⟨ba, 0, none⟩ = some (.int .i64 a.k) ∧ W.cell? ⟨ba, 1, none⟩ = some (.int .i64 a.i) ∧ W.cell? ⟨ba, 2, none⟩ = some (.string a.s) ∧ W.cell? ⟨bb, 0, none⟩ = some (.int .i64 b.k) ∧ W.cell? ⟨bb, 1, none⟩ = some (.int .i64 b.i) ∧
    W.cell? ⟨b7, 0, none⟩ = some (.int .i64 x.k) ∧ W.cell? ⟨b7, 1, none⟩ = some (.int .i64 x.i) ∧ W.cell? ⟨b7, 2, none⟩ = some (.string x.s) ∧ W.cell? ⟨b7, 3, none⟩ = some (.bool x.b) ∧
    W.cell? ⟨b8, 0, none⟩ = some (.int .i64 y.k) ∧ W.cell? ⟨b8, 1, none⟩ = some (.int .i64 y.i) ∧ W.cell? ⟨b8, 2, none⟩ = some (.string y.s) ∧ W.cell? ⟨b8, 3, none⟩ = some (.bool y.b) ∧
    W.cell? ⟨b9, 0, none⟩ = some (.int .i64 z.k) ∧ W.cell? ⟨b9, 1, none⟩ = some (.int .i64 z.i) ∧ W.cell? ⟨b9, 2, none⟩ = some (.string z.s) ∧ W.cell? ⟨b9, 3, none⟩ = some (.bool z.b) ∧ W.frozen? ⟨b8, 0, none⟩ = false ∧ W.frozen? ⟨b9, 0, none⟩ = false :=
  ⟨h.ra.cell 0, h.ra.cell 1, h.ra.cell 2, h.rb.cell 0, h.rb.cell 1, h.r7.cell 0, h.r7.cell 1, h.r7.cell 2, h.r7.cell 3, h.r8.cell 0, h.r8.cell 1, h.r8.cell 2, h.r8.cell 3, h.r9.cell 0, h.r9.cell 1, h.r9.cell 2, h.r9.cell 3, h.r8.free 0, h.r9.free 0⟩
end
theorem vcmp_yes {a b : VV} {n : Int} (h : ordV a b = some n) (w : World) : Calls Tryd.prog 19 #[.agg #[.int .i64 a.k, .int .i64 a.i, .string a.s, .bool a.b], .agg #[.int .i64 b.k, .int .i64 b.i, .string b.s, .bool b.b]] w fun e w' => e = .returned (.tuple #[.int .i64 n, .bool true]) ∧ Below w.heap.size w w' :=
  (vcmp_any a b w).mono fun e w' ⟨h1, h2⟩ => ⟨by rw [h1, h]; rfl, h2⟩
theorem vcmp_no {a b : VV} (h : ordV a b = none) (w : World) : Calls Tryd.prog 19 #[.agg #[.int .i64 a.k, .int .i64 a.i, .string a.s, .bool a.b], .agg #[.int .i64 b.k, .int .i64 b.i, .string b.s, .bool b.b]] w fun e w' => e = .returned (.tuple #[.int .i64 0, .bool false]) ∧ Below w.heap.size w w' :=
  (vcmp_any a b w).mono fun e w' ⟨h1, h2⟩ => ⟨by rw [h1, h]; rfl, h2⟩
theorem row6 (w : World) (t : TypeId) (c0 c1 c2 c3 c4 c5 : Array Value) :
    let W := ((((((w.alloc (.cells c0 t)).alloc (.cells c1 t)).alloc (.cells c2 t)).alloc (.cells c3 t)).alloc (.cells c4 t)).alloc (.cells c5 t)).drew
    (Row W w.heap.size t c0 ∧ Row W (w.heap.size + 1) t c1 ∧ Row W (w.heap.size + 1 + 1) t c2 ∧ Row W (w.heap.size + 1 + 1 + 1) t c3 ∧ Row W (w.heap.size + 1 + 1 + 1 + 1) t c4 ∧ Row W (w.heap.size + 1 + 1 + 1 + 1 + 1) t c5) ∧ Below w.heap.size w W := by
  refine ⟨⟨?_, ?_, ?_, ?_, ?_, ?_⟩, ?_⟩
  · exact ((((((Row.made w t c0).alloc _).alloc _).alloc _).alloc _).alloc _).drew
  · have := (((((Row.made (w.alloc (.cells c0 t)) t c1).alloc (.cells c2 t)).alloc (.cells c3 t)).alloc (.cells c4 t)).alloc (.cells c5 t)).drew
    simpa using this
  · have := ((((Row.made ((w.alloc (.cells c0 t)).alloc (.cells c1 t)) t c2).alloc (.cells c3 t)).alloc (.cells c4 t)).alloc (.cells c5 t)).drew
    simpa using this
  · have := (((Row.made (((w.alloc (.cells c0 t)).alloc (.cells c1 t)).alloc (.cells c2 t)) t c3).alloc (.cells c4 t)).alloc (.cells c5 t)).drew
    simpa using this
  · have := ((Row.made ((((w.alloc (.cells c0 t)).alloc (.cells c1 t)).alloc (.cells c2 t)).alloc (.cells c3 t)) t c4).alloc (.cells c5 t)).drew
    simpa using this
  · have := (Row.made (((((w.alloc (.cells c0 t)).alloc (.cells c1 t)).alloc (.cells c2 t)).alloc (.cells c3 t)).alloc (.cells c4 t)) t c5).drew
    simpa using this
  · exact ((((((((Below.refl _ w).alloc (by simp) _).alloc (by simp; try omega) _).alloc (by simp; try omega) _).alloc (by simp; try omega) _).alloc (by simp; try omega) _).alloc (by simp; try omega) _)).drew
structure Cut_VdC (C : Prop) where
  G1 : Prop
  G2 : Prop
  G3 : Prop
  G4 : Prop
  G5 : Prop
  G6 : Prop
  G7 : Prop
  ok : Go.RowKit.Hid G1 → Go.RowKit.Hid G2 → Go.RowKit.Hid G3 → Go.RowKit.Hid G4 → Go.RowKit.Hid G5 → Go.RowKit.Hid G6 → Go.RowKit.Hid G7 → Go.RowKit.Hid True → C
set_option maxHeartbeats 8000000 in
noncomputable def part_VdC (ak ai : Int) (sa : ByteArray) (ab : Bool) (bk bi : Int) (sb : ByteArray) (bb : Bool) (ck ci : Int) (sc : ByteArray) (cb : Bool) (w : World) (HM : Hid (ML w)) :
    Cut_VdC (Calls Tryd.prog 5 #[.agg #[.int .i64 ak, .int .i64 ai, .string sa, .bool ab], .agg #[.int .i64 bk, .int .i64 bi, .string sb, .bool bb], .agg #[.int .i64 ck, .int .i64 ci, .string sc, .bool cb]] w fun e w' => e = .returned (.bool true) ∧ Below w.heap.size w w') := by
  apply Cut_VdC.mk
  case ok =>
    intro g_1 g_2 g_3 g_4 g_5 g_6 g_7 g_last
    go_enter Tryd.func5, Tryd.ntmps5
    go_upto_region 1 with fail
    go_cut [7, 8, 9] (fun s7 s8 s9 wx => ∃ b7 b8 b9 : Nat, s7 = .pointer (some ⟨b7, 0, none⟩) ∧ s8 = .pointer (some ⟨b8, 0, none⟩) ∧ s9 = .pointer (some ⟨b9, 0, none⟩) ∧ Hid (VS w wx w.heap.size (w.heap.size + 1) b7 b8 b9 ⟨ak, ai, sa, ab⟩ ⟨bk, bi, sb, bb⟩ ⟨ak, ai, sa, ab⟩ ⟨bk, bi, sb, bb⟩ ⟨ck, ci, sc, cb⟩))
    case first =>
      (repeat (rename_i x_0 x_1 x_2 x_3 x_4 x_5 x_6 x_7 x_8 x_9 x_10 x_11 x_12 x_13 x_14 x_15 x_16 x_17 x_18 x_19 x_20 x_21 x_22 x_23 x_24 x_25 x_26 x_27 x_28 x_29 x_30 x_31 x_32 x_33 x_34 x_35 x_36 x_37 x_38 x_39 x_40 x_41 x_42 x_43 x_44 x_45 x_46 x_47 x_48 x_49 x_50 x_51 x_52 x_53 x_54 x_55 x_56 x_57 x_58 x_59 x_60 x_61 x_62 x_63; revert x_0 x_1 x_2 x_3 x_4 x_5 x_6 x_7 x_8 x_9 x_10 x_11 x_12 x_13 x_14 x_15 x_16 x_17 x_18 x_19 x_20 x_21 x_22 x_23 x_24 x_25 x_26 x_27 x_28 x_29 x_30 x_31 x_32 x_33 x_34 x_35 x_36 x_37 x_38 x_39 x_40 x_41 x_42 x_43 x_44 x_45 x_46 x_47 x_48 x_49 x_50 x_51 x_52 x_53 x_54 x_55 x_56 x_57 x_58 x_59 x_60 x_61 x_62 x_63))
      (repeat (rename_i x_0 x_1 x_2 x_3 x_4 x_5 x_6 x_7; revert x_0 x_1 x_2 x_3 x_4 x_5 x_6 x_7))
      (repeat (rename_i x_; revert x_))
      first | revert u21 u22 u23 u24 u25 u26 u27 u28 u29 u30 u31 u32 u33 u34 u35 u36 u37 u38 u39 u40 u41 u42 u43 u44 u45 u46 u47 u48 u49 u50 u51 u52 u53 u54 u55 u56 u57 u58 u59 u60 u61 u62 u63 u64 u65 u66 u67 u68 u69 u70 u71 u72 u73 u74 u75 u76 u77 u78 u79 u80 u81 u82 u83 u84 u85 u86 u87 u88 u89 u90 u91 u92 u93 u94 u95 u96 u97 u98 u99 u100 u101 u102 u103 u104 u105 u106 u107 u108 u109 u110 u111 u112 u113 u114 u115 u116 u117 u118 u119 u120 u121 u122 u123 u124 u125 u126 u127 u128 u129 u130 u131 u132 u133 u134 u135 u136 u137 u138 u139 u140 u141 u142 u143 u144 u145 u146 u147 u148 u149 u150 u151 u152 u153 u154 u155 u156 u157 u158 u159 u160 u161 u162 u163 u164 u165 u166 u167 u168 u169 u170 u171 u172 u173 u174 u175 u176 u177 u178 u179 u180 u181 u182 u183 u184 u185 u186 u187 u188 u189 u190 u191 u192 u193 u194 u195 u196 u197 u198 u199 u200 u201 u202 u203 u204 u205 u206 u207 u208 u209 u210 u211 u212 | skip
      try revert wc
      try revert wr
      try revert e
      revert g_last
      exact g_1.out
    case rest =>
      obtain ⟨b7, b8, b9, rfl, rfl, rfl, HV⟩ := hcut
      obtain ⟨a0, a1, a2, p0, p1, x0, x1, x2, x3, y0, y1, y2, y3, z0, z1, z2, z3, f8, f9⟩ := HV.out.cells
      dsimp only at a0 a1 a2 p0 p1 x0 x1 x2 x3 y0 y1 y2 y3 z0 z1 z2 z3 f8 f9
      obtain ⟨n80, n81, n82, n83⟩ := HV.out.n8
      obtain ⟨n90, n91, n92, n93⟩ := HV.out.n9
      go_upto_region 2 with fail
      go_cut [] (fun wx => Hid (VS w wx w.heap.size (w.heap.size + 1) b7 b8 b9 ⟨ak, ai, sa, ab⟩ ⟨bk, bi, sb, bb⟩ ⟨ak, ai, sa, ab⟩ ⟨ak, bi, sb, bb⟩ ⟨ak, ci, sc, cb⟩))
      case first =>
        have HV1 := Lib.hid ((HV.out.put8 ak).put9 ak)
        have HV2 := Lib.hid ((HV.out.put9 ak).put8 ak)
        go_region
        all_goals
          go_wp2
          go_meet
          first
            | exact HV1.out.call (Below.refl _ _).drew
            | exact HV2.out.call (Below.refl _ _).drew
      case rest =>
        have HV3 := Lib.hid hcut.out
        clear hcut HV a0 a1 a2 p0 p1 x0 x1 x2 x3 y0 y1 y2 y3 z0 z1 z2 z3 f8 f9
        obtain ⟨a0, a1, a2, p0, p1, x0, x1, x2, x3, y0, y1, y2, y3, z0, z1, z2, z3, f8, f9⟩ := HV3.out.cells
        dsimp only at a0 a1 a2 p0 p1 x0 x1 x2 x3 y0 y1 y2 y3 z0 z1 z2 z3 f8 f9
        have b7' := and7 bi
        go_upto_region 3 with fail
        go_cut [33] (fun s33 wx => ∃ t : Bool, s33 = .bool t ∧ wc = wx)
        case first =>
          go_wp2
          go_meet
          exact ⟨_, rfl, rfl⟩
        case rest =>
          obtain ⟨t, rfl, rfl⟩ := hcut
          go_upto_if 33 with fail
          go_cut [] (fun wx => ∃ yk : Int, Hid (VS w wx w.heap.size (w.heap.size + 1) b7 b8 b9 ⟨ak, ai, sa, ab⟩ ⟨bk, bi, sb, bb⟩ ⟨ak, ai, sa, ab⟩ ⟨yk, bi, sb, bb⟩ ⟨ak, ci, sc, cb⟩))
          case first =>
            have HV4 := Lib.hid (HV3.out.put8 bk)
            cases t
            · go_wp2
              go_meet
              exact ⟨ak, HV3.out⟩
            · go_wp2
              go_meet
              exact ⟨bk, HV4.out⟩
          case rest =>
            obtain ⟨yk, HV5⟩ := hcut
            clear HV3 b7' a0 a1 a2 p0 p1 x0 x1 x2 x3 y0 y1 y2 y3 z0 z1 z2 z3 f8 f9
            obtain ⟨a0, a1, a2, p0, p1, x0, x1, x2, x3, y0, y1, y2, y3, z0, z1, z2, z3, f8, f9⟩ := HV5.out.cells
            dsimp only at a0 a1 a2 p0 p1 x0 x1 x2 x3 y0 y1 y2 y3 z0 z1 z2 z3 f8 f9
            by_cases hK : ak = yk ∧ 1 ≤ ak ∧ ak ≤ 3
            · obtain ⟨hyk, h1, h3⟩ := hK
              subst hyk
              obtain ⟨n, hn⟩ : ∃ n, (if ak = 1 then cmpI ai bi else if ak = 2 then cmpS sa sb else cmpI (rk ab) (rk bb)) = n := ⟨_, rfl⟩
              have HXY : Hid (ordV ⟨ak, ai, sa, ab⟩ ⟨ak, bi, sb, bb⟩ = some n) := (ordV_some (a := ⟨ak, ai, sa, ab⟩) (b := ⟨ak, bi, sb, bb⟩) rfl h1 h3).trans (congrArg some hn)
              have HYX : Hid (ordV ⟨ak, bi, sb, bb⟩ ⟨ak, ai, sa, ab⟩ = some (-n)) := (ordV_some (a := ⟨ak, bi, sb, bb⟩) (b := ⟨ak, ai, sa, ab⟩) rfl h1 h3).trans (congrArg some (by
                rw [← hn]
                dsimp only
                split
                · exact cmpI_swap _ _
                · split
                  · exact cmpS_swap _ _
                  · exact cmpI_swap _ _))
              obtain ⟨p, hp⟩ : ∃ p, ordV ⟨ak, bi, sb, bb⟩ ⟨ak, ci, sc, cb⟩ = some p := ⟨_, ordV_some (a := ⟨ak, bi, sb, bb⟩) (b := ⟨ak, ci, sc, cb⟩) rfl h1 h3⟩
              obtain ⟨q, hq⟩ : ∃ q, ordV ⟨ak, ai, sa, ab⟩ ⟨ak, ci, sc, cb⟩ = some q := ⟨_, ordV_some (a := ⟨ak, ai, sa, ab⟩) (b := ⟨ak, ci, sc, cb⟩) rfl h1 h3⟩
              have HTR : Hid (0 < n ∨ 0 < p ∨ q ≤ 0) := by
                have e1 := Option.some.inj (hp.symm.trans (ordV_some (a := ⟨ak, bi, sb, bb⟩) (b := ⟨ak, ci, sc, cb⟩) rfl h1 h3))
                have e2 := Option.some.inj (hq.symm.trans (ordV_some (a := ⟨ak, ai, sa, ab⟩) (b := ⟨ak, ci, sc, cb⟩) rfl h1 h3))
                unfold Hid
                rw [← hn, e1, e2]
                dsimp only
                split
                · exact cmpI_trans _ _ _
                · split
                  · exact cmpS_trans _ _ _
                  · exact cmpI_trans _ _ _
              have HN : Hid ((ak = 1 → n = cmpI ai bi) ∧ (ak = 2 → n = cmpS sa sb) ∧ (ak = 3 → n = cmpI (rk ab) (rk bb))) := by
                unfold Hid
                rw [← hn]
                exact ⟨fun e => by rw [if_pos e], fun e => by rw [if_neg (by omega), if_pos e], fun e => by rw [if_neg (by omega), if_neg (by omega)]⟩
              have HNV : Hid (n = -1 ∨ n = 0 ∨ n = 1) := by
                unfold Hid
                rw [← hn]
                split
                · rcases cmpI_vals ai bi with ⟨h, _⟩ | ⟨h, _⟩ | ⟨h, _⟩ <;> omega
                · split
                  · rcases cmpS_vals sa sb with ⟨h, _⟩ | ⟨h, _⟩ | ⟨h, _⟩ <;> omega
                  · rcases cmpI_vals (rk ab) (rk bb) with ⟨h, _⟩ | ⟨h, _⟩ | ⟨h, _⟩ <;> omega
              have HP := Lib.hid hp
              have HQ := Lib.hid hq
              have HK := Lib.hid (And.intro h1 h3)
              clear hn hp hq
              go_wp2_with fail
              refine (vcmp_yes HXY.out _).mono ?_
              rintro e w1 ⟨rfl, hb⟩
              have HV6 := Lib.hid (HV5.out.call hb)
              clear a0 a1 a2 p0 p1 x0 x1 x2 x3 y0 y1 y2 y3 z0 z1 z2 z3 f8 f9 hb
              obtain ⟨a0, a1, a2, p0, p1, x0, x1, x2, x3, y0, y1, y2, y3, z0, z1, z2, z3, f8, f9⟩ := HV6.out.cells
              dsimp only at a0 a1 a2 p0 p1 x0 x1 x2 x3 y0 y1 y2 y3 z0 z1 z2 z3 f8 f9
              go_wp2_with fail
              refine (vcmp_yes HYX.out _).mono ?_
              rintro e w2 ⟨rfl, hb⟩
              have HV7 := Lib.hid (HV6.out.call hb)
              clear a0 a1 a2 p0 p1 x0 x1 x2 x3 y0 y1 y2 y3 z0 z1 z2 z3 f8 f9 hb
              obtain ⟨a0, a1, a2, p0, p1, x0, x1, x2, x3, y0, y1, y2, y3, z0, z1, z2, z3, f8, f9⟩ := HV7.out.cells
              dsimp only at a0 a1 a2 p0 p1 x0 x1 x2 x3 y0 y1 y2 y3 z0 z1 z2 z3 f8 f9
              have d1 : ¬ ak < 1 := by omega
              have d2 : decide (ak < 1) = false := decide_eq_false d1
              have d3 : ¬ 3 < ak := by omega
              have d4 : decide (3 < ak) = false := decide_eq_false d3
              go_upto_region 9 with fail
              clear d1 d2 d3 d4
              go_cut [14] (fun s14 wx => ∃ t : Bool, s14 = .bool t ∧ Hid (t = decide (n = 0)) ∧ w2 = wx)
              case first =>
                (repeat (rename_i x_0 x_1 x_2 x_3 x_4 x_5 x_6 x_7 x_8 x_9 x_10 x_11 x_12 x_13 x_14 x_15 x_16 x_17 x_18 x_19 x_20 x_21 x_22 x_23 x_24 x_25 x_26 x_27 x_28 x_29 x_30 x_31 x_32 x_33 x_34 x_35 x_36 x_37 x_38 x_39 x_40 x_41 x_42 x_43 x_44 x_45 x_46 x_47 x_48 x_49 x_50 x_51 x_52 x_53 x_54 x_55 x_56 x_57 x_58 x_59 x_60 x_61 x_62 x_63; revert x_0 x_1 x_2 x_3 x_4 x_5 x_6 x_7 x_8 x_9 x_10 x_11 x_12 x_13 x_14 x_15 x_16 x_17 x_18 x_19 x_20 x_21 x_22 x_23 x_24 x_25 x_26 x_27 x_28 x_29 x_30 x_31 x_32 x_33 x_34 x_35 x_36 x_37 x_38 x_39 x_40 x_41 x_42 x_43 x_44 x_45 x_46 x_47 x_48 x_49 x_50 x_51 x_52 x_53 x_54 x_55 x_56 x_57 x_58 x_59 x_60 x_61 x_62 x_63))
                (repeat (rename_i x_0 x_1 x_2 x_3 x_4 x_5 x_6 x_7; revert x_0 x_1 x_2 x_3 x_4 x_5 x_6 x_7))
                (repeat (rename_i x_; revert x_))
                first | revert u21 u22 u23 u24 u25 u26 u27 u28 u29 u30 u31 u32 u33 u34 u35 u36 u37 u38 u39 u40 u41 u42 u43 u44 u45 u46 u47 u48 u49 u50 u51 u52 u53 u54 u55 u56 u57 u58 u59 u60 u61 u62 u63 u64 u65 u66 u67 u68 u69 u70 u71 u72 u73 u74 u75 u76 u77 u78 u79 u80 u81 u82 u83 u84 u85 u86 u87 u88 u89 u90 u91 u92 u93 u94 u95 u96 u97 u98 u99 u100 u101 u102 u103 u104 u105 u106 u107 u108 u109 u110 u111 u112 u113 u114 u115 u116 u117 u118 u119 u120 u121 u122 u123 u124 u125 u126 u127 u128 u129 u130 u131 u132 u133 u134 u135 u136 u137 u138 u139 u140 u141 u142 u143 u144 u145 u146 u147 u148 u149 u150 u151 u152 u153 u154 u155 u156 u157 u158 u159 u160 u161 u162 u163 u164 u165 u166 u167 u168 u169 u170 u171 u172 u173 u174 u175 u176 u177 u178 u179 u180 u181 u182 u183 u184 u185 u186 u187 u188 u189 u190 u191 u192 u193 u194 u195 u196 u197 u198 u199 u200 u201 u202 u203 u204 u205 u206 u207 u208 u209 u210 u211 u212 | skip
                try revert b7
                try revert b8
                try revert b9
                try revert some
                try revert wc
                try revert wr
                try revert HV
                try revert a0
                try revert a1
                try revert a2
                try revert p0
                try revert p1
                try revert x0
                try revert x1
                try revert x2
                try revert x3
                try revert y0
                try revert y1
                try revert y2
                try revert y3
                try revert z0
                try revert z1
                try revert z2
                try revert z3
                try revert f8
                try revert f9
                try revert n80
                try revert n81
                try revert n82
                try revert n83
                try revert n90
                try revert n91
                try revert n92
                try revert n93
                try revert HV1
                try revert HV2
                try revert HV3
                try revert b7'
                try revert t
                try revert yk
                try revert HV4
                try revert HV5
                try revert hK
                try revert hyk
                try revert h1
                try revert h3
                try revert n
                try revert hn
                try revert cmpI
                try revert cmpS
                try revert rk
                try revert HXY
                try revert ordV
                try revert HYX
                try revert p
                try revert hp
                try revert q
                try revert hq
                try revert HTR
                try revert e1
                try revert e2
                try revert HN
                try revert HNV
                try revert h
                try revert HP
                try revert HQ
                try revert HK
                try revert w1
                try revert hb
                try revert HV6
                try revert w2
                try revert HV7
                try revert d1
                try revert d2
                try revert d3
                try revert d4
                try revert e
                revert g_last
                exact g_2.out
              case rest =>
                obtain ⟨t14, rfl, H14, rfl⟩ := hcut
                go_upto_region 10 with fail
                go_cut [15] (fun s15 wx => ∃ t : Bool, s15 = .bool t ∧ Hid (t = decide (n = -1)) ∧ w2 = wx)
                case first =>
                  (repeat (rename_i x_0 x_1 x_2 x_3 x_4 x_5 x_6 x_7 x_8 x_9 x_10 x_11 x_12 x_13 x_14 x_15 x_16 x_17 x_18 x_19 x_20 x_21 x_22 x_23 x_24 x_25 x_26 x_27 x_28 x_29 x_30 x_31 x_32 x_33 x_34 x_35 x_36 x_37 x_38 x_39 x_40 x_41 x_42 x_43 x_44 x_45 x_46 x_47 x_48 x_49 x_50 x_51 x_52 x_53 x_54 x_55 x_56 x_57 x_58 x_59 x_60 x_61 x_62 x_63; revert x_0 x_1 x_2 x_3 x_4 x_5 x_6 x_7 x_8 x_9 x_10 x_11 x_12 x_13 x_14 x_15 x_16 x_17 x_18 x_19 x_20 x_21 x_22 x_23 x_24 x_25 x_26 x_27 x_28 x_29 x_30 x_31 x_32 x_33 x_34 x_35 x_36 x_37 x_38 x_39 x_40 x_41 x_42 x_43 x_44 x_45 x_46 x_47 x_48 x_49 x_50 x_51 x_52 x_53 x_54 x_55 x_56 x_57 x_58 x_59 x_60 x_61 x_62 x_63))
                  (repeat (rename_i x_0 x_1 x_2 x_3 x_4 x_5 x_6 x_7; revert x_0 x_1 x_2 x_3 x_4 x_5 x_6 x_7))
                  (repeat (rename_i x_; revert x_))
                  first | revert u21 u22 u23 u24 u25 u26 u27 u28 u29 u30 u31 u32 u33 u34 u35 u36 u37 u38 u39 u40 u41 u42 u43 u44 u45 u46 u47 u48 u49 u50 u51 u52 u53 u54 u55 u56 u57 u58 u59 u60 u61 u62 u63 u64 u65 u66 u67 u68 u69 u70 u71 u72 u73 u74 u75 u76 u77 u78 u79 u80 u81 u82 u83 u84 u85 u86 u87 u88 u89 u90 u91 u92 u93 u94 u95 u96 u97 u98 u99 u100 u101 u102 u103 u104 u105 u106 u107 u108 u109 u110 u111 u112 u113 u114 u115 u116 u117 u118 u119 u120 u121 u122 u123 u124 u125 u126 u127 u128 u129 u130 u131 u132 u133 u134 u135 u136 u137 u138 u139 u140 u141 u142 u143 u144 u145 u146 u147 u148 u149 u150 u151 u152 u153 u154 u155 u156 u157 u158 u159 u160 u161 u162 u163 u164 u165 u166 u167 u168 u169 u170 u171 u172 u173 u174 u175 u176 u177 u178 u179 u180 u181 u182 u183 u184 u185 u186 u187 u188 u189 u190 u191 u192 u193 u194 u195 u196 u197 u198 u199 u200 u201 u202 u203 u204 u205 u206 u207 u208 u209 u210 u211 u212 | skip
                  try revert b7
                  try revert b8
                  try revert b9
                  try revert some
                  try revert wc
                  try revert wr
                  try revert HV
                  try revert a0
                  try revert a1
                  try revert a2
                  try revert p0
                  try revert p1
                  try revert x0
                  try revert x1
                  try revert x2
                  try revert x3
                  try revert y0
                  try revert y1
                  try revert y2
                  try revert y3
                  try revert z0
                  try revert z1
                  try revert z2
                  try revert z3
                  try revert f8
                  try revert f9
                  try revert n80
                  try revert n81
                  try revert n82
                  try revert n83
                  try revert n90
                  try revert n91
                  try revert n92
                  try revert n93
                  try revert HV1
                  try revert HV2
                  try revert HV3
                  try revert b7'
                  try revert t
                  try revert yk
                  try revert HV4
                  try revert HV5
                  try revert hK
                  try revert hyk
                  try revert h1
                  try revert h3
                  try revert n
                  try revert hn
                  try revert cmpI
                  try revert cmpS
                  try revert rk
                  try revert HXY
                  try revert ordV
                  try revert HYX
                  try revert p
                  try revert hp
                  try revert q
                  try revert hq
                  try revert HTR
                  try revert e1
                  try revert e2
                  try revert HN
                  try revert HNV
                  try revert h
                  try revert HP
                  try revert HQ
                  try revert HK
                  try revert w1
                  try revert hb
                  try revert HV6
                  try revert w2
                  try revert HV7
                  try revert d1
                  try revert d2
                  try revert d3
                  try revert d4
                  try revert t14
                  try revert H14
                  try revert e
                  revert g_last
                  exact g_3.out
                case rest =>
                  obtain ⟨t15, rfl, H15, rfl⟩ := hcut
                  clear h1 h3
                  have hw1 : IntKind.i64.wrap (-(-1 : Int)) = 1 := by rw [IntKind.wrap_i64]; omega
                  have hw2 : IntKind.i64.wrap (-(0 : Int)) = 0 := by rw [IntKind.wrap_i64]; omega
                  have hw3 : IntKind.i64.wrap (-(1 : Int)) = -1 := by rw [IntKind.wrap_i64]; omega
                  rcases HNV.out with rfl | rfl | rfl
                  · obtain rfl : t14 = false := H14.out.trans rfl
                    obtain rfl : t15 = true := H15.out.trans rfl
                    (repeat (rename_i x_0 x_1 x_2 x_3 x_4 x_5 x_6 x_7 x_8 x_9 x_10 x_11 x_12 x_13 x_14 x_15 x_16 x_17 x_18 x_19 x_20 x_21 x_22 x_23 x_24 x_25 x_26 x_27 x_28 x_29 x_30 x_31 x_32 x_33 x_34 x_35 x_36 x_37 x_38 x_39 x_40 x_41 x_42 x_43 x_44 x_45 x_46 x_47 x_48 x_49 x_50 x_51 x_52 x_53 x_54 x_55 x_56 x_57 x_58 x_59 x_60 x_61 x_62 x_63; revert x_0 x_1 x_2 x_3 x_4 x_5 x_6 x_7 x_8 x_9 x_10 x_11 x_12 x_13 x_14 x_15 x_16 x_17 x_18 x_19 x_20 x_21 x_22 x_23 x_24 x_25 x_26 x_27 x_28 x_29 x_30 x_31 x_32 x_33 x_34 x_35 x_36 x_37 x_38 x_39 x_40 x_41 x_42 x_43 x_44 x_45 x_46 x_47 x_48 x_49 x_50 x_51 x_52 x_53 x_54 x_55 x_56 x_57 x_58 x_59 x_60 x_61 x_62 x_63))
                    (repeat (rename_i x_0 x_1 x_2 x_3 x_4 x_5 x_6 x_7; revert x_0 x_1 x_2 x_3 x_4 x_5 x_6 x_7))
                    (repeat (rename_i x_; revert x_))
                    first | revert u21 u22 u23 u24 u25 u26 u27 u28 u29 u30 u31 u32 u33 u34 u35 u36 u37 u38 u39 u40 u41 u42 u43 u44 u45 u46 u47 u48 u49 u50 u51 u52 u53 u54 u55 u56 u57 u58 u59 u60 u61 u62 u63 u64 u65 u66 u67 u68 u69 u70 u71 u72 u73 u74 u75 u76 u77 u78 u79 u80 u81 u82 u83 u84 u85 u86 u87 u88 u89 u90 u91 u92 u93 u94 u95 u96 u97 u98 u99 u100 u101 u102 u103 u104 u105 u106 u107 u108 u109 u110 u111 u112 u113 u114 u115 u116 u117 u118 u119 u120 u121 u122 u123 u124 u125 u126 u127 u128 u129 u130 u131 u132 u133 u134 u135 u136 u137 u138 u139 u140 u141 u142 u143 u144 u145 u146 u147 u148 u149 u150 u151 u152 u153 u154 u155 u156 u157 u158 u159 u160 u161 u162 u163 u164 u165 u166 u167 u168 u169 u170 u171 u172 u173 u174 u175 u176 u177 u178 u179 u180 u181 u182 u183 u184 u185 u186 u187 u188 u189 u190 u191 u192 u193 u194 u195 u196 u197 u198 u199 u200 u201 u202 u203 u204 u205 u206 u207 u208 u209 u210 u211 u212 | skip
                    try revert b7
                    try revert b8
                    try revert b9
                    try revert some
                    try revert wc
                    try revert wr
                    try revert HV
                    try revert a0
                    try revert a1
                    try revert a2
                    try revert p0
                    try revert p1
                    try revert x0
                    try revert x1
                    try revert x2
                    try revert x3
                    try revert y0
                    try revert y1
                    try revert y2
                    try revert y3
                    try revert z0
                    try revert z1
                    try revert z2
                    try revert z3
                    try revert f8
                    try revert f9
                    try revert n80
                    try revert n81
                    try revert n82
                    try revert n83
                    try revert n90
                    try revert n91
                    try revert n92
                    try revert n93
                    try revert HV1
                    try revert HV2
                    try revert HV3
                    try revert b7'
                    try revert t
                    try revert yk
                    try revert HV4
                    try revert HV5
                    try revert hK
                    try revert hyk
                    try revert h1
                    try revert h3
                    try revert n
                    try revert hn
                    try revert cmpI
                    try revert cmpS
                    try revert rk
                    try revert HXY
                    try revert ordV
                    try revert HYX
                    try revert p
                    try revert hp
                    try revert q
                    try revert hq
                    try revert HTR
                    try revert e1
                    try revert e2
                    try revert HN
                    try revert HNV
                    try revert h
                    try revert HP
                    try revert HQ
                    try revert HK
                    try revert w1
                    try revert hb
                    try revert HV6
                    try revert w2
                    try revert HV7
                    try revert d1
                    try revert d2
                    try revert false
                    try revert d3
                    try revert d4
                    try revert t14
                    try revert H14
                    try revert t15
                    try revert H15
                    try revert hw1
                    try revert hw2
                    try revert hw3
                    try revert true
                    try revert e
                    revert g_last
                    exact g_4.out
                  · obtain rfl : t14 = true := H14.out.trans rfl
                    obtain rfl : t15 = false := H15.out.trans rfl
                    (repeat (rename_i x_0 x_1 x_2 x_3 x_4 x_5 x_6 x_7 x_8 x_9 x_10 x_11 x_12 x_13 x_14 x_15 x_16 x_17 x_18 x_19 x_20 x_21 x_22 x_23 x_24 x_25 x_26 x_27 x_28 x_29 x_30 x_31 x_32 x_33 x_34 x_35 x_36 x_37 x_38 x_39 x_40 x_41 x_42 x_43 x_44 x_45 x_46 x_47 x_48 x_49 x_50 x_51 x_52 x_53 x_54 x_55 x_56 x_57 x_58 x_59 x_60 x_61 x_62 x_63; revert x_0 x_1 x_2 x_3 x_4 x_5 x_6 x_7 x_8 x_9 x_10 x_11 x_12 x_13 x_14 x_15 x_16 x_17 x_18 x_19 x_20 x_21 x_22 x_23 x_24 x_25 x_26 x_27 x_28 x_29 x_30 x_31 x_32 x_33 x_34 x_35 x_36 x_37 x_38 x_39 x_40 x_41 x_42 x_43 x_44 x_45 x_46 x_47 x_48 x_49 x_50 x_51 x_52 x_53 x_54 x_55 x_56 x_57 x_58 x_59 x_60 x_61 x_62 x_63))
                    (repeat (rename_i x_0 x_1 x_2 x_3 x_4 x_5 x_6 x_7; revert x_0 x_1 x_2 x_3 x_4 x_5 x_6 x_7))
                    (repeat (rename_i x_; revert x_))
                    first | revert u21 u22 u23 u24 u25 u26 u27 u28 u29 u30 u31 u32 u33 u34 u35 u36 u37 u38 u39 u40 u41 u42 u43 u44 u45 u46 u47 u48 u49 u50 u51 u52 u53 u54 u55 u56 u57 u58 u59 u60 u61 u62 u63 u64 u65 u66 u67 u68 u69 u70 u71 u72 u73 u74 u75 u76 u77 u78 u79 u80 u81 u82 u83 u84 u85 u86 u87 u88 u89 u90 u91 u92 u93 u94 u95 u96 u97 u98 u99 u100 u101 u102 u103 u104 u105 u106 u107 u108 u109 u110 u111 u112 u113 u114 u115 u116 u117 u118 u119 u120 u121 u122 u123 u124 u125 u126 u127 u128 u129 u130 u131 u132 u133 u134 u135 u136 u137 u138 u139 u140 u141 u142 u143 u144 u145 u146 u147 u148 u149 u150 u151 u152 u153 u154 u155 u156 u157 u158 u159 u160 u161 u162 u163 u164 u165 u166 u167 u168 u169 u170 u171 u172 u173 u174 u175 u176 u177 u178 u179 u180 u181 u182 u183 u184 u185 u186 u187 u188 u189 u190 u191 u192 u193 u194 u195 u196 u197 u198 u199 u200 u201 u202 u203 u204 u205 u206 u207 u208 u209 u210 u211 u212 | skip
                    try revert b7
                    try revert b8
                    try revert b9
                    try revert some
                    try revert wc
                    try revert wr
                    try revert HV
                    try revert a0
                    try revert a1
                    try revert a2
                    try revert p0
                    try revert p1
                    try revert x0
                    try revert x1
                    try revert x2
                    try revert x3
                    try revert y0
                    try revert y1
                    try revert y2
                    try revert y3
                    try revert z0
                    try revert z1
                    try revert z2
                    try revert z3
                    try revert f8
                    try revert f9
                    try revert n80
                    try revert n81
                    try revert n82
                    try revert n83
                    try revert n90
                    try revert n91
                    try revert n92
                    try revert n93
                    try revert HV1
                    try revert HV2
                    try revert HV3
                    try revert b7'
                    try revert t
                    try revert yk
                    try revert HV4
                    try revert HV5
                    try revert hK
                    try revert hyk
                    try revert h1
                    try revert h3
                    try revert n
                    try revert hn
                    try revert cmpI
                    try revert cmpS
                    try revert rk
                    try revert HXY
                    try revert ordV
                    try revert HYX
                    try revert p
                    try revert hp
                    try revert q
                    try revert hq
                    try revert HTR
                    try revert e1
                    try revert e2
                    try revert HN
                    try revert HNV
                    try revert h
                    try revert HP
                    try revert HQ
                    try revert HK
                    try revert w1
                    try revert hb
                    try revert HV6
                    try revert w2
                    try revert HV7
                    try revert d1
                    try revert d2
                    try revert false
                    try revert d3
                    try revert d4
                    try revert t14
                    try revert H14
                    try revert t15
                    try revert H15
                    try revert hw1
                    try revert hw2
                    try revert hw3
                    try revert true
                    try revert e
                    revert g_last
                    exact g_5.out
                  · obtain rfl : t14 = false := H14.out.trans rfl
                    obtain rfl : t15 = false := H15.out.trans rfl
                    (repeat (rename_i x_0 x_1 x_2 x_3 x_4 x_5 x_6 x_7 x_8 x_9 x_10 x_11 x_12 x_13 x_14 x_15 x_16 x_17 x_18 x_19 x_20 x_21 x_22 x_23 x_24 x_25 x_26 x_27 x_28 x_29 x_30 x_31 x_32 x_33 x_34 x_35 x_36 x_37 x_38 x_39 x_40 x_41 x_42 x_43 x_44 x_45 x_46 x_47 x_48 x_49 x_50 x_51 x_52 x_53 x_54 x_55 x_56 x_57 x_58 x_59 x_60 x_61 x_62 x_63; revert x_0 x_1 x_2 x_3 x_4 x_5 x_6 x_7 x_8 x_9 x_10 x_11 x_12 x_13 x_14 x_15 x_16 x_17 x_18 x_19 x_20 x_21 x_22 x_23 x_24 x_25 x_26 x_27 x_28 x_29 x_30 x_31 x_32 x_33 x_34 x_35 x_36 x_37 x_38 x_39 x_40 x_41 x_42 x_43 x_44 x_45 x_46 x_47 x_48 x_49 x_50 x_51 x_52 x_53 x_54 x_55 x_56 x_57 x_58 x_59 x_60 x_61 x_62 x_63))
                    (repeat (rename_i x_0 x_1 x_2 x_3 x_4 x_5 x_6 x_7; revert x_0 x_1 x_2 x_3 x_4 x_5 x_6 x_7))
                    (repeat (rename_i x_; revert x_))
                    first | revert u21 u22 u23 u24 u25 u26 u27 u28 u29 u30 u31 u32 u33 u34 u35 u36 u37 u38 u39 u40 u41 u42 u43 u44 u45 u46 u47 u48 u49 u50 u51 u52 u53 u54 u55 u56 u57 u58 u59 u60 u61 u62 u63 u64 u65 u66 u67 u68 u69 u70 u71 u72 u73 u74 u75 u76 u77 u78 u79 u80 u81 u82 u83 u84 u85 u86 u87 u88 u89 u90 u91 u92 u93 u94 u95 u96 u97 u98 u99 u100 u101 u102 u103 u104 u105 u106 u107 u108 u109 u110 u111 u112 u113 u114 u115 u116 u117 u118 u119 u120 u121 u122 u123 u124 u125 u126 u127 u128 u129 u130 u131 u132 u133 u134 u135 u136 u137 u138 u139 u140 u141 u142 u143 u144 u145 u146 u147 u148 u149 u150 u151 u152 u153 u154 u155 u156 u157 u158 u159 u160 u161 u162 u163 u164 u165 u166 u167 u168 u169 u170 u171 u172 u173 u174 u175 u176 u177 u178 u179 u180 u181 u182 u183 u184 u185 u186 u187 u188 u189 u190 u191 u192 u193 u194 u195 u196 u197 u198 u199 u200 u201 u202 u203 u204 u205 u206 u207 u208 u209 u210 u211 u212 | skip
                    try revert b7
                    try revert b8
                    try revert b9
                    try revert some
                    try revert wc
                    try revert wr
                    try revert HV
                    try revert a0
                    try revert a1
                    try revert a2
                    try revert p0
                    try revert p1
                    try revert x0
                    try revert x1
                    try revert x2
                    try revert x3
                    try revert y0
                    try revert y1
                    try revert y2
                    try revert y3
                    try revert z0
                    try revert z1
                    try revert z2
                    try revert z3
                    try revert f8
                    try revert f9
                    try revert n80
                    try revert n81
                    try revert n82
                    try revert n83
                    try revert n90
                    try revert n91
                    try revert n92
                    try revert n93
                    try revert HV1
                    try revert HV2
                    try revert HV3
                    try revert b7'
                    try revert t
                    try revert yk
                    try revert HV4
                    try revert HV5
                    try revert hK
                    try revert hyk
                    try revert h1
                    try revert h3
                    try revert n
                    try revert hn
                    try revert cmpI
                    try revert cmpS
                    try revert rk
                    try revert HXY
                    try revert ordV
                    try revert HYX
                    try revert p
                    try revert hp
                    try revert q
                    try revert hq
                    try revert HTR
                    try revert e1
                    try revert e2
                    try revert HN
                    try revert HNV
                    try revert h
                    try revert HP
                    try revert HQ
                    try revert HK
                    try revert w1
                    try revert hb
                    try revert HV6
                    try revert w2
                    try revert HV7
                    try revert d1
                    try revert d2
                    try revert false
                    try revert d3
                    try revert d4
                    try revert t14
                    try revert H14
                    try revert t15
                    try revert H15
                    try revert hw1
                    try revert hw2
                    try revert hw3
                    try revert true
                    try revert e
                    revert g_last
                    exact g_6.out
            ·
              (repeat (rename_i x_0 x_1 x_2 x_3 x_4 x_5 x_6 x_7 x_8 x_9 x_10 x_11 x_12 x_13 x_14 x_15 x_16 x_17 x_18 x_19 x_20 x_21 x_22 x_23 x_24 x_25 x_26 x_27 x_28 x_29 x_30 x_31 x_32 x_33 x_34 x_35 x_36 x_37 x_38 x_39 x_40 x_41 x_42 x_43 x_44 x_45 x_46 x_47 x_48 x_49 x_50 x_51 x_52 x_53 x_54 x_55 x_56 x_57 x_58 x_59 x_60 x_61 x_62 x_63; revert x_0 x_1 x_2 x_3 x_4 x_5 x_6 x_7 x_8 x_9 x_10 x_11 x_12 x_13 x_14 x_15 x_16 x_17 x_18 x_19 x_20 x_21 x_22 x_23 x_24 x_25 x_26 x_27 x_28 x_29 x_30 x_31 x_32 x_33 x_34 x_35 x_36 x_37 x_38 x_39 x_40 x_41 x_42 x_43 x_44 x_45 x_46 x_47 x_48 x_49 x_50 x_51 x_52 x_53 x_54 x_55 x_56 x_57 x_58 x_59 x_60 x_61 x_62 x_63))
              (repeat (rename_i x_0 x_1 x_2 x_3 x_4 x_5 x_6 x_7; revert x_0 x_1 x_2 x_3 x_4 x_5 x_6 x_7))
              (repeat (rename_i x_; revert x_))
              first | revert u21 u22 u23 u24 u25 u26 u27 u28 u29 u30 u31 u32 u33 u34 u35 u36 u37 u38 u39 u40 u41 u42 u43 u44 u45 u46 u47 u48 u49 u50 u51 u52 u53 u54 u55 u56 u57 u58 u59 u60 u61 u62 u63 u64 u65 u66 u67 u68 u69 u70 u71 u72 u73 u74 u75 u76 u77 u78 u79 u80 u81 u82 u83 u84 u85 u86 u87 u88 u89 u90 u91 u92 u93 u94 u95 u96 u97 u98 u99 u100 u101 u102 u103 u104 u105 u106 u107 u108 u109 u110 u111 u112 u113 u114 u115 u116 u117 u118 u119 u120 u121 u122 u123 u124 u125 u126 u127 u128 u129 u130 u131 u132 u133 u134 u135 u136 u137 u138 u139 u140 u141 u142 u143 u144 u145 u146 u147 u148 u149 u150 u151 u152 u153 u154 u155 u156 u157 u158 u159 u160 u161 u162 u163 u164 u165 u166 u167 u168 u169 u170 u171 u172 u173 u174 u175 u176 u177 u178 u179 u180 u181 u182 u183 u184 u185 u186 u187 u188 u189 u190 u191 u192 u193 u194 u195 u196 u197 u198 u199 u200 u201 u202 u203 u204 u205 u206 u207 u208 u209 u210 u211 u212 | skip
              try revert b7
              try revert b8
              try revert b9
              try revert some
              try revert wc
              try revert wr
              try revert HV
              try revert a0
              try revert a1
              try revert a2
              try revert p0
              try revert p1
              try revert x0
              try revert x1
              try revert x2
              try revert x3
              try revert y0
              try revert y1
              try revert y2
              try revert y3
              try revert z0
              try revert z1
              try revert z2
              try revert z3
              try revert f8
              try revert f9
              try revert n80
              try revert n81
              try revert n82
              try revert n83
              try revert n90
              try revert n91
              try revert n92
              try revert n93
              try revert HV1
              try revert HV2
              try revert HV3
              try revert b7'
              try revert t
              try revert yk
              try revert HV4
              try revert HV5
              try revert hK
              try revert hyk
              try revert h1
              try revert h3
              try revert n
              try revert hn
              try revert cmpI
              try revert cmpS
              try revert rk
              try revert HXY
              try revert ordV
              try revert HYX
              try revert p
              try revert hp
              try revert q
              try revert hq
              try revert HTR
              try revert e1
              try revert e2
              try revert HN
              try revert HNV
              try revert h
              try revert HP
              try revert HQ
              try revert HK
              try revert w1
              try revert hb
              try revert HV6
              try revert w2
              try revert HV7
              try revert d1
              try revert d2
              try revert false
              try revert d3
              try revert d4
              try revert t14
              try revert H14
              try revert t15
              try revert H15
              try revert hw1
              try revert hw2
              try revert hw3
              try revert true
              try revert e
              revert g_last
              exact g_7.out
end Go.Proofs.YtlpkeinablekpaaDoor.Vd
