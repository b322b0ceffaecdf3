/- The law EventOrder: the events that are sorted; the first of its walk: a leaf. -/
import Derived.Test.YtookojgemipakaaDoorE6P
import Derived.Deep.RegionHeld
namespace Go.Proofs.YtookojgemipakaaDoor.E6
open Go.RowKit Go.Proofs.YtookojgemipakaaDoor Go.Proofs.YtookojgemipakaaDoor.Door Go.Proofs.YtookojgemipakaaDoor.Ev Go.Proofs.YtookojgemipakaaDoor.Sch Go.Proofs.YtookojgemipakaaDoor.Ty Go.Proofs.YtookojgemipakaaDoor.Evl Go.Proofs.YtookojgemipakaaDoor.E4
set_option linter.unusedVariables false
set_option maxRecDepth 100000
set_option maxHeartbeats 8000000 in
theorem part_E6P_g1 (A : Option Addr) (n c : Nat) (F : Nat → EI) (at' : Int) (w : World) (hnc : n ≤ c) (hc : c ≤ 9223372036854775807) (HL : Hid (ELies w w.heap.size A n F)) (HMM : Hid (ML w)) : (part_E6P A n c F at' w hnc hc HL HMM).G1 := by
  delta part_E6P
  intro g_last
  unhygienic intros
  have HB : Hid (Below wr.heap.size wr wr.drew) := (Below.refl _ wr).drew
  refine wp_region_noPanic ?_
  refine wp_region_held_drew (S := (fun X => X.cell? ⟨g1, o1 + i * 5, none⟩ = some (.string x.ty) ∧ X.cell? ⟨g1, o1 + i * 5 + 1, none⟩ = some (.string x.key) ∧ X.cell? ⟨g1, o1 + i * 5 + 2, none⟩ = some (.int .i64 x.t) ∧ X.cell? ⟨g1, o1 + i * 5 + 3, none⟩ = some (.int .i64 x.q) ∧ X.cell? ⟨g1, o1 + i * 5 + 4, none⟩ = some (.slice A1 n1 c1) ∧ X.cell? ⟨g1, o1 + k * 5, none⟩ = some (.string y.ty) ∧ X.cell? ⟨g1, o1 + k * 5 + 1, none⟩ = some (.string y.key) ∧ X.cell? ⟨g1, o1 + k * 5 + 2, none⟩ = some (.int .i64 y.t) ∧ X.cell? ⟨g1, o1 + k * 5 + 3, none⟩ = some (.int .i64 y.q) ∧ X.cell? ⟨g1, o1 + k * 5 + 4, none⟩ = some (.slice A2 n2 c2))) (by kernel_rfl) ?_ (fun hHeld => ?_)
  · exact HS.out _ HB.out
  generalize wr.drew = X0 at HB hHeld ⊢
  refine take_at 0 59 _ (v := ?v0) rfl rfl (by kernel_rfl) (by kernel_rfl) (by kernel_rfl) (fun _ _ _ h => h) (Or.inl ⟨by rfl, ?hy0⟩) (by assumption) ?rest0
  case hy0 =>
    intro wX hSw
    try dsimp only at hSw
    go_simp
    first
    | done
    | (with_reducible rfl)
  try simp only [Act.put, List.setIfInBounds_toArray, List.set_cons_zero, List.set_cons_succ]
  refine take_at 1 60 _ (v := ?v1) rfl rfl (by kernel_rfl) (by kernel_rfl) (by kernel_rfl) (fun _ _ _ h => h) (Or.inl ⟨by rfl, ?hy1⟩) (by assumption) ?rest1
  case hy1 =>
    intro wX hSw
    try dsimp only at hSw
    go_simp
    first
    | done
    | (with_reducible rfl)
  try simp only [Act.put, List.setIfInBounds_toArray, List.set_cons_zero, List.set_cons_succ]
  refine take_at 2 61 _ (v := ?v2) rfl rfl (by kernel_rfl) (by kernel_rfl) (by kernel_rfl) (fun _ _ _ h => h) (Or.inl ⟨by rfl, ?hy2⟩) (by assumption) ?rest2
  case hy2 =>
    intro wX hSw
    try dsimp only at hSw
    go_simp
    first
    | done
    | (with_reducible rfl)
  try simp only [Act.put, List.setIfInBounds_toArray, List.set_cons_zero, List.set_cons_succ]
  refine take_at 3 62 _ (v := ?v3) rfl rfl (by kernel_rfl) (by kernel_rfl) (by kernel_rfl) (fun _ _ _ h => h) (Or.inl ⟨by rfl, ?hy3⟩) (by assumption) ?rest3
  case hy3 =>
    intro wX hSw
    try dsimp only at hSw
    go_simp
    first
    | done
    | (with_reducible rfl)
  try simp only [Act.put, List.setIfInBounds_toArray, List.set_cons_zero, List.set_cons_succ]
  refine take_at 5 64 _ (v := ?v5) rfl rfl (by kernel_rfl) (by kernel_rfl) (by kernel_rfl) (fun _ _ _ h => h) (Or.inl ⟨by rfl, ?hy5⟩) (by assumption) ?rest5
  case hy5 =>
    intro wX hSw
    try dsimp only at hSw
    go_simp
    first
    | done
    | (with_reducible rfl)
  try simp only [Act.put, List.setIfInBounds_toArray, List.set_cons_zero, List.set_cons_succ]
  refine take_at 6 65 _ (v := ?v6) rfl rfl (by kernel_rfl) (by kernel_rfl) (by kernel_rfl) (fun _ _ _ h => h) (Or.inl ⟨by rfl, ?hy6⟩) (by assumption) ?rest6
  case hy6 =>
    intro wX hSw
    try dsimp only at hSw
    go_simp
    first
    | done
    | (with_reducible rfl)
  try simp only [Act.put, List.setIfInBounds_toArray, List.set_cons_zero, List.set_cons_succ]
  refine take_at 7 66 _ (v := ?v7) rfl rfl (by kernel_rfl) (by kernel_rfl) (by kernel_rfl) (fun _ _ _ h => h) (Or.inl ⟨by rfl, ?hy7⟩) (by assumption) ?rest7
  case hy7 =>
    intro wX hSw
    try dsimp only at hSw
    go_simp
    first
    | done
    | (with_reducible rfl)
  try simp only [Act.put, List.setIfInBounds_toArray, List.set_cons_zero, List.set_cons_succ]
  refine take_at 8 67 _ (v := ?v8) rfl rfl (by kernel_rfl) (by kernel_rfl) (by kernel_rfl) (fun _ _ _ h => h) (Or.inl ⟨by rfl, ?hy8⟩) (by assumption) ?rest8
  case hy8 =>
    intro wX hSw
    try dsimp only at hSw
    go_simp
    first
    | done
    | (with_reducible rfl)
  try simp only [Act.put, List.setIfInBounds_toArray, List.set_cons_zero, List.set_cons_succ]
  refine take_at 9 68 _ (v := ?v9) rfl rfl (by kernel_rfl) (by kernel_rfl) (by kernel_rfl) (fun _ _ _ h => h) (Or.inl ⟨by rfl, ?hy9⟩) (by assumption) ?rest9
  case hy9 =>
    intro wX hSw
    try dsimp only at hSw
    go_simp
    first
    | done
    | (with_reducible rfl)
  try simp only [Act.put, List.setIfInBounds_toArray, List.set_cons_zero, List.set_cons_succ]
  clear hHeld
  refine wpAnyH_ready (rs := [4, 11, 12]) (by kernel_rfl) (by simp) ?_
  refine AllReadyH.cons rfl (fun K hK => ?_) ?_
  · go_simp
    go_at_call 16
    (with_reducible refine (stamp_any _ _ _ _ _ _ _ _ _).mono ?_)
    rintro e z1 ⟨rfl, hb⟩
    have h3 := HB.out.trans (hb.mono HB.out.size)
    clear HB
    have HB := Lib.hid h3
    clear hb h3
    try go_wp2_with fail
    refine hK.out _ _ ?_ (fun hHeld => ?_)
    · with_reducible exact HS.out _ HB.out
    clear hK K hHeld
    try simp only [Act.put, List.setIfInBounds_toArray, List.set_cons_zero, List.set_cons_succ]
    refine wpAnyH_ready (rs := [10, 11, 12]) (by kernel_rfl) (by simp) ?_
    refine AllReadyH.cons rfl (fun K hK => ?_) ?_
    · go_simp
      go_at_call 16
      (with_reducible refine (stamp_any _ _ _ _ _ _ _ _ _).mono ?_)
      rintro e z2 ⟨rfl, hb⟩
      have h3 := HB.out.trans (hb.mono HB.out.size)
      clear HB
      have HB := Lib.hid h3
      clear hb h3
      try go_wp2_with fail
      refine hK.out _ _ ?_ (fun hHeld => ?_)
      · with_reducible exact HS.out _ HB.out
      clear hK K hHeld
      try simp only [Act.put, List.setIfInBounds_toArray, List.set_cons_zero, List.set_cons_succ]
      refine wpAnyH_ready (rs := [11, 12]) (by kernel_rfl) (by simp) ?_
      refine AllReadyH.cons rfl (fun K hK => ?_) ?_
      · go_simp
        try go_wp2_with fail
        have h3 := HB.out.alloc HB.out.size (.cells #[.int .i64 0, .int .i64 0, .int .i64 0] 43)
        refine hK.out _ _ ?_ (fun hHeld => ?_)
        · with_reducible exact HS.out _ h3
        clear hK K hHeld
        try simp only [Act.put, List.setIfInBounds_toArray, List.set_cons_zero, List.set_cons_succ]
        have hm := Row.made z2 43 #[.int .i64 0, .int .i64 0, .int .i64 0]
        have hge := HB.out.size
        clear HB
        generalize z2.alloc (.cells #[.int .i64 0, .int .i64 0, .int .i64 0] 43) = z3 at h3 hm hge ⊢
        generalize z2.heap.size = ba at h3 hm hge ⊢
        have HB := Lib.hid h3
        have HA := Lib.hid hm
        have Gba := Lib.hid hge
        clear h3 hm hge
        refine wpAnyH_ready (rs := [12]) (by kernel_rfl) (by simp) ?_
        refine AllReadyH.cons rfl (fun K hK => ?_) AllReadyH.nil
        go_simp
        try go_wp2_with fail
        have h3 := HB.out.alloc HB.out.size (.cells #[.int .i64 0, .int .i64 0, .int .i64 0] 43)
        refine hK.out _ _ ?_ (fun hHeld => ?_)
        · with_reducible exact HS.out _ h3
        clear hK K hHeld
        try simp only [Act.put, List.setIfInBounds_toArray, List.set_cons_zero, List.set_cons_succ]
        have hm := Row.made z3 43 #[.int .i64 0, .int .i64 0, .int .i64 0]
        have hge := HB.out.size
        have ho := Row.alloc HA.out (.cells #[.int .i64 0, .int .i64 0, .int .i64 0] 43)
        have hlo := HA.out.lt
        clear HA
        clear HB
        generalize z3.alloc (.cells #[.int .i64 0, .int .i64 0, .int .i64 0] 43) = z4 at h3 hm hge ho hlo ⊢
        generalize z3.heap.size = bb at h3 hm hge ho hlo ⊢
        have HB := Lib.hid h3
        have HC := Lib.hid hm
        have Gbb := Lib.hid hge
        clear h3 hm hge
        have HA := Lib.hid ho
        have HNE := Lib.hid (show ba ≠ bb by omega)
        clear ho hlo
        refine wpAnyH_ready (rs := [13]) (by kernel_rfl) (by simp) ?_
        refine AllReadyH.cons rfl (fun K hK => ?_) AllReadyH.nil
        have f2 : z4.frozen? ⟨ba, 2, none⟩ = false := HA.out.free 2
        have v2 : z4.cell? ⟨ba, 2, none⟩ = some (.int .i64 0) := (HA.out.cell 2).trans rfl
        have f1 : z4.frozen? ⟨ba, 1, none⟩ = false := HA.out.free 1
        have v1 : z4.cell? ⟨ba, 1, none⟩ = some (.int .i64 0) := (HA.out.cell 1).trans rfl
        have f0 : z4.frozen? ⟨ba, 0, none⟩ = false := HA.out.free 0
        have v0 : z4.cell? ⟨ba, 0, none⟩ = some (.int .i64 0) := (HA.out.cell 0).trans rfl
        go_simp
        try go_wp2_with fail
        have h3 := (((HB.out.setCell (p := ⟨ba, 0, none⟩) Gba.out (.int .i64 x.t)).setCell (p := ⟨ba, 1, none⟩) Gba.out (.int .i64 x.q)).setCell (p := ⟨ba, 2, none⟩) Gba.out (.int .i64 5))
        have hm := put3 HA.out (.int .i64 x.t) (.int .i64 x.q) (.int .i64 5)
        have ho := (((HC.out.past (p := ⟨ba, 0, none⟩) (fun e => HNE.out e.symm) (.int .i64 x.t)).past (p := ⟨ba, 1, none⟩) (fun e => HNE.out e.symm) (.int .i64 x.q)).past (p := ⟨ba, 2, none⟩) (fun e => HNE.out e.symm) (.int .i64 5))
        refine hK.out _ _ ?_ (fun hHeld => ?_)
        · with_reducible exact HS.out _ h3
        clear hK K hHeld f0 f1 f2 v0 v1 v2
        try simp only [Act.put, List.setIfInBounds_toArray, List.set_cons_zero, List.set_cons_succ]
        clear HB HA HC
        generalize (((z4.setCell ⟨ba, 0, none⟩ (.int .i64 x.t)).setCell ⟨ba, 1, none⟩ (.int .i64 x.q)).setCell ⟨ba, 2, none⟩ (.int .i64 5)) = z5 at h3 hm ho ⊢
        have HB := Lib.hid h3
        have HA := Lib.hid hm
        have HC := Lib.hid ho
        clear h3 hm ho
        refine wpAnyH_ready (rs := [14]) (by kernel_rfl) (by simp) ?_
        refine AllReadyH.cons rfl (fun K hK => ?_) AllReadyH.nil
        have f2 : z5.frozen? ⟨bb, 2, none⟩ = false := HC.out.free 2
        have v2 : z5.cell? ⟨bb, 2, none⟩ = some (.int .i64 0) := (HC.out.cell 2).trans rfl
        have f1 : z5.frozen? ⟨bb, 1, none⟩ = false := HC.out.free 1
        have v1 : z5.cell? ⟨bb, 1, none⟩ = some (.int .i64 0) := (HC.out.cell 1).trans rfl
        have f0 : z5.frozen? ⟨bb, 0, none⟩ = false := HC.out.free 0
        have v0 : z5.cell? ⟨bb, 0, none⟩ = some (.int .i64 0) := (HC.out.cell 0).trans rfl
        go_simp
        try go_wp2_with fail
        have h3 := (((HB.out.setCell (p := ⟨bb, 0, none⟩) Gbb.out (.int .i64 y.t)).setCell (p := ⟨bb, 1, none⟩) Gbb.out (.int .i64 y.q)).setCell (p := ⟨bb, 2, none⟩) Gbb.out (.int .i64 at'))
        have hm := put3 HC.out (.int .i64 y.t) (.int .i64 y.q) (.int .i64 at')
        have ho := (((HA.out.past (p := ⟨bb, 0, none⟩) HNE.out (.int .i64 y.t)).past (p := ⟨bb, 1, none⟩) HNE.out (.int .i64 y.q)).past (p := ⟨bb, 2, none⟩) HNE.out (.int .i64 at'))
        refine hK.out _ _ ?_ (fun hHeld => ?_)
        · with_reducible exact HS.out _ h3
        clear hK K hHeld f0 f1 f2 v0 v1 v2
        try simp only [Act.put, List.setIfInBounds_toArray, List.set_cons_zero, List.set_cons_succ]
        clear HB HC HA
        generalize (((z5.setCell ⟨bb, 0, none⟩ (.int .i64 y.t)).setCell ⟨bb, 1, none⟩ (.int .i64 y.q)).setCell ⟨bb, 2, none⟩ (.int .i64 at')) = z6 at h3 hm ho ⊢
        have HB := Lib.hid h3
        have HC := Lib.hid hm
        have HA := Lib.hid ho
        clear h3 hm ho
        refine wpAnyH_done (by kernel_rfl) ?_ _
        refine NoPanic.normal ?_
        go_wp2
        go_meet
        exact ⟨ba, bb, rfl, rfl, Lib.hid ⟨HB.out, HA.out, HC.out⟩⟩
      refine AllReadyH.cons rfl (fun K hK => ?_) AllReadyH.nil
      go_simp
      try go_wp2_with fail
      have h3 := HB.out.alloc HB.out.size (.cells #[.int .i64 0, .int .i64 0, .int .i64 0] 43)
      refine hK.out _ _ ?_ (fun hHeld => ?_)
      · with_reducible exact HS.out _ h3
      clear hK K hHeld
      try simp only [Act.put, List.setIfInBounds_toArray, List.set_cons_zero, List.set_cons_succ]
      have hm := Row.made z2 43 #[.int .i64 0, .int .i64 0, .int .i64 0]
      have hge := HB.out.size
      clear HB
      generalize z2.alloc (.cells #[.int .i64 0, .int .i64 0, .int .i64 0] 43) = z7 at h3 hm hge ⊢
      generalize z2.heap.size = bb at h3 hm hge ⊢
      have HB := Lib.hid h3
      have HC := Lib.hid hm
      have Gbb := Lib.hid hge
      clear h3 hm hge
      refine wpAnyH_ready (rs := [11]) (by kernel_rfl) (by simp) ?_
      refine AllReadyH.cons rfl (fun K hK => ?_) AllReadyH.nil
      go_simp
      try go_wp2_with fail
      have h3 := HB.out.alloc HB.out.size (.cells #[.int .i64 0, .int .i64 0, .int .i64 0] 43)
      refine hK.out _ _ ?_ (fun hHeld => ?_)
      · with_reducible exact HS.out _ h3
      clear hK K hHeld
      try simp only [Act.put, List.setIfInBounds_toArray, List.set_cons_zero, List.set_cons_succ]
      have hm := Row.made z7 43 #[.int .i64 0, .int .i64 0, .int .i64 0]
      have hge := HB.out.size
      have ho := Row.alloc HC.out (.cells #[.int .i64 0, .int .i64 0, .int .i64 0] 43)
      have hlo := HC.out.lt
      clear HC
      clear HB
      generalize z7.alloc (.cells #[.int .i64 0, .int .i64 0, .int .i64 0] 43) = z8 at h3 hm hge ho hlo ⊢
      generalize z7.heap.size = ba at h3 hm hge ho hlo ⊢
      have HB := Lib.hid h3
      have HA := Lib.hid hm
      have Gba := Lib.hid hge
      clear h3 hm hge
      have HC := Lib.hid ho
      have HNE := Lib.hid (show ba ≠ bb by omega)
      clear ho hlo
      refine wpAnyH_ready (rs := [13]) (by kernel_rfl) (by simp) ?_
      refine AllReadyH.cons rfl (fun K hK => ?_) AllReadyH.nil
      have f2 : z8.frozen? ⟨ba, 2, none⟩ = false := HA.out.free 2
      have v2 : z8.cell? ⟨ba, 2, none⟩ = some (.int .i64 0) := (HA.out.cell 2).trans rfl
      have f1 : z8.frozen? ⟨ba, 1, none⟩ = false := HA.out.free 1
      have v1 : z8.cell? ⟨ba, 1, none⟩ = some (.int .i64 0) := (HA.out.cell 1).trans rfl
      have f0 : z8.frozen? ⟨ba, 0, none⟩ = false := HA.out.free 0
      have v0 : z8.cell? ⟨ba, 0, none⟩ = some (.int .i64 0) := (HA.out.cell 0).trans rfl
      go_simp
      try go_wp2_with fail
      have h3 := (((HB.out.setCell (p := ⟨ba, 0, none⟩) Gba.out (.int .i64 x.t)).setCell (p := ⟨ba, 1, none⟩) Gba.out (.int .i64 x.q)).setCell (p := ⟨ba, 2, none⟩) Gba.out (.int .i64 5))
      have hm := put3 HA.out (.int .i64 x.t) (.int .i64 x.q) (.int .i64 5)
      have ho := (((HC.out.past (p := ⟨ba, 0, none⟩) (fun e => HNE.out e.symm) (.int .i64 x.t)).past (p := ⟨ba, 1, none⟩) (fun e => HNE.out e.symm) (.int .i64 x.q)).past (p := ⟨ba, 2, none⟩) (fun e => HNE.out e.symm) (.int .i64 5))
      refine hK.out _ _ ?_ (fun hHeld => ?_)
      · with_reducible exact HS.out _ h3
      clear hK K hHeld f0 f1 f2 v0 v1 v2
      try simp only [Act.put, List.setIfInBounds_toArray, List.set_cons_zero, List.set_cons_succ]
      clear HB HA HC
      generalize (((z8.setCell ⟨ba, 0, none⟩ (.int .i64 x.t)).setCell ⟨ba, 1, none⟩ (.int .i64 x.q)).setCell ⟨ba, 2, none⟩ (.int .i64 5)) = z9 at h3 hm ho ⊢
      have HB := Lib.hid h3
      have HA := Lib.hid hm
      have HC := Lib.hid ho
      clear h3 hm ho
      refine wpAnyH_ready (rs := [14]) (by kernel_rfl) (by simp) ?_
      refine AllReadyH.cons rfl (fun K hK => ?_) AllReadyH.nil
      have f2 : z9.frozen? ⟨bb, 2, none⟩ = false := HC.out.free 2
      have v2 : z9.cell? ⟨bb, 2, none⟩ = some (.int .i64 0) := (HC.out.cell 2).trans rfl
      have f1 : z9.frozen? ⟨bb, 1, none⟩ = false := HC.out.free 1
      have v1 : z9.cell? ⟨bb, 1, none⟩ = some (.int .i64 0) := (HC.out.cell 1).trans rfl
      have f0 : z9.frozen? ⟨bb, 0, none⟩ = false := HC.out.free 0
      have v0 : z9.cell? ⟨bb, 0, none⟩ = some (.int .i64 0) := (HC.out.cell 0).trans rfl
      go_simp
      try go_wp2_with fail
      have h3 := (((HB.out.setCell (p := ⟨bb, 0, none⟩) Gbb.out (.int .i64 y.t)).setCell (p := ⟨bb, 1, none⟩) Gbb.out (.int .i64 y.q)).setCell (p := ⟨bb, 2, none⟩) Gbb.out (.int .i64 at'))
      have hm := put3 HC.out (.int .i64 y.t) (.int .i64 y.q) (.int .i64 at')
      have ho := (((HA.out.past (p := ⟨bb, 0, none⟩) HNE.out (.int .i64 y.t)).past (p := ⟨bb, 1, none⟩) HNE.out (.int .i64 y.q)).past (p := ⟨bb, 2, none⟩) HNE.out (.int .i64 at'))
      refine hK.out _ _ ?_ (fun hHeld => ?_)
      · with_reducible exact HS.out _ h3
      clear hK K hHeld f0 f1 f2 v0 v1 v2
      try simp only [Act.put, List.setIfInBounds_toArray, List.set_cons_zero, List.set_cons_succ]
      clear HB HC HA
      generalize (((z9.setCell ⟨bb, 0, none⟩ (.int .i64 y.t)).setCell ⟨bb, 1, none⟩ (.int .i64 y.q)).setCell ⟨bb, 2, none⟩ (.int .i64 at')) = z10 at h3 hm ho ⊢
      have HB := Lib.hid h3
      have HC := Lib.hid hm
      have HA := Lib.hid ho
      clear h3 hm ho
      refine wpAnyH_done (by kernel_rfl) ?_ _
      refine NoPanic.normal ?_
      go_wp2
      go_meet
      exact ⟨ba, bb, rfl, rfl, Lib.hid ⟨HB.out, HA.out, HC.out⟩⟩
    refine AllReadyH.cons rfl (fun K hK => ?_) ?_
    · go_simp
      try go_wp2_with fail
      have h3 := HB.out.alloc HB.out.size (.cells #[.int .i64 0, .int .i64 0, .int .i64 0] 43)
      refine hK.out _ _ ?_ (fun hHeld => ?_)
      · with_reducible exact HS.out _ h3
      clear hK K hHeld
      try simp only [Act.put, List.setIfInBounds_toArray, List.set_cons_zero, List.set_cons_succ]
      have hm := Row.made z1 43 #[.int .i64 0, .int .i64 0, .int .i64 0]
      have hge := HB.out.size
      clear HB
      generalize z1.alloc (.cells #[.int .i64 0, .int .i64 0, .int .i64 0] 43) = z11 at h3 hm hge ⊢
      generalize z1.heap.size = ba at h3 hm hge ⊢
      have HB := Lib.hid h3
      have HA := Lib.hid hm
      have Gba := Lib.hid hge
      clear h3 hm hge
      refine wpAnyH_ready (rs := [10, 12]) (by kernel_rfl) (by simp) ?_
      refine AllReadyH.cons rfl (fun K hK => ?_) ?_
      · go_simp
        go_at_call 16
        (with_reducible refine (stamp_any _ _ _ _ _ _ _ _ _).mono ?_)
        rintro e z12 ⟨rfl, hb⟩
        have ha := Row.below HA.out hb HA.out.lt
        clear HA
        have HA := Lib.hid ha
        clear ha
        have h3 := HB.out.trans (hb.mono HB.out.size)
        clear HB
        have HB := Lib.hid h3
        clear hb h3
        try go_wp2_with fail
        refine hK.out _ _ ?_ (fun hHeld => ?_)
        · with_reducible exact HS.out _ HB.out
        clear hK K hHeld
        try simp only [Act.put, List.setIfInBounds_toArray, List.set_cons_zero, List.set_cons_succ]
        refine wpAnyH_ready (rs := [12]) (by kernel_rfl) (by simp) ?_
        refine AllReadyH.cons rfl (fun K hK => ?_) AllReadyH.nil
        go_simp
        try go_wp2_with fail
        have h3 := HB.out.alloc HB.out.size (.cells #[.int .i64 0, .int .i64 0, .int .i64 0] 43)
        refine hK.out _ _ ?_ (fun hHeld => ?_)
        · with_reducible exact HS.out _ h3
        clear hK K hHeld
        try simp only [Act.put, List.setIfInBounds_toArray, List.set_cons_zero, List.set_cons_succ]
        have hm := Row.made z12 43 #[.int .i64 0, .int .i64 0, .int .i64 0]
        have hge := HB.out.size
        have ho := Row.alloc HA.out (.cells #[.int .i64 0, .int .i64 0, .int .i64 0] 43)
        have hlo := HA.out.lt
        clear HA
        clear HB
        generalize z12.alloc (.cells #[.int .i64 0, .int .i64 0, .int .i64 0] 43) = z13 at h3 hm hge ho hlo ⊢
        generalize z12.heap.size = bb at h3 hm hge ho hlo ⊢
        have HB := Lib.hid h3
        have HC := Lib.hid hm
        have Gbb := Lib.hid hge
        clear h3 hm hge
        have HA := Lib.hid ho
        have HNE := Lib.hid (show ba ≠ bb by omega)
        clear ho hlo
        refine wpAnyH_ready (rs := [13]) (by kernel_rfl) (by simp) ?_
        refine AllReadyH.cons rfl (fun K hK => ?_) AllReadyH.nil
        have f2 : z13.frozen? ⟨ba, 2, none⟩ = false := HA.out.free 2
        have v2 : z13.cell? ⟨ba, 2, none⟩ = some (.int .i64 0) := (HA.out.cell 2).trans rfl
        have f1 : z13.frozen? ⟨ba, 1, none⟩ = false := HA.out.free 1
        have v1 : z13.cell? ⟨ba, 1, none⟩ = some (.int .i64 0) := (HA.out.cell 1).trans rfl
        have f0 : z13.frozen? ⟨ba, 0, none⟩ = false := HA.out.free 0
        have v0 : z13.cell? ⟨ba, 0, none⟩ = some (.int .i64 0) := (HA.out.cell 0).trans rfl
        go_simp
        try go_wp2_with fail
        have h3 := (((HB.out.setCell (p := ⟨ba, 0, none⟩) Gba.out (.int .i64 x.t)).setCell (p := ⟨ba, 1, none⟩) Gba.out (.int .i64 x.q)).setCell (p := ⟨ba, 2, none⟩) Gba.out (.int .i64 5))
        have hm := put3 HA.out (.int .i64 x.t) (.int .i64 x.q) (.int .i64 5)
        have ho := (((HC.out.past (p := ⟨ba, 0, none⟩) (fun e => HNE.out e.symm) (.int .i64 x.t)).past (p := ⟨ba, 1, none⟩) (fun e => HNE.out e.symm) (.int .i64 x.q)).past (p := ⟨ba, 2, none⟩) (fun e => HNE.out e.symm) (.int .i64 5))
        refine hK.out _ _ ?_ (fun hHeld => ?_)
        · with_reducible exact HS.out _ h3
        clear hK K hHeld f0 f1 f2 v0 v1 v2
        try simp only [Act.put, List.setIfInBounds_toArray, List.set_cons_zero, List.set_cons_succ]
        clear HB HA HC
        generalize (((z13.setCell ⟨ba, 0, none⟩ (.int .i64 x.t)).setCell ⟨ba, 1, none⟩ (.int .i64 x.q)).setCell ⟨ba, 2, none⟩ (.int .i64 5)) = z14 at h3 hm ho ⊢
        have HB := Lib.hid h3
        have HA := Lib.hid hm
        have HC := Lib.hid ho
        clear h3 hm ho
        refine wpAnyH_ready (rs := [14]) (by kernel_rfl) (by simp) ?_
        refine AllReadyH.cons rfl (fun K hK => ?_) AllReadyH.nil
        have f2 : z14.frozen? ⟨bb, 2, none⟩ = false := HC.out.free 2
        have v2 : z14.cell? ⟨bb, 2, none⟩ = some (.int .i64 0) := (HC.out.cell 2).trans rfl
        have f1 : z14.frozen? ⟨bb, 1, none⟩ = false := HC.out.free 1
        have v1 : z14.cell? ⟨bb, 1, none⟩ = some (.int .i64 0) := (HC.out.cell 1).trans rfl
        have f0 : z14.frozen? ⟨bb, 0, none⟩ = false := HC.out.free 0
        have v0 : z14.cell? ⟨bb, 0, none⟩ = some (.int .i64 0) := (HC.out.cell 0).trans rfl
        go_simp
        try go_wp2_with fail
        have h3 := (((HB.out.setCell (p := ⟨bb, 0, none⟩) Gbb.out (.int .i64 y.t)).setCell (p := ⟨bb, 1, none⟩) Gbb.out (.int .i64 y.q)).setCell (p := ⟨bb, 2, none⟩) Gbb.out (.int .i64 at'))
        have hm := put3 HC.out (.int .i64 y.t) (.int .i64 y.q) (.int .i64 at')
        have ho := (((HA.out.past (p := ⟨bb, 0, none⟩) HNE.out (.int .i64 y.t)).past (p := ⟨bb, 1, none⟩) HNE.out (.int .i64 y.q)).past (p := ⟨bb, 2, none⟩) HNE.out (.int .i64 at'))
        refine hK.out _ _ ?_ (fun hHeld => ?_)
        · with_reducible exact HS.out _ h3
        clear hK K hHeld f0 f1 f2 v0 v1 v2
        try simp only [Act.put, List.setIfInBounds_toArray, List.set_cons_zero, List.set_cons_succ]
        clear HB HC HA
        generalize (((z14.setCell ⟨bb, 0, none⟩ (.int .i64 y.t)).setCell ⟨bb, 1, none⟩ (.int .i64 y.q)).setCell ⟨bb, 2, none⟩ (.int .i64 at')) = z15 at h3 hm ho ⊢
        have HB := Lib.hid h3
        have HC := Lib.hid hm
        have HA := Lib.hid ho
        clear h3 hm ho
        refine wpAnyH_done (by kernel_rfl) ?_ _
        refine NoPanic.normal ?_
        go_wp2
        go_meet
        exact ⟨ba, bb, rfl, rfl, Lib.hid ⟨HB.out, HA.out, HC.out⟩⟩
      refine AllReadyH.cons rfl (fun K hK => ?_) AllReadyH.nil
      go_simp
      try go_wp2_with fail
      have h3 := HB.out.alloc HB.out.size (.cells #[.int .i64 0, .int .i64 0, .int .i64 0] 43)
      refine hK.out _ _ ?_ (fun hHeld => ?_)
      · with_reducible exact HS.out _ h3
      clear hK K hHeld
      try simp only [Act.put, List.setIfInBounds_toArray, List.set_cons_zero, List.set_cons_succ]
      have hm := Row.made z11 43 #[.int .i64 0, .int .i64 0, .int .i64 0]
      have hge := HB.out.size
      have ho := Row.alloc HA.out (.cells #[.int .i64 0, .int .i64 0, .int .i64 0] 43)
      have hlo := HA.out.lt
      clear HA
      clear HB
      generalize z11.alloc (.cells #[.int .i64 0, .int .i64 0, .int .i64 0] 43) = z16 at h3 hm hge ho hlo ⊢
      generalize z11.heap.size = bb at h3 hm hge ho hlo ⊢
      have HB := Lib.hid h3
      have HC := Lib.hid hm
      have Gbb := Lib.hid hge
      clear h3 hm hge
      have HA := Lib.hid ho
      have HNE := Lib.hid (show ba ≠ bb by omega)
      clear ho hlo
      refine wpAnyH_ready (rs := [10]) (by kernel_rfl) (by simp) ?_
      refine AllReadyH.cons rfl (fun K hK => ?_) AllReadyH.nil
      go_simp
      go_at_call 16
      (with_reducible refine (stamp_any _ _ _ _ _ _ _ _ _).mono ?_)
      rintro e z17 ⟨rfl, hb⟩
      have ha := Row.below HA.out hb HA.out.lt
      clear HA
      have HA := Lib.hid ha
      clear ha
      have ha := Row.below HC.out hb HC.out.lt
      clear HC
      have HC := Lib.hid ha
      clear ha
      have h3 := HB.out.trans (hb.mono HB.out.size)
      clear HB
      have HB := Lib.hid h3
      clear hb h3
      try go_wp2_with fail
      refine hK.out _ _ ?_ (fun hHeld => ?_)
      · with_reducible exact HS.out _ HB.out
      clear hK K hHeld
      try simp only [Act.put, List.setIfInBounds_toArray, List.set_cons_zero, List.set_cons_succ]
      refine wpAnyH_ready (rs := [13]) (by kernel_rfl) (by simp) ?_
      refine AllReadyH.cons rfl (fun K hK => ?_) AllReadyH.nil
      have f2 : z17.frozen? ⟨ba, 2, none⟩ = false := HA.out.free 2
      have v2 : z17.cell? ⟨ba, 2, none⟩ = some (.int .i64 0) := (HA.out.cell 2).trans rfl
      have f1 : z17.frozen? ⟨ba, 1, none⟩ = false := HA.out.free 1
      have v1 : z17.cell? ⟨ba, 1, none⟩ = some (.int .i64 0) := (HA.out.cell 1).trans rfl
      have f0 : z17.frozen? ⟨ba, 0, none⟩ = false := HA.out.free 0
      have v0 : z17.cell? ⟨ba, 0, none⟩ = some (.int .i64 0) := (HA.out.cell 0).trans rfl
      go_simp
      try go_wp2_with fail
      have h3 := (((HB.out.setCell (p := ⟨ba, 0, none⟩) Gba.out (.int .i64 x.t)).setCell (p := ⟨ba, 1, none⟩) Gba.out (.int .i64 x.q)).setCell (p := ⟨ba, 2, none⟩) Gba.out (.int .i64 5))
      have hm := put3 HA.out (.int .i64 x.t) (.int .i64 x.q) (.int .i64 5)
      have ho := (((HC.out.past (p := ⟨ba, 0, none⟩) (fun e => HNE.out e.symm) (.int .i64 x.t)).past (p := ⟨ba, 1, none⟩) (fun e => HNE.out e.symm) (.int .i64 x.q)).past (p := ⟨ba, 2, none⟩) (fun e => HNE.out e.symm) (.int .i64 5))
      refine hK.out _ _ ?_ (fun hHeld => ?_)
      · with_reducible exact HS.out _ h3
      clear hK K hHeld f0 f1 f2 v0 v1 v2
      try simp only [Act.put, List.setIfInBounds_toArray, List.set_cons_zero, List.set_cons_succ]
      clear HB HA HC
      generalize (((z17.setCell ⟨ba, 0, none⟩ (.int .i64 x.t)).setCell ⟨ba, 1, none⟩ (.int .i64 x.q)).setCell ⟨ba, 2, none⟩ (.int .i64 5)) = z18 at h3 hm ho ⊢
      have HB := Lib.hid h3
      have HA := Lib.hid hm
      have HC := Lib.hid ho
      clear h3 hm ho
      refine wpAnyH_ready (rs := [14]) (by kernel_rfl) (by simp) ?_
      refine AllReadyH.cons rfl (fun K hK => ?_) AllReadyH.nil
      have f2 : z18.frozen? ⟨bb, 2, none⟩ = false := HC.out.free 2
      have v2 : z18.cell? ⟨bb, 2, none⟩ = some (.int .i64 0) := (HC.out.cell 2).trans rfl
      have f1 : z18.frozen? ⟨bb, 1, none⟩ = false := HC.out.free 1
      have v1 : z18.cell? ⟨bb, 1, none⟩ = some (.int .i64 0) := (HC.out.cell 1).trans rfl
      have f0 : z18.frozen? ⟨bb, 0, none⟩ = false := HC.out.free 0
      have v0 : z18.cell? ⟨bb, 0, none⟩ = some (.int .i64 0) := (HC.out.cell 0).trans rfl
      go_simp
      try go_wp2_with fail
      have h3 := (((HB.out.setCell (p := ⟨bb, 0, none⟩) Gbb.out (.int .i64 y.t)).setCell (p := ⟨bb, 1, none⟩) Gbb.out (.int .i64 y.q)).setCell (p := ⟨bb, 2, none⟩) Gbb.out (.int .i64 at'))
      have hm := put3 HC.out (.int .i64 y.t) (.int .i64 y.q) (.int .i64 at')
      have ho := (((HA.out.past (p := ⟨bb, 0, none⟩) HNE.out (.int .i64 y.t)).past (p := ⟨bb, 1, none⟩) HNE.out (.int .i64 y.q)).past (p := ⟨bb, 2, none⟩) HNE.out (.int .i64 at'))
      refine hK.out _ _ ?_ (fun hHeld => ?_)
      · with_reducible exact HS.out _ h3
      clear hK K hHeld f0 f1 f2 v0 v1 v2
      try simp only [Act.put, List.setIfInBounds_toArray, List.set_cons_zero, List.set_cons_succ]
      clear HB HC HA
      generalize (((z18.setCell ⟨bb, 0, none⟩ (.int .i64 y.t)).setCell ⟨bb, 1, none⟩ (.int .i64 y.q)).setCell ⟨bb, 2, none⟩ (.int .i64 at')) = z19 at h3 hm ho ⊢
      have HB := Lib.hid h3
      have HC := Lib.hid hm
      have HA := Lib.hid ho
      clear h3 hm ho
      refine wpAnyH_done (by kernel_rfl) ?_ _
      refine NoPanic.normal ?_
      go_wp2
      go_meet
      exact ⟨ba, bb, rfl, rfl, Lib.hid ⟨HB.out, HA.out, HC.out⟩⟩
    refine AllReadyH.cons rfl (fun K hK => ?_) AllReadyH.nil
    go_simp
    try go_wp2_with fail
    have h3 := HB.out.alloc HB.out.size (.cells #[.int .i64 0, .int .i64 0, .int .i64 0] 43)
    refine hK.out _ _ ?_ (fun hHeld => ?_)
    · with_reducible exact HS.out _ h3
    clear hK K hHeld
    try simp only [Act.put, List.setIfInBounds_toArray, List.set_cons_zero, List.set_cons_succ]
    have hm := Row.made z1 43 #[.int .i64 0, .int .i64 0, .int .i64 0]
    have hge := HB.out.size
    clear HB
    generalize z1.alloc (.cells #[.int .i64 0, .int .i64 0, .int .i64 0] 43) = z20 at h3 hm hge ⊢
    generalize z1.heap.size = bb at h3 hm hge ⊢
    have HB := Lib.hid h3
    have HC := Lib.hid hm
    have Gbb := Lib.hid hge
    clear h3 hm hge
    refine wpAnyH_ready (rs := [10, 11]) (by kernel_rfl) (by simp) ?_
    refine AllReadyH.cons rfl (fun K hK => ?_) ?_
    · go_simp
      go_at_call 16
      (with_reducible refine (stamp_any _ _ _ _ _ _ _ _ _).mono ?_)
      rintro e z21 ⟨rfl, hb⟩
      have ha := Row.below HC.out hb HC.out.lt
      clear HC
      have HC := Lib.hid ha
      clear ha
      have h3 := HB.out.trans (hb.mono HB.out.size)
      clear HB
      have HB := Lib.hid h3
      clear hb h3
      try go_wp2_with fail
      refine hK.out _ _ ?_ (fun hHeld => ?_)
      · with_reducible exact HS.out _ HB.out
      clear hK K hHeld
      try simp only [Act.put, List.setIfInBounds_toArray, List.set_cons_zero, List.set_cons_succ]
      refine wpAnyH_ready (rs := [11]) (by kernel_rfl) (by simp) ?_
      refine AllReadyH.cons rfl (fun K hK => ?_) AllReadyH.nil
      go_simp
      try go_wp2_with fail
      have h3 := HB.out.alloc HB.out.size (.cells #[.int .i64 0, .int .i64 0, .int .i64 0] 43)
      refine hK.out _ _ ?_ (fun hHeld => ?_)
      · with_reducible exact HS.out _ h3
      clear hK K hHeld
      try simp only [Act.put, List.setIfInBounds_toArray, List.set_cons_zero, List.set_cons_succ]
      have hm := Row.made z21 43 #[.int .i64 0, .int .i64 0, .int .i64 0]
      have hge := HB.out.size
      have ho := Row.alloc HC.out (.cells #[.int .i64 0, .int .i64 0, .int .i64 0] 43)
      have hlo := HC.out.lt
      clear HC
      clear HB
      generalize z21.alloc (.cells #[.int .i64 0, .int .i64 0, .int .i64 0] 43) = z22 at h3 hm hge ho hlo ⊢
      generalize z21.heap.size = ba at h3 hm hge ho hlo ⊢
      have HB := Lib.hid h3
      have HA := Lib.hid hm
      have Gba := Lib.hid hge
      clear h3 hm hge
      have HC := Lib.hid ho
      have HNE := Lib.hid (show ba ≠ bb by omega)
      clear ho hlo
      refine wpAnyH_ready (rs := [13]) (by kernel_rfl) (by simp) ?_
      refine AllReadyH.cons rfl (fun K hK => ?_) AllReadyH.nil
      have f2 : z22.frozen? ⟨ba, 2, none⟩ = false := HA.out.free 2
      have v2 : z22.cell? ⟨ba, 2, none⟩ = some (.int .i64 0) := (HA.out.cell 2).trans rfl
      have f1 : z22.frozen? ⟨ba, 1, none⟩ = false := HA.out.free 1
      have v1 : z22.cell? ⟨ba, 1, none⟩ = some (.int .i64 0) := (HA.out.cell 1).trans rfl
      have f0 : z22.frozen? ⟨ba, 0, none⟩ = false := HA.out.free 0
      have v0 : z22.cell? ⟨ba, 0, none⟩ = some (.int .i64 0) := (HA.out.cell 0).trans rfl
      go_simp
      try go_wp2_with fail
      have h3 := (((HB.out.setCell (p := ⟨ba, 0, none⟩) Gba.out (.int .i64 x.t)).setCell (p := ⟨ba, 1, none⟩) Gba.out (.int .i64 x.q)).setCell (p := ⟨ba, 2, none⟩) Gba.out (.int .i64 5))
      have hm := put3 HA.out (.int .i64 x.t) (.int .i64 x.q) (.int .i64 5)
      have ho := (((HC.out.past (p := ⟨ba, 0, none⟩) (fun e => HNE.out e.symm) (.int .i64 x.t)).past (p := ⟨ba, 1, none⟩) (fun e => HNE.out e.symm) (.int .i64 x.q)).past (p := ⟨ba, 2, none⟩) (fun e => HNE.out e.symm) (.int .i64 5))
      refine hK.out _ _ ?_ (fun hHeld => ?_)
      · with_reducible exact HS.out _ h3
      clear hK K hHeld f0 f1 f2 v0 v1 v2
      try simp only [Act.put, List.setIfInBounds_toArray, List.set_cons_zero, List.set_cons_succ]
      clear HB HA HC
      generalize (((z22.setCell ⟨ba, 0, none⟩ (.int .i64 x.t)).setCell ⟨ba, 1, none⟩ (.int .i64 x.q)).setCell ⟨ba, 2, none⟩ (.int .i64 5)) = z23 at h3 hm ho ⊢
      have HB := Lib.hid h3
      have HA := Lib.hid hm
      have HC := Lib.hid ho
      clear h3 hm ho
      refine wpAnyH_ready (rs := [14]) (by kernel_rfl) (by simp) ?_
      refine AllReadyH.cons rfl (fun K hK => ?_) AllReadyH.nil
      have f2 : z23.frozen? ⟨bb, 2, none⟩ = false := HC.out.free 2
      have v2 : z23.cell? ⟨bb, 2, none⟩ = some (.int .i64 0) := (HC.out.cell 2).trans rfl
      have f1 : z23.frozen? ⟨bb, 1, none⟩ = false := HC.out.free 1
      have v1 : z23.cell? ⟨bb, 1, none⟩ = some (.int .i64 0) := (HC.out.cell 1).trans rfl
      have f0 : z23.frozen? ⟨bb, 0, none⟩ = false := HC.out.free 0
      have v0 : z23.cell? ⟨bb, 0, none⟩ = some (.int .i64 0) := (HC.out.cell 0).trans rfl
      go_simp
      try go_wp2_with fail
      have h3 := (((HB.out.setCell (p := ⟨bb, 0, none⟩) Gbb.out (.int .i64 y.t)).setCell (p := ⟨bb, 1, none⟩) Gbb.out (.int .i64 y.q)).setCell (p := ⟨bb, 2, none⟩) Gbb.out (.int .i64 at'))
      have hm := put3 HC.out (.int .i64 y.t) (.int .i64 y.q) (.int .i64 at')
      have ho := (((HA.out.past (p := ⟨bb, 0, none⟩) HNE.out (.int .i64 y.t)).past (p := ⟨bb, 1, none⟩) HNE.out (.int .i64 y.q)).past (p := ⟨bb, 2, none⟩) HNE.out (.int .i64 at'))
      refine hK.out _ _ ?_ (fun hHeld => ?_)
      · with_reducible exact HS.out _ h3
      clear hK K hHeld f0 f1 f2 v0 v1 v2
      try simp only [Act.put, List.setIfInBounds_toArray, List.set_cons_zero, List.set_cons_succ]
      clear HB HC HA
      generalize (((z23.setCell ⟨bb, 0, none⟩ (.int .i64 y.t)).setCell ⟨bb, 1, none⟩ (.int .i64 y.q)).setCell ⟨bb, 2, none⟩ (.int .i64 at')) = z24 at h3 hm ho ⊢
      have HB := Lib.hid h3
      have HC := Lib.hid hm
      have HA := Lib.hid ho
      clear h3 hm ho
      refine wpAnyH_done (by kernel_rfl) ?_ _
      refine NoPanic.normal ?_
      go_wp2
      go_meet
      exact ⟨ba, bb, rfl, rfl, Lib.hid ⟨HB.out, HA.out, HC.out⟩⟩
    refine AllReadyH.cons rfl (fun K hK => ?_) AllReadyH.nil
    go_simp
    try go_wp2_with fail
    have h3 := HB.out.alloc HB.out.size (.cells #[.int .i64 0, .int .i64 0, .int .i64 0] 43)
    refine hK.out _ _ ?_ (fun hHeld => ?_)
    · with_reducible exact HS.out _ h3
    clear hK K hHeld
    try simp only [Act.put, List.setIfInBounds_toArray, List.set_cons_zero, List.set_cons_succ]
    have hm := Row.made z20 43 #[.int .i64 0, .int .i64 0, .int .i64 0]
    have hge := HB.out.size
    have ho := Row.alloc HC.out (.cells #[.int .i64 0, .int .i64 0, .int .i64 0] 43)
    have hlo := HC.out.lt
    clear HC
    clear HB
    generalize z20.alloc (.cells #[.int .i64 0, .int .i64 0, .int .i64 0] 43) = z25 at h3 hm hge ho hlo ⊢
    generalize z20.heap.size = ba at h3 hm hge ho hlo ⊢
    have HB := Lib.hid h3
    have HA := Lib.hid hm
    have Gba := Lib.hid hge
    clear h3 hm hge
    have HC := Lib.hid ho
    have HNE := Lib.hid (show ba ≠ bb by omega)
    clear ho hlo
    refine wpAnyH_ready (rs := [10]) (by kernel_rfl) (by simp) ?_
    refine AllReadyH.cons rfl (fun K hK => ?_) AllReadyH.nil
    go_simp
    go_at_call 16
    (with_reducible refine (stamp_any _ _ _ _ _ _ _ _ _).mono ?_)
    rintro e z26 ⟨rfl, hb⟩
    have ha := Row.below HA.out hb HA.out.lt
    clear HA
    have HA := Lib.hid ha
    clear ha
    have ha := Row.below HC.out hb HC.out.lt
    clear HC
    have HC := Lib.hid ha
    clear ha
    have h3 := HB.out.trans (hb.mono HB.out.size)
    clear HB
    have HB := Lib.hid h3
    clear hb h3
    try go_wp2_with fail
    refine hK.out _ _ ?_ (fun hHeld => ?_)
    · with_reducible exact HS.out _ HB.out
    clear hK K hHeld
    try simp only [Act.put, List.setIfInBounds_toArray, List.set_cons_zero, List.set_cons_succ]
    refine wpAnyH_ready (rs := [13]) (by kernel_rfl) (by simp) ?_
    refine AllReadyH.cons rfl (fun K hK => ?_) AllReadyH.nil
    have f2 : z26.frozen? ⟨ba, 2, none⟩ = false := HA.out.free 2
    have v2 : z26.cell? ⟨ba, 2, none⟩ = some (.int .i64 0) := (HA.out.cell 2).trans rfl
    have f1 : z26.frozen? ⟨ba, 1, none⟩ = false := HA.out.free 1
    have v1 : z26.cell? ⟨ba, 1, none⟩ = some (.int .i64 0) := (HA.out.cell 1).trans rfl
    have f0 : z26.frozen? ⟨ba, 0, none⟩ = false := HA.out.free 0
    have v0 : z26.cell? ⟨ba, 0, none⟩ = some (.int .i64 0) := (HA.out.cell 0).trans rfl
    go_simp
    try go_wp2_with fail
    have h3 := (((HB.out.setCell (p := ⟨ba, 0, none⟩) Gba.out (.int .i64 x.t)).setCell (p := ⟨ba, 1, none⟩) Gba.out (.int .i64 x.q)).setCell (p := ⟨ba, 2, none⟩) Gba.out (.int .i64 5))
    have hm := put3 HA.out (.int .i64 x.t) (.int .i64 x.q) (.int .i64 5)
    have ho := (((HC.out.past (p := ⟨ba, 0, none⟩) (fun e => HNE.out e.symm) (.int .i64 x.t)).past (p := ⟨ba, 1, none⟩) (fun e => HNE.out e.symm) (.int .i64 x.q)).past (p := ⟨ba, 2, none⟩) (fun e => HNE.out e.symm) (.int .i64 5))
    refine hK.out _ _ ?_ (fun hHeld => ?_)
    · with_reducible exact HS.out _ h3
    clear hK K hHeld f0 f1 f2 v0 v1 v2
    try simp only [Act.put, List.setIfInBounds_toArray, List.set_cons_zero, List.set_cons_succ]
    clear HB HA HC
    generalize (((z26.setCell ⟨ba, 0, none⟩ (.int .i64 x.t)).setCell ⟨ba, 1, none⟩ (.int .i64 x.q)).setCell ⟨ba, 2, none⟩ (.int .i64 5)) = z27 at h3 hm ho ⊢
    have HB := Lib.hid h3
    have HA := Lib.hid hm
    have HC := Lib.hid ho
    clear h3 hm ho
    refine wpAnyH_ready (rs := [14]) (by kernel_rfl) (by simp) ?_
    refine AllReadyH.cons rfl (fun K hK => ?_) AllReadyH.nil
    have f2 : z27.frozen? ⟨bb, 2, none⟩ = false := HC.out.free 2
    have v2 : z27.cell? ⟨bb, 2, none⟩ = some (.int .i64 0) := (HC.out.cell 2).trans rfl
    have f1 : z27.frozen? ⟨bb, 1, none⟩ = false := HC.out.free 1
    have v1 : z27.cell? ⟨bb, 1, none⟩ = some (.int .i64 0) := (HC.out.cell 1).trans rfl
    have f0 : z27.frozen? ⟨bb, 0, none⟩ = false := HC.out.free 0
    have v0 : z27.cell? ⟨bb, 0, none⟩ = some (.int .i64 0) := (HC.out.cell 0).trans rfl
    go_simp
    try go_wp2_with fail
    have h3 := (((HB.out.setCell (p := ⟨bb, 0, none⟩) Gbb.out (.int .i64 y.t)).setCell (p := ⟨bb, 1, none⟩) Gbb.out (.int .i64 y.q)).setCell (p := ⟨bb, 2, none⟩) Gbb.out (.int .i64 at'))
    have hm := put3 HC.out (.int .i64 y.t) (.int .i64 y.q) (.int .i64 at')
    have ho := (((HA.out.past (p := ⟨bb, 0, none⟩) HNE.out (.int .i64 y.t)).past (p := ⟨bb, 1, none⟩) HNE.out (.int .i64 y.q)).past (p := ⟨bb, 2, none⟩) HNE.out (.int .i64 at'))
    refine hK.out _ _ ?_ (fun hHeld => ?_)
    · with_reducible exact HS.out _ h3
    clear hK K hHeld f0 f1 f2 v0 v1 v2
    try simp only [Act.put, List.setIfInBounds_toArray, List.set_cons_zero, List.set_cons_succ]
    clear HB HC HA
    generalize (((z27.setCell ⟨bb, 0, none⟩ (.int .i64 y.t)).setCell ⟨bb, 1, none⟩ (.int .i64 y.q)).setCell ⟨bb, 2, none⟩ (.int .i64 at')) = z28 at h3 hm ho ⊢
    have HB := Lib.hid h3
    have HC := Lib.hid hm
    have HA := Lib.hid ho
    clear h3 hm ho
    refine wpAnyH_done (by kernel_rfl) ?_ _
    refine NoPanic.normal ?_
    go_wp2
    go_meet
    exact ⟨ba, bb, rfl, rfl, Lib.hid ⟨HB.out, HA.out, HC.out⟩⟩
  refine AllReadyH.cons rfl (fun K hK => ?_) ?_
  · go_simp
    try go_wp2_with fail
    have h3 := HB.out.alloc HB.out.size (.cells #[.int .i64 0, .int .i64 0, .int .i64 0] 43)
    refine hK.out _ _ ?_ (fun hHeld => ?_)
    · with_reducible exact HS.out _ h3
    clear hK K hHeld
    try simp only [Act.put, List.setIfInBounds_toArray, List.set_cons_zero, List.set_cons_succ]
    have hm := Row.made X0 43 #[.int .i64 0, .int .i64 0, .int .i64 0]
    have hge := HB.out.size
    clear HB
    generalize X0.alloc (.cells #[.int .i64 0, .int .i64 0, .int .i64 0] 43) = z29 at h3 hm hge ⊢
    generalize X0.heap.size = ba at h3 hm hge ⊢
    have HB := Lib.hid h3
    have HA := Lib.hid hm
    have Gba := Lib.hid hge
    clear h3 hm hge
    refine wpAnyH_ready (rs := [4, 12]) (by kernel_rfl) (by simp) ?_
    refine AllReadyH.cons rfl (fun K hK => ?_) ?_
    · go_simp
      go_at_call 16
      (with_reducible refine (stamp_any _ _ _ _ _ _ _ _ _).mono ?_)
      rintro e z30 ⟨rfl, hb⟩
      have ha := Row.below HA.out hb HA.out.lt
      clear HA
      have HA := Lib.hid ha
      clear ha
      have h3 := HB.out.trans (hb.mono HB.out.size)
      clear HB
      have HB := Lib.hid h3
      clear hb h3
      try go_wp2_with fail
      refine hK.out _ _ ?_ (fun hHeld => ?_)
      · with_reducible exact HS.out _ HB.out
      clear hK K hHeld
      try simp only [Act.put, List.setIfInBounds_toArray, List.set_cons_zero, List.set_cons_succ]
      refine wpAnyH_ready (rs := [10, 12]) (by kernel_rfl) (by simp) ?_
      refine AllReadyH.cons rfl (fun K hK => ?_) ?_
      · go_simp
        go_at_call 16
        (with_reducible refine (stamp_any _ _ _ _ _ _ _ _ _).mono ?_)
        rintro e z31 ⟨rfl, hb⟩
        have ha := Row.below HA.out hb HA.out.lt
        clear HA
        have HA := Lib.hid ha
        clear ha
        have h3 := HB.out.trans (hb.mono HB.out.size)
        clear HB
        have HB := Lib.hid h3
        clear hb h3
        try go_wp2_with fail
        refine hK.out _ _ ?_ (fun hHeld => ?_)
        · with_reducible exact HS.out _ HB.out
        clear hK K hHeld
        try simp only [Act.put, List.setIfInBounds_toArray, List.set_cons_zero, List.set_cons_succ]
        refine wpAnyH_ready (rs := [12]) (by kernel_rfl) (by simp) ?_
        refine AllReadyH.cons rfl (fun K hK => ?_) AllReadyH.nil
        go_simp
        try go_wp2_with fail
        have h3 := HB.out.alloc HB.out.size (.cells #[.int .i64 0, .int .i64 0, .int .i64 0] 43)
        refine hK.out _ _ ?_ (fun hHeld => ?_)
        · with_reducible exact HS.out _ h3
        clear hK K hHeld
        try simp only [Act.put, List.setIfInBounds_toArray, List.set_cons_zero, List.set_cons_succ]
        have hm := Row.made z31 43 #[.int .i64 0, .int .i64 0, .int .i64 0]
        have hge := HB.out.size
        have ho := Row.alloc HA.out (.cells #[.int .i64 0, .int .i64 0, .int .i64 0] 43)
        have hlo := HA.out.lt
        clear HA
        clear HB
        generalize z31.alloc (.cells #[.int .i64 0, .int .i64 0, .int .i64 0] 43) = z32 at h3 hm hge ho hlo ⊢
        generalize z31.heap.size = bb at h3 hm hge ho hlo ⊢
        have HB := Lib.hid h3
        have HC := Lib.hid hm
        have Gbb := Lib.hid hge
        clear h3 hm hge
        have HA := Lib.hid ho
        have HNE := Lib.hid (show ba ≠ bb by omega)
        clear ho hlo
        refine wpAnyH_ready (rs := [13]) (by kernel_rfl) (by simp) ?_
        refine AllReadyH.cons rfl (fun K hK => ?_) AllReadyH.nil
        have f2 : z32.frozen? ⟨ba, 2, none⟩ = false := HA.out.free 2
        have v2 : z32.cell? ⟨ba, 2, none⟩ = some (.int .i64 0) := (HA.out.cell 2).trans rfl
        have f1 : z32.frozen? ⟨ba, 1, none⟩ = false := HA.out.free 1
        have v1 : z32.cell? ⟨ba, 1, none⟩ = some (.int .i64 0) := (HA.out.cell 1).trans rfl
        have f0 : z32.frozen? ⟨ba, 0, none⟩ = false := HA.out.free 0
        have v0 : z32.cell? ⟨ba, 0, none⟩ = some (.int .i64 0) := (HA.out.cell 0).trans rfl
        go_simp
        try go_wp2_with fail
        have h3 := (((HB.out.setCell (p := ⟨ba, 0, none⟩) Gba.out (.int .i64 x.t)).setCell (p := ⟨ba, 1, none⟩) Gba.out (.int .i64 x.q)).setCell (p := ⟨ba, 2, none⟩) Gba.out (.int .i64 5))
        have hm := put3 HA.out (.int .i64 x.t) (.int .i64 x.q) (.int .i64 5)
        have ho := (((HC.out.past (p := ⟨ba, 0, none⟩) (fun e => HNE.out e.symm) (.int .i64 x.t)).past (p := ⟨ba, 1, none⟩) (fun e => HNE.out e.symm) (.int .i64 x.q)).past (p := ⟨ba, 2, none⟩) (fun e => HNE.out e.symm) (.int .i64 5))
        refine hK.out _ _ ?_ (fun hHeld => ?_)
        · with_reducible exact HS.out _ h3
        clear hK K hHeld f0 f1 f2 v0 v1 v2
        try simp only [Act.put, List.setIfInBounds_toArray, List.set_cons_zero, List.set_cons_succ]
        clear HB HA HC
        generalize (((z32.setCell ⟨ba, 0, none⟩ (.int .i64 x.t)).setCell ⟨ba, 1, none⟩ (.int .i64 x.q)).setCell ⟨ba, 2, none⟩ (.int .i64 5)) = z33 at h3 hm ho ⊢
        have HB := Lib.hid h3
        have HA := Lib.hid hm
        have HC := Lib.hid ho
        clear h3 hm ho
        refine wpAnyH_ready (rs := [14]) (by kernel_rfl) (by simp) ?_
        refine AllReadyH.cons rfl (fun K hK => ?_) AllReadyH.nil
        have f2 : z33.frozen? ⟨bb, 2, none⟩ = false := HC.out.free 2
        have v2 : z33.cell? ⟨bb, 2, none⟩ = some (.int .i64 0) := (HC.out.cell 2).trans rfl
        have f1 : z33.frozen? ⟨bb, 1, none⟩ = false := HC.out.free 1
        have v1 : z33.cell? ⟨bb, 1, none⟩ = some (.int .i64 0) := (HC.out.cell 1).trans rfl
        have f0 : z33.frozen? ⟨bb, 0, none⟩ = false := HC.out.free 0
        have v0 : z33.cell? ⟨bb, 0, none⟩ = some (.int .i64 0) := (HC.out.cell 0).trans rfl
        go_simp
        try go_wp2_with fail
        have h3 := (((HB.out.setCell (p := ⟨bb, 0, none⟩) Gbb.out (.int .i64 y.t)).setCell (p := ⟨bb, 1, none⟩) Gbb.out (.int .i64 y.q)).setCell (p := ⟨bb, 2, none⟩) Gbb.out (.int .i64 at'))
        have hm := put3 HC.out (.int .i64 y.t) (.int .i64 y.q) (.int .i64 at')
        have ho := (((HA.out.past (p := ⟨bb, 0, none⟩) HNE.out (.int .i64 y.t)).past (p := ⟨bb, 1, none⟩) HNE.out (.int .i64 y.q)).past (p := ⟨bb, 2, none⟩) HNE.out (.int .i64 at'))
        refine hK.out _ _ ?_ (fun hHeld => ?_)
        · with_reducible exact HS.out _ h3
        clear hK K hHeld f0 f1 f2 v0 v1 v2
        try simp only [Act.put, List.setIfInBounds_toArray, List.set_cons_zero, List.set_cons_succ]
        clear HB HC HA
        generalize (((z33.setCell ⟨bb, 0, none⟩ (.int .i64 y.t)).setCell ⟨bb, 1, none⟩ (.int .i64 y.q)).setCell ⟨bb, 2, none⟩ (.int .i64 at')) = z34 at h3 hm ho ⊢
        have HB := Lib.hid h3
        have HC := Lib.hid hm
        have HA := Lib.hid ho
        clear h3 hm ho
        refine wpAnyH_done (by kernel_rfl) ?_ _
        refine NoPanic.normal ?_
        go_wp2
        go_meet
        exact ⟨ba, bb, rfl, rfl, Lib.hid ⟨HB.out, HA.out, HC.out⟩⟩
      refine AllReadyH.cons rfl (fun K hK => ?_) AllReadyH.nil
      go_simp
      try go_wp2_with fail
      have h3 := HB.out.alloc HB.out.size (.cells #[.int .i64 0, .int .i64 0, .int .i64 0] 43)
      refine hK.out _ _ ?_ (fun hHeld => ?_)
      · with_reducible exact HS.out _ h3
      clear hK K hHeld
      try simp only [Act.put, List.setIfInBounds_toArray, List.set_cons_zero, List.set_cons_succ]
      have hm := Row.made z30 43 #[.int .i64 0, .int .i64 0, .int .i64 0]
      have hge := HB.out.size
      have ho := Row.alloc HA.out (.cells #[.int .i64 0, .int .i64 0, .int .i64 0] 43)
      have hlo := HA.out.lt
      clear HA
      clear HB
      generalize z30.alloc (.cells #[.int .i64 0, .int .i64 0, .int .i64 0] 43) = z35 at h3 hm hge ho hlo ⊢
      generalize z30.heap.size = bb at h3 hm hge ho hlo ⊢
      have HB := Lib.hid h3
      have HC := Lib.hid hm
      have Gbb := Lib.hid hge
      clear h3 hm hge
      have HA := Lib.hid ho
      have HNE := Lib.hid (show ba ≠ bb by omega)
      clear ho hlo
      refine wpAnyH_ready (rs := [10]) (by kernel_rfl) (by simp) ?_
      refine AllReadyH.cons rfl (fun K hK => ?_) AllReadyH.nil
      go_simp
      go_at_call 16
      (with_reducible refine (stamp_any _ _ _ _ _ _ _ _ _).mono ?_)
      rintro e z36 ⟨rfl, hb⟩
      have ha := Row.below HA.out hb HA.out.lt
      clear HA
      have HA := Lib.hid ha
      clear ha
      have ha := Row.below HC.out hb HC.out.lt
      clear HC
      have HC := Lib.hid ha
      clear ha
      have h3 := HB.out.trans (hb.mono HB.out.size)
      clear HB
      have HB := Lib.hid h3
      clear hb h3
      try go_wp2_with fail
      refine hK.out _ _ ?_ (fun hHeld => ?_)
      · with_reducible exact HS.out _ HB.out
      clear hK K hHeld
      try simp only [Act.put, List.setIfInBounds_toArray, List.set_cons_zero, List.set_cons_succ]
      refine wpAnyH_ready (rs := [13]) (by kernel_rfl) (by simp) ?_
      refine AllReadyH.cons rfl (fun K hK => ?_) AllReadyH.nil
      have f2 : z36.frozen? ⟨ba, 2, none⟩ = false := HA.out.free 2
      have v2 : z36.cell? ⟨ba, 2, none⟩ = some (.int .i64 0) := (HA.out.cell 2).trans rfl
      have f1 : z36.frozen? ⟨ba, 1, none⟩ = false := HA.out.free 1
      have v1 : z36.cell? ⟨ba, 1, none⟩ = some (.int .i64 0) := (HA.out.cell 1).trans rfl
      have f0 : z36.frozen? ⟨ba, 0, none⟩ = false := HA.out.free 0
      have v0 : z36.cell? ⟨ba, 0, none⟩ = some (.int .i64 0) := (HA.out.cell 0).trans rfl
      go_simp
      try go_wp2_with fail
      have h3 := (((HB.out.setCell (p := ⟨ba, 0, none⟩) Gba.out (.int .i64 x.t)).setCell (p := ⟨ba, 1, none⟩) Gba.out (.int .i64 x.q)).setCell (p := ⟨ba, 2, none⟩) Gba.out (.int .i64 5))
      have hm := put3 HA.out (.int .i64 x.t) (.int .i64 x.q) (.int .i64 5)
      have ho := (((HC.out.past (p := ⟨ba, 0, none⟩) (fun e => HNE.out e.symm) (.int .i64 x.t)).past (p := ⟨ba, 1, none⟩) (fun e => HNE.out e.symm) (.int .i64 x.q)).past (p := ⟨ba, 2, none⟩) (fun e => HNE.out e.symm) (.int .i64 5))
      refine hK.out _ _ ?_ (fun hHeld => ?_)
      · with_reducible exact HS.out _ h3
      clear hK K hHeld f0 f1 f2 v0 v1 v2
      try simp only [Act.put, List.setIfInBounds_toArray, List.set_cons_zero, List.set_cons_succ]
      clear HB HA HC
      generalize (((z36.setCell ⟨ba, 0, none⟩ (.int .i64 x.t)).setCell ⟨ba, 1, none⟩ (.int .i64 x.q)).setCell ⟨ba, 2, none⟩ (.int .i64 5)) = z37 at h3 hm ho ⊢
      have HB := Lib.hid h3
      have HA := Lib.hid hm
      have HC := Lib.hid ho
      clear h3 hm ho
      refine wpAnyH_ready (rs := [14]) (by kernel_rfl) (by simp) ?_
      refine AllReadyH.cons rfl (fun K hK => ?_) AllReadyH.nil
      have f2 : z37.frozen? ⟨bb, 2, none⟩ = false := HC.out.free 2
      have v2 : z37.cell? ⟨bb, 2, none⟩ = some (.int .i64 0) := (HC.out.cell 2).trans rfl
      have f1 : z37.frozen? ⟨bb, 1, none⟩ = false := HC.out.free 1
      have v1 : z37.cell? ⟨bb, 1, none⟩ = some (.int .i64 0) := (HC.out.cell 1).trans rfl
      have f0 : z37.frozen? ⟨bb, 0, none⟩ = false := HC.out.free 0
      have v0 : z37.cell? ⟨bb, 0, none⟩ = some (.int .i64 0) := (HC.out.cell 0).trans rfl
      go_simp
      try go_wp2_with fail
      have h3 := (((HB.out.setCell (p := ⟨bb, 0, none⟩) Gbb.out (.int .i64 y.t)).setCell (p := ⟨bb, 1, none⟩) Gbb.out (.int .i64 y.q)).setCell (p := ⟨bb, 2, none⟩) Gbb.out (.int .i64 at'))
      have hm := put3 HC.out (.int .i64 y.t) (.int .i64 y.q) (.int .i64 at')
      have ho := (((HA.out.past (p := ⟨bb, 0, none⟩) HNE.out (.int .i64 y.t)).past (p := ⟨bb, 1, none⟩) HNE.out (.int .i64 y.q)).past (p := ⟨bb, 2, none⟩) HNE.out (.int .i64 at'))
      refine hK.out _ _ ?_ (fun hHeld => ?_)
      · with_reducible exact HS.out _ h3
      clear hK K hHeld f0 f1 f2 v0 v1 v2
      try simp only [Act.put, List.setIfInBounds_toArray, List.set_cons_zero, List.set_cons_succ]
      clear HB HC HA
      generalize (((z37.setCell ⟨bb, 0, none⟩ (.int .i64 y.t)).setCell ⟨bb, 1, none⟩ (.int .i64 y.q)).setCell ⟨bb, 2, none⟩ (.int .i64 at')) = z38 at h3 hm ho ⊢
      have HB := Lib.hid h3
      have HC := Lib.hid hm
      have HA := Lib.hid ho
      clear h3 hm ho
      refine wpAnyH_done (by kernel_rfl) ?_ _
      refine NoPanic.normal ?_
      go_wp2
      go_meet
      exact ⟨ba, bb, rfl, rfl, Lib.hid ⟨HB.out, HA.out, HC.out⟩⟩
    refine AllReadyH.cons rfl (fun K hK => ?_) AllReadyH.nil
    go_simp
    try go_wp2_with fail
    have h3 := HB.out.alloc HB.out.size (.cells #[.int .i64 0, .int .i64 0, .int .i64 0] 43)
    refine hK.out _ _ ?_ (fun hHeld => ?_)
    · with_reducible exact HS.out _ h3
    clear hK K hHeld
    try simp only [Act.put, List.setIfInBounds_toArray, List.set_cons_zero, List.set_cons_succ]
    have hm := Row.made z29 43 #[.int .i64 0, .int .i64 0, .int .i64 0]
    have hge := HB.out.size
    have ho := Row.alloc HA.out (.cells #[.int .i64 0, .int .i64 0, .int .i64 0] 43)
    have hlo := HA.out.lt
    clear HA
    clear HB
    generalize z29.alloc (.cells #[.int .i64 0, .int .i64 0, .int .i64 0] 43) = z39 at h3 hm hge ho hlo ⊢
    generalize z29.heap.size = bb at h3 hm hge ho hlo ⊢
    have HB := Lib.hid h3
    have HC := Lib.hid hm
    have Gbb := Lib.hid hge
    clear h3 hm hge
    have HA := Lib.hid ho
    have HNE := Lib.hid (show ba ≠ bb by omega)
    clear ho hlo
    refine wpAnyH_ready (rs := [4]) (by kernel_rfl) (by simp) ?_
    refine AllReadyH.cons rfl (fun K hK => ?_) AllReadyH.nil
    go_simp
    go_at_call 16
    (with_reducible refine (stamp_any _ _ _ _ _ _ _ _ _).mono ?_)
    rintro e z40 ⟨rfl, hb⟩
    have ha := Row.below HA.out hb HA.out.lt
    clear HA
    have HA := Lib.hid ha
    clear ha
    have ha := Row.below HC.out hb HC.out.lt
    clear HC
    have HC := Lib.hid ha
    clear ha
    have h3 := HB.out.trans (hb.mono HB.out.size)
    clear HB
    have HB := Lib.hid h3
    clear hb h3
    try go_wp2_with fail
    refine hK.out _ _ ?_ (fun hHeld => ?_)
    · with_reducible exact HS.out _ HB.out
    clear hK K hHeld
    try simp only [Act.put, List.setIfInBounds_toArray, List.set_cons_zero, List.set_cons_succ]
    refine wpAnyH_ready (rs := [10]) (by kernel_rfl) (by simp) ?_
    refine AllReadyH.cons rfl (fun K hK => ?_) AllReadyH.nil
    go_simp
    go_at_call 16
    (with_reducible refine (stamp_any _ _ _ _ _ _ _ _ _).mono ?_)
    rintro e z41 ⟨rfl, hb⟩
    have ha := Row.below HA.out hb HA.out.lt
    clear HA
    have HA := Lib.hid ha
    clear ha
    have ha := Row.below HC.out hb HC.out.lt
    clear HC
    have HC := Lib.hid ha
    clear ha
    have h3 := HB.out.trans (hb.mono HB.out.size)
    clear HB
    have HB := Lib.hid h3
    clear hb h3
    try go_wp2_with fail
    refine hK.out _ _ ?_ (fun hHeld => ?_)
    · with_reducible exact HS.out _ HB.out
    clear hK K hHeld
    try simp only [Act.put, List.setIfInBounds_toArray, List.set_cons_zero, List.set_cons_succ]
    refine wpAnyH_ready (rs := [13]) (by kernel_rfl) (by simp) ?_
    refine AllReadyH.cons rfl (fun K hK => ?_) AllReadyH.nil
    have f2 : z41.frozen? ⟨ba, 2, none⟩ = false := HA.out.free 2
    have v2 : z41.cell? ⟨ba, 2, none⟩ = some (.int .i64 0) := (HA.out.cell 2).trans rfl
    have f1 : z41.frozen? ⟨ba, 1, none⟩ = false := HA.out.free 1
    have v1 : z41.cell? ⟨ba, 1, none⟩ = some (.int .i64 0) := (HA.out.cell 1).trans rfl
    have f0 : z41.frozen? ⟨ba, 0, none⟩ = false := HA.out.free 0
    have v0 : z41.cell? ⟨ba, 0, none⟩ = some (.int .i64 0) := (HA.out.cell 0).trans rfl
    go_simp
    try go_wp2_with fail
    have h3 := (((HB.out.setCell (p := ⟨ba, 0, none⟩) Gba.out (.int .i64 x.t)).setCell (p := ⟨ba, 1, none⟩) Gba.out (.int .i64 x.q)).setCell (p := ⟨ba, 2, none⟩) Gba.out (.int .i64 5))
    have hm := put3 HA.out (.int .i64 x.t) (.int .i64 x.q) (.int .i64 5)
    have ho := (((HC.out.past (p := ⟨ba, 0, none⟩) (fun e => HNE.out e.symm) (.int .i64 x.t)).past (p := ⟨ba, 1, none⟩) (fun e => HNE.out e.symm) (.int .i64 x.q)).past (p := ⟨ba, 2, none⟩) (fun e => HNE.out e.symm) (.int .i64 5))
    refine hK.out _ _ ?_ (fun hHeld => ?_)
    · with_reducible exact HS.out _ h3
    clear hK K hHeld f0 f1 f2 v0 v1 v2
    try simp only [Act.put, List.setIfInBounds_toArray, List.set_cons_zero, List.set_cons_succ]
    clear HB HA HC
    generalize (((z41.setCell ⟨ba, 0, none⟩ (.int .i64 x.t)).setCell ⟨ba, 1, none⟩ (.int .i64 x.q)).setCell ⟨ba, 2, none⟩ (.int .i64 5)) = z42 at h3 hm ho ⊢
    have HB := Lib.hid h3
    have HA := Lib.hid hm
    have HC := Lib.hid ho
    clear h3 hm ho
    refine wpAnyH_ready (rs := [14]) (by kernel_rfl) (by simp) ?_
    refine AllReadyH.cons rfl (fun K hK => ?_) AllReadyH.nil
    have f2 : z42.frozen? ⟨bb, 2, none⟩ = false := HC.out.free 2
    have v2 : z42.cell? ⟨bb, 2, none⟩ = some (.int .i64 0) := (HC.out.cell 2).trans rfl
    have f1 : z42.frozen? ⟨bb, 1, none⟩ = false := HC.out.free 1
    have v1 : z42.cell? ⟨bb, 1, none⟩ = some (.int .i64 0) := (HC.out.cell 1).trans rfl
    have f0 : z42.frozen? ⟨bb, 0, none⟩ = false := HC.out.free 0
    have v0 : z42.cell? ⟨bb, 0, none⟩ = some (.int .i64 0) := (HC.out.cell 0).trans rfl
    go_simp
    try go_wp2_with fail
    have h3 := (((HB.out.setCell (p := ⟨bb, 0, none⟩) Gbb.out (.int .i64 y.t)).setCell (p := ⟨bb, 1, none⟩) Gbb.out (.int .i64 y.q)).setCell (p := ⟨bb, 2, none⟩) Gbb.out (.int .i64 at'))
    have hm := put3 HC.out (.int .i64 y.t) (.int .i64 y.q) (.int .i64 at')
    have ho := (((HA.out.past (p := ⟨bb, 0, none⟩) HNE.out (.int .i64 y.t)).past (p := ⟨bb, 1, none⟩) HNE.out (.int .i64 y.q)).past (p := ⟨bb, 2, none⟩) HNE.out (.int .i64 at'))
    refine hK.out _ _ ?_ (fun hHeld => ?_)
    · with_reducible exact HS.out _ h3
    clear hK K hHeld f0 f1 f2 v0 v1 v2
    try simp only [Act.put, List.setIfInBounds_toArray, List.set_cons_zero, List.set_cons_succ]
    clear HB HC HA
    generalize (((z42.setCell ⟨bb, 0, none⟩ (.int .i64 y.t)).setCell ⟨bb, 1, none⟩ (.int .i64 y.q)).setCell ⟨bb, 2, none⟩ (.int .i64 at')) = z43 at h3 hm ho ⊢
    have HB := Lib.hid h3
    have HC := Lib.hid hm
    have HA := Lib.hid ho
    clear h3 hm ho
    refine wpAnyH_done (by kernel_rfl) ?_ _
    refine NoPanic.normal ?_
    go_wp2
    go_meet
    exact ⟨ba, bb, rfl, rfl, Lib.hid ⟨HB.out, HA.out, HC.out⟩⟩
  refine AllReadyH.cons rfl (fun K hK => ?_) AllReadyH.nil
  go_simp
  try go_wp2_with fail
  have h3 := HB.out.alloc HB.out.size (.cells #[.int .i64 0, .int .i64 0, .int .i64 0] 43)
  refine hK.out _ _ ?_ (fun hHeld => ?_)
  · with_reducible exact HS.out _ h3
  clear hK K hHeld
  try simp only [Act.put, List.setIfInBounds_toArray, List.set_cons_zero, List.set_cons_succ]
  have hm := Row.made X0 43 #[.int .i64 0, .int .i64 0, .int .i64 0]
  have hge := HB.out.size
  clear HB
  generalize X0.alloc (.cells #[.int .i64 0, .int .i64 0, .int .i64 0] 43) = z44 at h3 hm hge ⊢
  generalize X0.heap.size = bb at h3 hm hge ⊢
  have HB := Lib.hid h3
  have HC := Lib.hid hm
  have Gbb := Lib.hid hge
  clear h3 hm hge
  refine wpAnyH_ready (rs := [4, 11]) (by kernel_rfl) (by simp) ?_
  refine AllReadyH.cons rfl (fun K hK => ?_) ?_
  · go_simp
    go_at_call 16
    (with_reducible refine (stamp_any _ _ _ _ _ _ _ _ _).mono ?_)
    rintro e z45 ⟨rfl, hb⟩
    have ha := Row.below HC.out hb HC.out.lt
    clear HC
    have HC := Lib.hid ha
    clear ha
    have h3 := HB.out.trans (hb.mono HB.out.size)
    clear HB
    have HB := Lib.hid h3
    clear hb h3
    try go_wp2_with fail
    refine hK.out _ _ ?_ (fun hHeld => ?_)
    · with_reducible exact HS.out _ HB.out
    clear hK K hHeld
    try simp only [Act.put, List.setIfInBounds_toArray, List.set_cons_zero, List.set_cons_succ]
    refine wpAnyH_ready (rs := [10, 11]) (by kernel_rfl) (by simp) ?_
    refine AllReadyH.cons rfl (fun K hK => ?_) ?_
    · go_simp
      go_at_call 16
      (with_reducible refine (stamp_any _ _ _ _ _ _ _ _ _).mono ?_)
      rintro e z46 ⟨rfl, hb⟩
      have ha := Row.below HC.out hb HC.out.lt
      clear HC
      have HC := Lib.hid ha
      clear ha
      have h3 := HB.out.trans (hb.mono HB.out.size)
      clear HB
      have HB := Lib.hid h3
      clear hb h3
      try go_wp2_with fail
      refine hK.out _ _ ?_ (fun hHeld => ?_)
      · with_reducible exact HS.out _ HB.out
      clear hK K hHeld
      try simp only [Act.put, List.setIfInBounds_toArray, List.set_cons_zero, List.set_cons_succ]
      refine wpAnyH_ready (rs := [11]) (by kernel_rfl) (by simp) ?_
      refine AllReadyH.cons rfl (fun K hK => ?_) AllReadyH.nil
      go_simp
      try go_wp2_with fail
      have h3 := HB.out.alloc HB.out.size (.cells #[.int .i64 0, .int .i64 0, .int .i64 0] 43)
      refine hK.out _ _ ?_ (fun hHeld => ?_)
      · with_reducible exact HS.out _ h3
      clear hK K hHeld
      try simp only [Act.put, List.setIfInBounds_toArray, List.set_cons_zero, List.set_cons_succ]
      have hm := Row.made z46 43 #[.int .i64 0, .int .i64 0, .int .i64 0]
      have hge := HB.out.size
      have ho := Row.alloc HC.out (.cells #[.int .i64 0, .int .i64 0, .int .i64 0] 43)
      have hlo := HC.out.lt
      clear HC
      clear HB
      generalize z46.alloc (.cells #[.int .i64 0, .int .i64 0, .int .i64 0] 43) = z47 at h3 hm hge ho hlo ⊢
      generalize z46.heap.size = ba at h3 hm hge ho hlo ⊢
      have HB := Lib.hid h3
      have HA := Lib.hid hm
      have Gba := Lib.hid hge
      clear h3 hm hge
      have HC := Lib.hid ho
      have HNE := Lib.hid (show ba ≠ bb by omega)
      clear ho hlo
      refine wpAnyH_ready (rs := [13]) (by kernel_rfl) (by simp) ?_
      refine AllReadyH.cons rfl (fun K hK => ?_) AllReadyH.nil
      have f2 : z47.frozen? ⟨ba, 2, none⟩ = false := HA.out.free 2
      have v2 : z47.cell? ⟨ba, 2, none⟩ = some (.int .i64 0) := (HA.out.cell 2).trans rfl
      have f1 : z47.frozen? ⟨ba, 1, none⟩ = false := HA.out.free 1
      have v1 : z47.cell? ⟨ba, 1, none⟩ = some (.int .i64 0) := (HA.out.cell 1).trans rfl
      have f0 : z47.frozen? ⟨ba, 0, none⟩ = false := HA.out.free 0
      have v0 : z47.cell? ⟨ba, 0, none⟩ = some (.int .i64 0) := (HA.out.cell 0).trans rfl
      go_simp
      try go_wp2_with fail
      have h3 := (((HB.out.setCell (p := ⟨ba, 0, none⟩) Gba.out (.int .i64 x.t)).setCell (p := ⟨ba, 1, none⟩) Gba.out (.int .i64 x.q)).setCell (p := ⟨ba, 2, none⟩) Gba.out (.int .i64 5))
      have hm := put3 HA.out (.int .i64 x.t) (.int .i64 x.q) (.int .i64 5)
      have ho := (((HC.out.past (p := ⟨ba, 0, none⟩) (fun e => HNE.out e.symm) (.int .i64 x.t)).past (p := ⟨ba, 1, none⟩) (fun e => HNE.out e.symm) (.int .i64 x.q)).past (p := ⟨ba, 2, none⟩) (fun e => HNE.out e.symm) (.int .i64 5))
      refine hK.out _ _ ?_ (fun hHeld => ?_)
      · with_reducible exact HS.out _ h3
      clear hK K hHeld f0 f1 f2 v0 v1 v2
      try simp only [Act.put, List.setIfInBounds_toArray, List.set_cons_zero, List.set_cons_succ]
      clear HB HA HC
      generalize (((z47.setCell ⟨ba, 0, none⟩ (.int .i64 x.t)).setCell ⟨ba, 1, none⟩ (.int .i64 x.q)).setCell ⟨ba, 2, none⟩ (.int .i64 5)) = z48 at h3 hm ho ⊢
      have HB := Lib.hid h3
      have HA := Lib.hid hm
      have HC := Lib.hid ho
      clear h3 hm ho
      refine wpAnyH_ready (rs := [14]) (by kernel_rfl) (by simp) ?_
      refine AllReadyH.cons rfl (fun K hK => ?_) AllReadyH.nil
      have f2 : z48.frozen? ⟨bb, 2, none⟩ = false := HC.out.free 2
      have v2 : z48.cell? ⟨bb, 2, none⟩ = some (.int .i64 0) := (HC.out.cell 2).trans rfl
      have f1 : z48.frozen? ⟨bb, 1, none⟩ = false := HC.out.free 1
      have v1 : z48.cell? ⟨bb, 1, none⟩ = some (.int .i64 0) := (HC.out.cell 1).trans rfl
      have f0 : z48.frozen? ⟨bb, 0, none⟩ = false := HC.out.free 0
      have v0 : z48.cell? ⟨bb, 0, none⟩ = some (.int .i64 0) := (HC.out.cell 0).trans rfl
      go_simp
      try go_wp2_with fail
      have h3 := (((HB.out.setCell (p := ⟨bb, 0, none⟩) Gbb.out (.int .i64 y.t)).setCell (p := ⟨bb, 1, none⟩) Gbb.out (.int .i64 y.q)).setCell (p := ⟨bb, 2, none⟩) Gbb.out (.int .i64 at'))
      have hm := put3 HC.out (.int .i64 y.t) (.int .i64 y.q) (.int .i64 at')
      have ho := (((HA.out.past (p := ⟨bb, 0, none⟩) HNE.out (.int .i64 y.t)).past (p := ⟨bb, 1, none⟩) HNE.out (.int .i64 y.q)).past (p := ⟨bb, 2, none⟩) HNE.out (.int .i64 at'))
      refine hK.out _ _ ?_ (fun hHeld => ?_)
      · with_reducible exact HS.out _ h3
      clear hK K hHeld f0 f1 f2 v0 v1 v2
      try simp only [Act.put, List.setIfInBounds_toArray, List.set_cons_zero, List.set_cons_succ]
      clear HB HC HA
      generalize (((z48.setCell ⟨bb, 0, none⟩ (.int .i64 y.t)).setCell ⟨bb, 1, none⟩ (.int .i64 y.q)).setCell ⟨bb, 2, none⟩ (.int .i64 at')) = z49 at h3 hm ho ⊢
      have HB := Lib.hid h3
      have HC := Lib.hid hm
      have HA := Lib.hid ho
      clear h3 hm ho
      refine wpAnyH_done (by kernel_rfl) ?_ _
      refine NoPanic.normal ?_
      go_wp2
      go_meet
      exact ⟨ba, bb, rfl, rfl, Lib.hid ⟨HB.out, HA.out, HC.out⟩⟩
    refine AllReadyH.cons rfl (fun K hK => ?_) AllReadyH.nil
    go_simp
    try go_wp2_with fail
    have h3 := HB.out.alloc HB.out.size (.cells #[.int .i64 0, .int .i64 0, .int .i64 0] 43)
    refine hK.out _ _ ?_ (fun hHeld => ?_)
    · with_reducible exact HS.out _ h3
    clear hK K hHeld
    try simp only [Act.put, List.setIfInBounds_toArray, List.set_cons_zero, List.set_cons_succ]
    have hm := Row.made z45 43 #[.int .i64 0, .int .i64 0, .int .i64 0]
    have hge := HB.out.size
    have ho := Row.alloc HC.out (.cells #[.int .i64 0, .int .i64 0, .int .i64 0] 43)
    have hlo := HC.out.lt
    clear HC
    clear HB
    generalize z45.alloc (.cells #[.int .i64 0, .int .i64 0, .int .i64 0] 43) = z50 at h3 hm hge ho hlo ⊢
    generalize z45.heap.size = ba at h3 hm hge ho hlo ⊢
    have HB := Lib.hid h3
    have HA := Lib.hid hm
    have Gba := Lib.hid hge
    clear h3 hm hge
    have HC := Lib.hid ho
    have HNE := Lib.hid (show ba ≠ bb by omega)
    clear ho hlo
    refine wpAnyH_ready (rs := [10]) (by kernel_rfl) (by simp) ?_
    refine AllReadyH.cons rfl (fun K hK => ?_) AllReadyH.nil
    go_simp
    go_at_call 16
    (with_reducible refine (stamp_any _ _ _ _ _ _ _ _ _).mono ?_)
    rintro e z51 ⟨rfl, hb⟩
    have ha := Row.below HA.out hb HA.out.lt
    clear HA
    have HA := Lib.hid ha
    clear ha
    have ha := Row.below HC.out hb HC.out.lt
    clear HC
    have HC := Lib.hid ha
    clear ha
    have h3 := HB.out.trans (hb.mono HB.out.size)
    clear HB
    have HB := Lib.hid h3
    clear hb h3
    try go_wp2_with fail
    refine hK.out _ _ ?_ (fun hHeld => ?_)
    · with_reducible exact HS.out _ HB.out
    clear hK K hHeld
    try simp only [Act.put, List.setIfInBounds_toArray, List.set_cons_zero, List.set_cons_succ]
    refine wpAnyH_ready (rs := [13]) (by kernel_rfl) (by simp) ?_
    refine AllReadyH.cons rfl (fun K hK => ?_) AllReadyH.nil
    have f2 : z51.frozen? ⟨ba, 2, none⟩ = false := HA.out.free 2
    have v2 : z51.cell? ⟨ba, 2, none⟩ = some (.int .i64 0) := (HA.out.cell 2).trans rfl
    have f1 : z51.frozen? ⟨ba, 1, none⟩ = false := HA.out.free 1
    have v1 : z51.cell? ⟨ba, 1, none⟩ = some (.int .i64 0) := (HA.out.cell 1).trans rfl
    have f0 : z51.frozen? ⟨ba, 0, none⟩ = false := HA.out.free 0
    have v0 : z51.cell? ⟨ba, 0, none⟩ = some (.int .i64 0) := (HA.out.cell 0).trans rfl
    go_simp
    try go_wp2_with fail
    have h3 := (((HB.out.setCell (p := ⟨ba, 0, none⟩) Gba.out (.int .i64 x.t)).setCell (p := ⟨ba, 1, none⟩) Gba.out (.int .i64 x.q)).setCell (p := ⟨ba, 2, none⟩) Gba.out (.int .i64 5))
    have hm := put3 HA.out (.int .i64 x.t) (.int .i64 x.q) (.int .i64 5)
    have ho := (((HC.out.past (p := ⟨ba, 0, none⟩) (fun e => HNE.out e.symm) (.int .i64 x.t)).past (p := ⟨ba, 1, none⟩) (fun e => HNE.out e.symm) (.int .i64 x.q)).past (p := ⟨ba, 2, none⟩) (fun e => HNE.out e.symm) (.int .i64 5))
    refine hK.out _ _ ?_ (fun hHeld => ?_)
    · with_reducible exact HS.out _ h3
    clear hK K hHeld f0 f1 f2 v0 v1 v2
    try simp only [Act.put, List.setIfInBounds_toArray, List.set_cons_zero, List.set_cons_succ]
    clear HB HA HC
    generalize (((z51.setCell ⟨ba, 0, none⟩ (.int .i64 x.t)).setCell ⟨ba, 1, none⟩ (.int .i64 x.q)).setCell ⟨ba, 2, none⟩ (.int .i64 5)) = z52 at h3 hm ho ⊢
    have HB := Lib.hid h3
    have HA := Lib.hid hm
    have HC := Lib.hid ho
    clear h3 hm ho
    refine wpAnyH_ready (rs := [14]) (by kernel_rfl) (by simp) ?_
    refine AllReadyH.cons rfl (fun K hK => ?_) AllReadyH.nil
    have f2 : z52.frozen? ⟨bb, 2, none⟩ = false := HC.out.free 2
    have v2 : z52.cell? ⟨bb, 2, none⟩ = some (.int .i64 0) := (HC.out.cell 2).trans rfl
    have f1 : z52.frozen? ⟨bb, 1, none⟩ = false := HC.out.free 1
    have v1 : z52.cell? ⟨bb, 1, none⟩ = some (.int .i64 0) := (HC.out.cell 1).trans rfl
    have f0 : z52.frozen? ⟨bb, 0, none⟩ = false := HC.out.free 0
    have v0 : z52.cell? ⟨bb, 0, none⟩ = some (.int .i64 0) := (HC.out.cell 0).trans rfl
    go_simp
    try go_wp2_with fail
    have h3 := (((HB.out.setCell (p := ⟨bb, 0, none⟩) Gbb.out (.int .i64 y.t)).setCell (p := ⟨bb, 1, none⟩) Gbb.out (.int .i64 y.q)).setCell (p := ⟨bb, 2, none⟩) Gbb.out (.int .i64 at'))
    have hm := put3 HC.out (.int .i64 y.t) (.int .i64 y.q) (.int .i64 at')
    have ho := (((HA.out.past (p := ⟨bb, 0, none⟩) HNE.out (.int .i64 y.t)).past (p := ⟨bb, 1, none⟩) HNE.out (.int .i64 y.q)).past (p := ⟨bb, 2, none⟩) HNE.out (.int .i64 at'))
    refine hK.out _ _ ?_ (fun hHeld => ?_)
    · with_reducible exact HS.out _ h3
    clear hK K hHeld f0 f1 f2 v0 v1 v2
    try simp only [Act.put, List.setIfInBounds_toArray, List.set_cons_zero, List.set_cons_succ]
    clear HB HC HA
    generalize (((z52.setCell ⟨bb, 0, none⟩ (.int .i64 y.t)).setCell ⟨bb, 1, none⟩ (.int .i64 y.q)).setCell ⟨bb, 2, none⟩ (.int .i64 at')) = z53 at h3 hm ho ⊢
    have HB := Lib.hid h3
    have HC := Lib.hid hm
    have HA := Lib.hid ho
    clear h3 hm ho
    refine wpAnyH_done (by kernel_rfl) ?_ _
    refine NoPanic.normal ?_
    go_wp2
    go_meet
    exact ⟨ba, bb, rfl, rfl, Lib.hid ⟨HB.out, HA.out, HC.out⟩⟩
  refine AllReadyH.cons rfl (fun K hK => ?_) AllReadyH.nil
  go_simp
  try go_wp2_with fail
  have h3 := HB.out.alloc HB.out.size (.cells #[.int .i64 0, .int .i64 0, .int .i64 0] 43)
  refine hK.out _ _ ?_ (fun hHeld => ?_)
  · with_reducible exact HS.out _ h3
  clear hK K hHeld
  try simp only [Act.put, List.setIfInBounds_toArray, List.set_cons_zero, List.set_cons_succ]
  have hm := Row.made z44 43 #[.int .i64 0, .int .i64 0, .int .i64 0]
  have hge := HB.out.size
  have ho := Row.alloc HC.out (.cells #[.int .i64 0, .int .i64 0, .int .i64 0] 43)
  have hlo := HC.out.lt
  clear HC
  clear HB
  generalize z44.alloc (.cells #[.int .i64 0, .int .i64 0, .int .i64 0] 43) = z54 at h3 hm hge ho hlo ⊢
  generalize z44.heap.size = ba at h3 hm hge ho hlo ⊢
  have HB := Lib.hid h3
  have HA := Lib.hid hm
  have Gba := Lib.hid hge
  clear h3 hm hge
  have HC := Lib.hid ho
  have HNE := Lib.hid (show ba ≠ bb by omega)
  clear ho hlo
  refine wpAnyH_ready (rs := [4]) (by kernel_rfl) (by simp) ?_
  refine AllReadyH.cons rfl (fun K hK => ?_) AllReadyH.nil
  go_simp
  go_at_call 16
  (with_reducible refine (stamp_any _ _ _ _ _ _ _ _ _).mono ?_)
  rintro e z55 ⟨rfl, hb⟩
  have ha := Row.below HA.out hb HA.out.lt
  clear HA
  have HA := Lib.hid ha
  clear ha
  have ha := Row.below HC.out hb HC.out.lt
  clear HC
  have HC := Lib.hid ha
  clear ha
  have h3 := HB.out.trans (hb.mono HB.out.size)
  clear HB
  have HB := Lib.hid h3
  clear hb h3
  try go_wp2_with fail
  refine hK.out _ _ ?_ (fun hHeld => ?_)
  · with_reducible exact HS.out _ HB.out
  clear hK K hHeld
  try simp only [Act.put, List.setIfInBounds_toArray, List.set_cons_zero, List.set_cons_succ]
  refine wpAnyH_ready (rs := [10]) (by kernel_rfl) (by simp) ?_
  refine AllReadyH.cons rfl (fun K hK => ?_) AllReadyH.nil
  go_simp
  go_at_call 16
  (with_reducible refine (stamp_any _ _ _ _ _ _ _ _ _).mono ?_)
  rintro e z56 ⟨rfl, hb⟩
  have ha := Row.below HA.out hb HA.out.lt
  clear HA
  have HA := Lib.hid ha
  clear ha
  have ha := Row.below HC.out hb HC.out.lt
  clear HC
  have HC := Lib.hid ha
  clear ha
  have h3 := HB.out.trans (hb.mono HB.out.size)
  clear HB
  have HB := Lib.hid h3
  clear hb h3
  try go_wp2_with fail
  refine hK.out _ _ ?_ (fun hHeld => ?_)
  · with_reducible exact HS.out _ HB.out
  clear hK K hHeld
  try simp only [Act.put, List.setIfInBounds_toArray, List.set_cons_zero, List.set_cons_succ]
  refine wpAnyH_ready (rs := [13]) (by kernel_rfl) (by simp) ?_
  refine AllReadyH.cons rfl (fun K hK => ?_) AllReadyH.nil
  have f2 : z56.frozen? ⟨ba, 2, none⟩ = false := HA.out.free 2
  have v2 : z56.cell? ⟨ba, 2, none⟩ = some (.int .i64 0) := (HA.out.cell 2).trans rfl
  have f1 : z56.frozen? ⟨ba, 1, none⟩ = false := HA.out.free 1
  have v1 : z56.cell? ⟨ba, 1, none⟩ = some (.int .i64 0) := (HA.out.cell 1).trans rfl
  have f0 : z56.frozen? ⟨ba, 0, none⟩ = false := HA.out.free 0
  have v0 : z56.cell? ⟨ba, 0, none⟩ = some (.int .i64 0) := (HA.out.cell 0).trans rfl
  go_simp
  try go_wp2_with fail
  have h3 := (((HB.out.setCell (p := ⟨ba, 0, none⟩) Gba.out (.int .i64 x.t)).setCell (p := ⟨ba, 1, none⟩) Gba.out (.int .i64 x.q)).setCell (p := ⟨ba, 2, none⟩) Gba.out (.int .i64 5))
  have hm := put3 HA.out (.int .i64 x.t) (.int .i64 x.q) (.int .i64 5)
  have ho := (((HC.out.past (p := ⟨ba, 0, none⟩) (fun e => HNE.out e.symm) (.int .i64 x.t)).past (p := ⟨ba, 1, none⟩) (fun e => HNE.out e.symm) (.int .i64 x.q)).past (p := ⟨ba, 2, none⟩) (fun e => HNE.out e.symm) (.int .i64 5))
  refine hK.out _ _ ?_ (fun hHeld => ?_)
  · with_reducible exact HS.out _ h3
  clear hK K hHeld f0 f1 f2 v0 v1 v2
  try simp only [Act.put, List.setIfInBounds_toArray, List.set_cons_zero, List.set_cons_succ]
  clear HB HA HC
  generalize (((z56.setCell ⟨ba, 0, none⟩ (.int .i64 x.t)).setCell ⟨ba, 1, none⟩ (.int .i64 x.q)).setCell ⟨ba, 2, none⟩ (.int .i64 5)) = z57 at h3 hm ho ⊢
  have HB := Lib.hid h3
  have HA := Lib.hid hm
  have HC := Lib.hid ho
  clear h3 hm ho
  refine wpAnyH_ready (rs := [14]) (by kernel_rfl) (by simp) ?_
  refine AllReadyH.cons rfl (fun K hK => ?_) AllReadyH.nil
  have f2 : z57.frozen? ⟨bb, 2, none⟩ = false := HC.out.free 2
  have v2 : z57.cell? ⟨bb, 2, none⟩ = some (.int .i64 0) := (HC.out.cell 2).trans rfl
  have f1 : z57.frozen? ⟨bb, 1, none⟩ = false := HC.out.free 1
  have v1 : z57.cell? ⟨bb, 1, none⟩ = some (.int .i64 0) := (HC.out.cell 1).trans rfl
  have f0 : z57.frozen? ⟨bb, 0, none⟩ = false := HC.out.free 0
  have v0 : z57.cell? ⟨bb, 0, none⟩ = some (.int .i64 0) := (HC.out.cell 0).trans rfl
  go_simp
  try go_wp2_with fail
  have h3 := (((HB.out.setCell (p := ⟨bb, 0, none⟩) Gbb.out (.int .i64 y.t)).setCell (p := ⟨bb, 1, none⟩) Gbb.out (.int .i64 y.q)).setCell (p := ⟨bb, 2, none⟩) Gbb.out (.int .i64 at'))
  have hm := put3 HC.out (.int .i64 y.t) (.int .i64 y.q) (.int .i64 at')
  have ho := (((HA.out.past (p := ⟨bb, 0, none⟩) HNE.out (.int .i64 y.t)).past (p := ⟨bb, 1, none⟩) HNE.out (.int .i64 y.q)).past (p := ⟨bb, 2, none⟩) HNE.out (.int .i64 at'))
  refine hK.out _ _ ?_ (fun hHeld => ?_)
  · with_reducible exact HS.out _ h3
  clear hK K hHeld f0 f1 f2 v0 v1 v2
  try simp only [Act.put, List.setIfInBounds_toArray, List.set_cons_zero, List.set_cons_succ]
  clear HB HC HA
  generalize (((z57.setCell ⟨bb, 0, none⟩ (.int .i64 y.t)).setCell ⟨bb, 1, none⟩ (.int .i64 y.q)).setCell ⟨bb, 2, none⟩ (.int .i64 at')) = z58 at h3 hm ho ⊢
  have HB := Lib.hid h3
  have HC := Lib.hid hm
  have HA := Lib.hid ho
  clear h3 hm ho
  refine wpAnyH_done (by kernel_rfl) ?_ _
  refine NoPanic.normal ?_
  go_wp2
  go_meet
  exact ⟨ba, bb, rfl, rfl, Lib.hid ⟨HB.out, HA.out, HC.out⟩⟩
end Go.Proofs.YtookojgemipakaaDoor.E6
