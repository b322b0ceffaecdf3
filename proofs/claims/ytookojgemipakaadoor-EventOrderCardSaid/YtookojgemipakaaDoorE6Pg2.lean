/- The law EventOrder: the events that are sorted; the first of its walk: a leaf. -/
import Derived.Test.YtookojgemipakaaDoorE6P
import Derived.Deep.RegionHeld
namespace Go.Proofs.YtookojgemipakaaDoor.E6
open Go.RowKit Go.Proofs.YtookojgemipakaaDoor Go.Proofs.YtookojgemipakaaDoor.Door Go.Proofs.YtookojgemipakaaDoor.Ev Go.Proofs.YtookojgemipakaaDoor.Sch Go.Proofs.YtookojgemipakaaDoor.Ty Go.Proofs.YtookojgemipakaaDoor.Evl Go.Proofs.YtookojgemipakaaDoor.E4
set_option linter.unusedVariables false
set_option maxRecDepth 100000
set_option maxHeartbeats 8000000 in
theorem part_E6P_g2 (A : Option Addr) (n c : Nat) (F : Nat → EI) (at' : Int) (w : World) (hnc : n ≤ c) (hc : c ≤ 9223372036854775807) (HL : Hid (ELies w w.heap.size A n F)) (HMM : Hid (ML w)) : (part_E6P A n c F at' w hnc hc HL HMM).G2 := by
  delta part_E6P
  intro g_last
  unhygienic intros
  obtain ⟨ba, bb, rfl, rfl, hcc⟩ := hcut
  obtain ⟨hbc, hra, hrb⟩ := hcc.out
  have HBC := Lib.hid hbc
  have hS2 : ∀ X, Below wc.heap.size wc X → X.cell? ⟨g1, o1 + i * 5, none⟩ = some (.string x.ty) ∧ X.cell? ⟨g1, o1 + i * 5 + 1, none⟩ = some (.string x.key) ∧ X.cell? ⟨g1, o1 + i * 5 + 2, none⟩ = some (.int .i64 x.t) ∧ X.cell? ⟨g1, o1 + i * 5 + 3, none⟩ = some (.int .i64 x.q) ∧ X.cell? ⟨g1, o1 + i * 5 + 4, none⟩ = some (.slice A1 n1 c1) ∧ X.cell? ⟨g1, o1 + k * 5, none⟩ = some (.string y.ty) ∧ X.cell? ⟨g1, o1 + k * 5 + 1, none⟩ = some (.string y.key) ∧ X.cell? ⟨g1, o1 + k * 5 + 2, none⟩ = some (.int .i64 y.t) ∧ X.cell? ⟨g1, o1 + k * 5 + 3, none⟩ = some (.int .i64 y.q) ∧ X.cell? ⟨g1, o1 + k * 5 + 4, none⟩ = some (.slice A2 n2 c2) ∧ X.cell? ⟨ba, 0, none⟩ = some (.int .i64 x.t) ∧ X.cell? ⟨ba, 1, none⟩ = some (.int .i64 x.q) ∧ X.cell? ⟨ba, 2, none⟩ = some (.int .i64 5) ∧ X.cell? ⟨bb, 0, none⟩ = some (.int .i64 y.t) ∧ X.cell? ⟨bb, 1, none⟩ = some (.int .i64 y.q) ∧ X.cell? ⟨bb, 2, none⟩ = some (.int .i64 at') := fun X hX => by
    obtain ⟨r0, r1, r2, r3, r4, r5, r6, r7, r8, r9⟩ := HS.out X (HBC.out.trans (hX.mono HBC.out.size))
    exact ⟨r0, r1, r2, r3, r4, r5, r6, r7, r8, r9, ((Row.below hra hX hra.lt).cell 0).trans rfl, ((Row.below hra hX hra.lt).cell 1).trans rfl, ((Row.below hra hX hra.lt).cell 2).trans rfl, ((Row.below hrb hX hrb.lt).cell 0).trans rfl, ((Row.below hrb hX hrb.lt).cell 1).trans rfl, ((Row.below hrb hX hrb.lt).cell 2).trans rfl⟩
  have HS2 := Lib.hid hS2
  have HBE := Lib.hid (before_any x.ty x.key y.ty y.key x.t x.q y.t y.q A1 A2 n1 n2 c1 c2)
  have HRB := Lib.hid (ref_before x.ty x.key y.ty y.key x.t x.q y.t y.q A1 A2 n1 n2 c1 c2)
  have HRB2 := Lib.hid (ref_before y.ty y.key x.ty x.key y.t y.q x.t x.q A2 A1 n2 n1 c2 c1)
  have HLS := Lib.hid (less_any x.t x.q 5 y.t y.q at')
  have HSM := Lib.hid (fun (X : World) (hX : Below wc.heap.size wc X) => have hh := HBC.out.trans (hX.mono HBC.out.size); same_gen x.ty x.key y.ty y.key x.t x.q y.t y.q A1 A2 n1 n2 c1 c2 x.vs y.vs X (HV1.out.below hh hh.size) (HV2.out.below hh hh.size))
  have HRS := Lib.hid (fun (X : World) (hX : Below wc.heap.size wc X) => have hh := HBC.out.trans (hX.mono HBC.out.size); ref_same x.ty x.key y.ty y.key x.t x.q y.t y.q A1 A2 n1 n2 c1 c2 x.vs y.vs X (HV1.out.below hh hh.size) (HV2.out.below hh hh.size))
  have hle := less_bef x.t x.q y.t y.q at'
  obtain ⟨B1, hB1⟩ : ∃ b, bef x.t x.q y.t y.q = b := ⟨_, rfl⟩
  obtain ⟨B2, hB2⟩ : ∃ b, bef y.t y.q x.t x.q = b := ⟨_, rfl⟩
  obtain ⟨SE, hSE⟩ : ∃ b, sameE x.ty x.key x.t x.q x.vs y.ty y.key y.t y.q y.vs = b := ⟨_, rfl⟩
  obtain ⟨LS, hLS⟩ : ∃ b, lessS x.t x.q 5 y.t y.q at' = b := ⟨_, rfl⟩
  rw [hB1] at HBE HRB hle
  rw [hB2] at HRB2 hle
  rw [hSE] at HSM HRS
  rw [hLS] at HLS hle
  have HB : Hid (Below wc.heap.size wc wc.drew) := (Below.refl _ wc).drew
  clear hcc hbc hra hrb hS2 hB1 hB2 hSE hLS p0 p1 p2 p3 p4 q0 q1 q2 q3 q4
  have HLE := Lib.hid hle
  clear hle
  go_upto_region 18 with fail
  simp only [List.append_eq, List.cons_append, List.nil_append]
  refine wp_region_noPanic ?_
  refine wp_region_held_drew (S := (fun X => X.cell? ⟨g1, o1 + i * 5, none⟩ = some (.string x.ty) ∧ X.cell? ⟨g1, o1 + i * 5 + 1, none⟩ = some (.string x.key) ∧ X.cell? ⟨g1, o1 + i * 5 + 2, none⟩ = some (.int .i64 x.t) ∧ X.cell? ⟨g1, o1 + i * 5 + 3, none⟩ = some (.int .i64 x.q) ∧ X.cell? ⟨g1, o1 + i * 5 + 4, none⟩ = some (.slice A1 n1 c1) ∧ X.cell? ⟨g1, o1 + k * 5, none⟩ = some (.string y.ty) ∧ X.cell? ⟨g1, o1 + k * 5 + 1, none⟩ = some (.string y.key) ∧ X.cell? ⟨g1, o1 + k * 5 + 2, none⟩ = some (.int .i64 y.t) ∧ X.cell? ⟨g1, o1 + k * 5 + 3, none⟩ = some (.int .i64 y.q) ∧ X.cell? ⟨g1, o1 + k * 5 + 4, none⟩ = some (.slice A2 n2 c2) ∧ X.cell? ⟨ba, 0, none⟩ = some (.int .i64 x.t) ∧ X.cell? ⟨ba, 1, none⟩ = some (.int .i64 x.q) ∧ X.cell? ⟨ba, 2, none⟩ = some (.int .i64 5) ∧ X.cell? ⟨bb, 0, none⟩ = some (.int .i64 y.t) ∧ X.cell? ⟨bb, 1, none⟩ = some (.int .i64 y.q) ∧ X.cell? ⟨bb, 2, none⟩ = some (.int .i64 at'))) (by kernel_rfl) ?_ (fun hHeld => ?_)
  · exact HS2.out _ HB.out
  refine take_at 0 70 _ (v := ?v70) rfl rfl (by kernel_rfl) (by kernel_rfl) (by kernel_rfl) (fun _ _ _ h => h) (Or.inl ⟨by rfl, ?hy70⟩) (by assumption) ?rest70
  case hy70 =>
    intro wX hSw
    try dsimp only at hSw
    go_simp
    first
    | done
    | (with_reducible rfl)
  try simp only [Act.put, List.setIfInBounds_toArray, List.set_cons_zero, List.set_cons_succ]
  refine take_at 1 71 _ (v := ?v71) rfl rfl (by kernel_rfl) (by kernel_rfl) (by kernel_rfl) (fun _ _ _ h => h) (Or.inl ⟨by rfl, ?hy71⟩) (by assumption) ?rest71
  case hy71 =>
    intro wX hSw
    try dsimp only at hSw
    go_simp
    first
    | done
    | (with_reducible rfl)
  try simp only [Act.put, List.setIfInBounds_toArray, List.set_cons_zero, List.set_cons_succ]
  refine take_at 2 72 _ (v := ?v72) rfl rfl (by kernel_rfl) (by kernel_rfl) (by kernel_rfl) (fun _ _ _ h => h) (Or.inl ⟨by rfl, ?hy72⟩) (by assumption) ?rest72
  case hy72 =>
    intro wX hSw
    try dsimp only at hSw
    go_simp
    first
    | done
    | (with_reducible rfl)
  try simp only [Act.put, List.setIfInBounds_toArray, List.set_cons_zero, List.set_cons_succ]
  refine take_at 3 73 _ (v := ?v73) rfl rfl (by kernel_rfl) (by kernel_rfl) (by kernel_rfl) (fun _ _ _ h => h) (Or.inl ⟨by rfl, ?hy73⟩) (by assumption) ?rest73
  case hy73 =>
    intro wX hSw
    try dsimp only at hSw
    go_simp
    first
    | done
    | (with_reducible rfl)
  try simp only [Act.put, List.setIfInBounds_toArray, List.set_cons_zero, List.set_cons_succ]
  refine take_at 4 74 _ (v := ?v74) rfl rfl (by kernel_rfl) (by kernel_rfl) (by kernel_rfl) (fun _ _ _ h => h) (Or.inl ⟨by rfl, ?hy74⟩) (by assumption) ?rest74
  case hy74 =>
    intro wX hSw
    try dsimp only at hSw
    go_simp
    first
    | done
    | (with_reducible rfl)
  try simp only [Act.put, List.setIfInBounds_toArray, List.set_cons_zero, List.set_cons_succ]
  refine take_at 5 75 _ (v := ?v75) rfl rfl (by kernel_rfl) (by kernel_rfl) (by kernel_rfl) (fun _ _ _ h => h) (Or.inl ⟨by rfl, ?hy75⟩) (by assumption) ?rest75
  case hy75 =>
    intro wX hSw
    try dsimp only at hSw
    go_simp
    first
    | done
    | (with_reducible rfl)
  try simp only [Act.put, List.setIfInBounds_toArray, List.set_cons_zero, List.set_cons_succ]
  refine take_at 6 76 _ (v := ?v76) rfl rfl (by kernel_rfl) (by kernel_rfl) (by kernel_rfl) (fun _ _ _ h => h) (Or.inl ⟨by rfl, ?hy76⟩) (by assumption) ?rest76
  case hy76 =>
    intro wX hSw
    try dsimp only at hSw
    go_simp
    first
    | done
    | (with_reducible rfl)
  try simp only [Act.put, List.setIfInBounds_toArray, List.set_cons_zero, List.set_cons_succ]
  refine take_at 7 77 _ (v := ?v77) rfl rfl (by kernel_rfl) (by kernel_rfl) (by kernel_rfl) (fun _ _ _ h => h) (Or.inl ⟨by rfl, ?hy77⟩) (by assumption) ?rest77
  case hy77 =>
    intro wX hSw
    try dsimp only at hSw
    go_simp
    first
    | done
    | (with_reducible rfl)
  try simp only [Act.put, List.setIfInBounds_toArray, List.set_cons_zero, List.set_cons_succ]
  refine take_at 9 79 _ (v := ?v79) rfl rfl (by kernel_rfl) (by kernel_rfl) (by kernel_rfl) (fun _ _ _ h => h) (Or.inl ⟨by rfl, ?hy79⟩) (by assumption) ?rest79
  case hy79 =>
    intro wX hSw
    try dsimp only at hSw
    go_simp
    first
    | done
    | (with_reducible rfl)
  try simp only [Act.put, List.setIfInBounds_toArray, List.set_cons_zero, List.set_cons_succ]
  refine take_at 10 80 _ (v := ?v710) rfl rfl (by kernel_rfl) (by kernel_rfl) (by kernel_rfl) (fun _ _ _ h => h) (Or.inl ⟨by rfl, ?hy710⟩) (by assumption) ?rest710
  case hy710 =>
    intro wX hSw
    try dsimp only at hSw
    go_simp
    first
    | done
    | (with_reducible rfl)
  try simp only [Act.put, List.setIfInBounds_toArray, List.set_cons_zero, List.set_cons_succ]
  refine take_at 11 81 _ (v := ?v711) rfl rfl (by kernel_rfl) (by kernel_rfl) (by kernel_rfl) (fun _ _ _ h => h) (Or.inl ⟨by rfl, ?hy711⟩) (by assumption) ?rest711
  case hy711 =>
    intro wX hSw
    try dsimp only at hSw
    go_simp
    first
    | done
    | (with_reducible rfl)
  try simp only [Act.put, List.setIfInBounds_toArray, List.set_cons_zero, List.set_cons_succ]
  refine take_at 12 82 _ (v := ?v712) rfl rfl (by kernel_rfl) (by kernel_rfl) (by kernel_rfl) (fun _ _ _ h => h) (Or.inl ⟨by rfl, ?hy712⟩) (by assumption) ?rest712
  case hy712 =>
    intro wX hSw
    try dsimp only at hSw
    go_simp
    first
    | done
    | (with_reducible rfl)
  try simp only [Act.put, List.setIfInBounds_toArray, List.set_cons_zero, List.set_cons_succ]
  refine take_at 13 83 _ (v := ?v713) rfl rfl (by kernel_rfl) (by kernel_rfl) (by kernel_rfl) (fun _ _ _ h => h) (Or.inl ⟨by rfl, ?hy713⟩) (by assumption) ?rest713
  case hy713 =>
    intro wX hSw
    try dsimp only at hSw
    go_simp
    first
    | done
    | (with_reducible rfl)
  try simp only [Act.put, List.setIfInBounds_toArray, List.set_cons_zero, List.set_cons_succ]
  refine take_at 14 84 _ (v := ?v714) rfl rfl (by kernel_rfl) (by kernel_rfl) (by kernel_rfl) (fun _ _ _ h => h) (Or.inl ⟨by rfl, ?hy714⟩) (by assumption) ?rest714
  case hy714 =>
    intro wX hSw
    try dsimp only at hSw
    go_simp
    first
    | done
    | (with_reducible rfl)
  try simp only [Act.put, List.setIfInBounds_toArray, List.set_cons_zero, List.set_cons_succ]
  refine take_at 15 85 _ (v := ?v715) rfl rfl (by kernel_rfl) (by kernel_rfl) (by kernel_rfl) (fun _ _ _ h => h) (Or.inl ⟨by rfl, ?hy715⟩) (by assumption) ?rest715
  case hy715 =>
    intro wX hSw
    try dsimp only at hSw
    go_simp
    first
    | done
    | (with_reducible rfl)
  try simp only [Act.put, List.setIfInBounds_toArray, List.set_cons_zero, List.set_cons_succ]
  refine take_at 16 86 _ (v := ?v716) rfl rfl (by kernel_rfl) (by kernel_rfl) (by kernel_rfl) (fun _ _ _ h => h) (Or.inl ⟨by rfl, ?hy716⟩) (by assumption) ?rest716
  case hy716 =>
    intro wX hSw
    try dsimp only at hSw
    go_simp
    first
    | done
    | (with_reducible rfl)
  try simp only [Act.put, List.setIfInBounds_toArray, List.set_cons_zero, List.set_cons_succ]
  refine wpAnyH_ready (rs := [8]) (by kernel_rfl) (by simp) ?_
  refine AllReadyH.cons rfl (fun K hK => ?_) AllReadyH.nil
  go_simp
  go_at_call 17
  (with_reducible refine (HBE.out _).mono ?_)
  rintro e y1 ⟨rfl, hb⟩
  have h3 := HB.out.trans (hb.mono HB.out.size)
  clear HB
  have HB := Lib.hid h3
  clear hb h3
  try go_wp2_with fail
  refine hK.out _ _ ?_ (fun hHeld => ?_)
  · exact HS2.out _ HB.out
  clear hK K
  try simp only [Act.put, List.setIfInBounds_toArray, List.set_cons_zero, List.set_cons_succ]
  refine wpAnyH_ready (rs := [17]) (by kernel_rfl) (by simp) ?_
  refine AllReadyH.cons rfl (fun K hK => ?_) AllReadyH.nil
  go_simp
  go_at_call 18
  (with_reducible refine (HRB.out _).mono ?_)
  rintro e y2 ⟨rfl, hb⟩
  have h3 := HB.out.trans (hb.mono HB.out.size)
  clear HB
  have HB := Lib.hid h3
  clear hb h3
  try go_wp2_with fail
  refine hK.out _ _ ?_ (fun hHeld => ?_)
  · exact HS2.out _ HB.out
  clear hK K
  try simp only [Act.put, List.setIfInBounds_toArray, List.set_cons_zero, List.set_cons_succ]
  refine take_at 18 88 _ (v := ?v718) rfl rfl (by kernel_rfl) (by kernel_rfl) (by kernel_rfl) (fun _ _ _ h => h) (Or.inl ⟨by rfl, ?hy718⟩) (by assumption) ?rest718
  case hy718 =>
    intro wX hSw
    try dsimp only at hSw
    go_simp
    first
    | done
    | (with_reducible rfl)
  try simp only [Act.put, List.setIfInBounds_toArray, List.set_cons_zero, List.set_cons_succ]
  refine take_at 19 89 _ (v := ?v719) rfl rfl (by kernel_rfl) (by kernel_rfl) (by kernel_rfl) (fun _ _ _ h => h) (Or.inl ⟨by rfl, ?hy719⟩) (by assumption) ?rest719
  case hy719 =>
    intro wX hSw
    try dsimp only at hSw
    go_simp
    first
    | done
    | (with_reducible rfl)
  try simp only [Act.put, List.setIfInBounds_toArray, List.set_cons_zero, List.set_cons_succ]
  refine take_at 20 90 _ (v := ?v720) rfl rfl (by kernel_rfl) (by kernel_rfl) (by kernel_rfl) (fun _ _ _ h => h) (Or.inl ⟨by rfl, ?hy720⟩) (by assumption) ?rest720
  case hy720 =>
    intro wX hSw
    try dsimp only at hSw
    go_simp
    first
    | done
    | (with_reducible rfl)
  try simp only [Act.put, List.setIfInBounds_toArray, List.set_cons_zero, List.set_cons_succ]
  refine take_at 21 91 _ (v := ?v721) rfl rfl (by kernel_rfl) (by kernel_rfl) (by kernel_rfl) (fun _ _ _ h => h) (Or.inl ⟨by rfl, ?hy721⟩) (by assumption) ?rest721
  case hy721 =>
    intro wX hSw
    try dsimp only at hSw
    go_simp
    first
    | done
    | (with_reducible rfl)
  try simp only [Act.put, List.setIfInBounds_toArray, List.set_cons_zero, List.set_cons_succ]
  refine take_at 22 92 _ (v := ?v722) rfl rfl (by kernel_rfl) (by kernel_rfl) (by kernel_rfl) (fun _ _ _ h => h) (Or.inl ⟨by rfl, ?hy722⟩) (by assumption) ?rest722
  case hy722 =>
    intro wX hSw
    try dsimp only at hSw
    go_simp
    first
    | done
    | (with_reducible rfl)
  try simp only [Act.put, List.setIfInBounds_toArray, List.set_cons_zero, List.set_cons_succ]
  refine take_at 23 93 _ (v := ?v723) rfl rfl (by kernel_rfl) (by kernel_rfl) (by kernel_rfl) (fun _ _ _ h => h) (Or.inl ⟨by rfl, ?hy723⟩) (by assumption) ?rest723
  case hy723 =>
    intro wX hSw
    try dsimp only at hSw
    go_simp
    first
    | done
    | (with_reducible rfl)
  try simp only [Act.put, List.setIfInBounds_toArray, List.set_cons_zero, List.set_cons_succ]
  refine take_at 24 94 _ (v := ?v724) rfl rfl (by kernel_rfl) (by kernel_rfl) (by kernel_rfl) (fun _ _ _ h => h) (Or.inl ⟨by rfl, ?hy724⟩) (by assumption) ?rest724
  case hy724 =>
    intro wX hSw
    try dsimp only at hSw
    go_simp
    first
    | done
    | (with_reducible rfl)
  try simp only [Act.put, List.setIfInBounds_toArray, List.set_cons_zero, List.set_cons_succ]
  refine take_at 25 95 _ (v := ?v725) rfl rfl (by kernel_rfl) (by kernel_rfl) (by kernel_rfl) (fun _ _ _ h => h) (Or.inl ⟨by rfl, ?hy725⟩) (by assumption) ?rest725
  case hy725 =>
    intro wX hSw
    try dsimp only at hSw
    go_simp
    first
    | done
    | (with_reducible rfl)
  try simp only [Act.put, List.setIfInBounds_toArray, List.set_cons_zero, List.set_cons_succ]
  refine take_at 26 96 _ (v := ?v726) rfl rfl (by kernel_rfl) (by kernel_rfl) (by kernel_rfl) (fun _ _ _ h => h) (Or.inl ⟨by rfl, ?hy726⟩) (by assumption) ?rest726
  case hy726 =>
    intro wX hSw
    try dsimp only at hSw
    go_simp
    first
    | done
    | (with_reducible rfl)
  try simp only [Act.put, List.setIfInBounds_toArray, List.set_cons_zero, List.set_cons_succ]
  refine take_at 27 97 _ (v := ?v727) rfl rfl (by kernel_rfl) (by kernel_rfl) (by kernel_rfl) (fun _ _ _ h => h) (Or.inl ⟨by rfl, ?hy727⟩) (by assumption) ?rest727
  case hy727 =>
    intro wX hSw
    try dsimp only at hSw
    go_simp
    first
    | done
    | (with_reducible rfl)
  try simp only [Act.put, List.setIfInBounds_toArray, List.set_cons_zero, List.set_cons_succ]
  refine take_at 29 99 _ (v := ?v729) rfl rfl (by kernel_rfl) (by kernel_rfl) (by kernel_rfl) (fun _ _ _ h => h) (Or.inl ⟨by rfl, ?hy729⟩) (by assumption) ?rest729
  case hy729 =>
    intro wX hSw
    try dsimp only at hSw
    go_simp
    first
    | done
    | (with_reducible rfl)
  try simp only [Act.put, List.setIfInBounds_toArray, List.set_cons_zero, List.set_cons_succ]
  refine take_at 30 100 _ (v := ?v730) rfl rfl (by kernel_rfl) (by kernel_rfl) (by kernel_rfl) (fun _ _ _ h => h) (Or.inl ⟨by rfl, ?hy730⟩) (by assumption) ?rest730
  case hy730 =>
    intro wX hSw
    try dsimp only at hSw
    go_simp
    first
    | done
    | (with_reducible rfl)
  try simp only [Act.put, List.setIfInBounds_toArray, List.set_cons_zero, List.set_cons_succ]
  refine take_at 31 101 _ (v := ?v731) rfl rfl (by kernel_rfl) (by kernel_rfl) (by kernel_rfl) (fun _ _ _ h => h) (Or.inl ⟨by rfl, ?hy731⟩) (by assumption) ?rest731
  case hy731 =>
    intro wX hSw
    try dsimp only at hSw
    go_simp
    first
    | done
    | (with_reducible rfl)
  try simp only [Act.put, List.setIfInBounds_toArray, List.set_cons_zero, List.set_cons_succ]
  refine take_at 32 102 _ (v := ?v732) rfl rfl (by kernel_rfl) (by kernel_rfl) (by kernel_rfl) (fun _ _ _ h => h) (Or.inl ⟨by rfl, ?hy732⟩) (by assumption) ?rest732
  case hy732 =>
    intro wX hSw
    try dsimp only at hSw
    go_simp
    first
    | done
    | (with_reducible rfl)
  try simp only [Act.put, List.setIfInBounds_toArray, List.set_cons_zero, List.set_cons_succ]
  refine take_at 33 103 _ (v := ?v733) rfl rfl (by kernel_rfl) (by kernel_rfl) (by kernel_rfl) (fun _ _ _ h => h) (Or.inl ⟨by rfl, ?hy733⟩) (by assumption) ?rest733
  case hy733 =>
    intro wX hSw
    try dsimp only at hSw
    go_simp
    first
    | done
    | (with_reducible rfl)
  try simp only [Act.put, List.setIfInBounds_toArray, List.set_cons_zero, List.set_cons_succ]
  refine take_at 34 104 _ (v := ?v734) rfl rfl (by kernel_rfl) (by kernel_rfl) (by kernel_rfl) (fun _ _ _ h => h) (Or.inl ⟨by rfl, ?hy734⟩) (by assumption) ?rest734
  case hy734 =>
    intro wX hSw
    try dsimp only at hSw
    go_simp
    first
    | done
    | (with_reducible rfl)
  try simp only [Act.put, List.setIfInBounds_toArray, List.set_cons_zero, List.set_cons_succ]
  refine take_at 35 105 _ (v := ?v735) rfl rfl (by kernel_rfl) (by kernel_rfl) (by kernel_rfl) (fun _ _ _ h => h) (Or.inl ⟨by rfl, ?hy735⟩) (by assumption) ?rest735
  case hy735 =>
    intro wX hSw
    try dsimp only at hSw
    go_simp
    first
    | done
    | (with_reducible rfl)
  try simp only [Act.put, List.setIfInBounds_toArray, List.set_cons_zero, List.set_cons_succ]
  refine take_at 36 106 _ (v := ?v736) rfl rfl (by kernel_rfl) (by kernel_rfl) (by kernel_rfl) (fun _ _ _ h => h) (Or.inl ⟨by rfl, ?hy736⟩) (by assumption) ?rest736
  case hy736 =>
    intro wX hSw
    try dsimp only at hSw
    go_simp
    first
    | done
    | (with_reducible rfl)
  try simp only [Act.put, List.setIfInBounds_toArray, List.set_cons_zero, List.set_cons_succ]
  refine wpAnyH_ready (rs := [28]) (by kernel_rfl) (by simp) ?_
  refine AllReadyH.cons rfl (fun K hK => ?_) AllReadyH.nil
  go_simp
  go_at_call 19
  (with_reducible refine (HSM.out _ HB.out).mono ?_)
  rintro e y3 ⟨rfl, hb⟩
  have h3 := HB.out.trans (hb.mono HB.out.size)
  clear HB
  have HB := Lib.hid h3
  clear hb h3
  try go_wp2_with fail
  refine hK.out _ _ ?_ (fun hHeld => ?_)
  · exact HS2.out _ HB.out
  clear hK K
  try simp only [Act.put, List.setIfInBounds_toArray, List.set_cons_zero, List.set_cons_succ]
  refine wpAnyH_ready (rs := [37]) (by kernel_rfl) (by simp) ?_
  refine AllReadyH.cons rfl (fun K hK => ?_) AllReadyH.nil
  go_simp
  go_at_call 20
  (with_reducible refine (HRS.out _ HB.out).mono ?_)
  rintro e y4 ⟨rfl, hb⟩
  have h3 := HB.out.trans (hb.mono HB.out.size)
  clear HB
  have HB := Lib.hid h3
  clear hb h3
  try go_wp2_with fail
  refine hK.out _ _ ?_ (fun hHeld => ?_)
  · exact HS2.out _ HB.out
  clear hK K
  try simp only [Act.put, List.setIfInBounds_toArray, List.set_cons_zero, List.set_cons_succ]
  refine take_at 38 108 _ (v := ?v738) rfl rfl (by kernel_rfl) (by kernel_rfl) (by kernel_rfl) (fun _ _ _ h => h) (Or.inl ⟨by rfl, ?hy738⟩) (by assumption) ?rest738
  case hy738 =>
    intro wX hSw
    try dsimp only at hSw
    go_simp
    first
    | done
    | (with_reducible rfl)
  try simp only [Act.put, List.setIfInBounds_toArray, List.set_cons_zero, List.set_cons_succ]
  refine take_at 39 109 _ (v := ?v739) rfl rfl (by kernel_rfl) (by kernel_rfl) (by kernel_rfl) (fun _ _ _ h => h) (Or.inl ⟨by rfl, ?hy739⟩) (by assumption) ?rest739
  case hy739 =>
    intro wX hSw
    try dsimp only at hSw
    go_simp
    first
    | done
    | (with_reducible rfl)
  try simp only [Act.put, List.setIfInBounds_toArray, List.set_cons_zero, List.set_cons_succ]
  refine take_at 40 110 _ (v := ?v740) rfl rfl (by kernel_rfl) (by kernel_rfl) (by kernel_rfl) (fun _ _ _ h => h) (Or.inl ⟨by rfl, ?hy740⟩) (by assumption) ?rest740
  case hy740 =>
    intro wX hSw
    try dsimp only at hSw
    go_simp
    first
    | done
    | (with_reducible rfl)
  try simp only [Act.put, List.setIfInBounds_toArray, List.set_cons_zero, List.set_cons_succ]
  refine take_at 41 111 _ (v := ?v741) rfl rfl (by kernel_rfl) (by kernel_rfl) (by kernel_rfl) (fun _ _ _ h => h) (Or.inl ⟨by rfl, ?hy741⟩) (by assumption) ?rest741
  case hy741 =>
    intro wX hSw
    try dsimp only at hSw
    go_simp
    first
    | done
    | (with_reducible rfl)
  try simp only [Act.put, List.setIfInBounds_toArray, List.set_cons_zero, List.set_cons_succ]
  refine take_at 42 112 _ (v := ?v742) rfl rfl (by kernel_rfl) (by kernel_rfl) (by kernel_rfl) (fun _ _ _ h => h) (Or.inl ⟨by rfl, ?hy742⟩) (by assumption) ?rest742
  case hy742 =>
    intro wX hSw
    try dsimp only at hSw
    go_simp
    first
    | done
    | (with_reducible rfl)
  try simp only [Act.put, List.setIfInBounds_toArray, List.set_cons_zero, List.set_cons_succ]
  refine take_at 43 113 _ (v := ?v743) rfl rfl (by kernel_rfl) (by kernel_rfl) (by kernel_rfl) (fun _ _ _ h => h) (Or.inl ⟨by rfl, ?hy743⟩) (by assumption) ?rest743
  case hy743 =>
    intro wX hSw
    try dsimp only at hSw
    go_simp
    first
    | done
    | (with_reducible rfl)
  try simp only [Act.put, List.setIfInBounds_toArray, List.set_cons_zero, List.set_cons_succ]
  refine take_at 44 114 _ (v := ?v744) rfl rfl (by kernel_rfl) (by kernel_rfl) (by kernel_rfl) (fun _ _ _ h => h) (Or.inl ⟨by rfl, ?hy744⟩) (by assumption) ?rest744
  case hy744 =>
    intro wX hSw
    try dsimp only at hSw
    go_simp
    first
    | done
    | (with_reducible rfl)
  try simp only [Act.put, List.setIfInBounds_toArray, List.set_cons_zero, List.set_cons_succ]
  refine take_at 45 115 _ (v := ?v745) rfl rfl (by kernel_rfl) (by kernel_rfl) (by kernel_rfl) (fun _ _ _ h => h) (Or.inl ⟨by rfl, ?hy745⟩) (by assumption) ?rest745
  case hy745 =>
    intro wX hSw
    try dsimp only at hSw
    go_simp
    first
    | done
    | (with_reducible rfl)
  try simp only [Act.put, List.setIfInBounds_toArray, List.set_cons_zero, List.set_cons_succ]
  refine take_at 46 116 _ (v := ?v746) rfl rfl (by kernel_rfl) (by kernel_rfl) (by kernel_rfl) (fun _ _ _ h => h) (Or.inl ⟨by rfl, ?hy746⟩) (by assumption) ?rest746
  case hy746 =>
    intro wX hSw
    try dsimp only at hSw
    go_simp
    first
    | done
    | (with_reducible rfl)
  try simp only [Act.put, List.setIfInBounds_toArray, List.set_cons_zero, List.set_cons_succ]
  refine take_at 47 117 _ (v := ?v747) rfl rfl (by kernel_rfl) (by kernel_rfl) (by kernel_rfl) (fun _ _ _ h => h) (Or.inl ⟨by rfl, ?hy747⟩) (by assumption) ?rest747
  case hy747 =>
    intro wX hSw
    try dsimp only at hSw
    go_simp
    first
    | done
    | (with_reducible rfl)
  try simp only [Act.put, List.setIfInBounds_toArray, List.set_cons_zero, List.set_cons_succ]
  refine take_at 48 118 _ (v := ?v748) rfl rfl (by kernel_rfl) (by kernel_rfl) (by kernel_rfl) (fun _ _ _ h => h) (Or.inl ⟨by rfl, ?hy748⟩) (by assumption) ?rest748
  case hy748 =>
    intro wX hSw
    try dsimp only at hSw
    go_simp
    first
    | done
    | (with_reducible rfl)
  try simp only [Act.put, List.setIfInBounds_toArray, List.set_cons_zero, List.set_cons_succ]
  refine take_at 49 119 _ (v := ?v749) rfl rfl (by kernel_rfl) (by kernel_rfl) (by kernel_rfl) (fun _ _ _ h => h) (Or.inl ⟨by rfl, ?hy749⟩) (by assumption) ?rest749
  case hy749 =>
    intro wX hSw
    try dsimp only at hSw
    go_simp
    first
    | done
    | (with_reducible rfl)
  try simp only [Act.put, List.setIfInBounds_toArray, List.set_cons_zero, List.set_cons_succ]
  refine take_at 50 120 _ (v := ?v750) rfl rfl (by kernel_rfl) (by kernel_rfl) (by kernel_rfl) (fun _ _ _ h => h) (Or.inl ⟨by rfl, ?hy750⟩) (by assumption) ?rest750
  case hy750 =>
    intro wX hSw
    try dsimp only at hSw
    go_simp
    first
    | done
    | (with_reducible rfl)
  try simp only [Act.put, List.setIfInBounds_toArray, List.set_cons_zero, List.set_cons_succ]
  refine take_at 51 121 _ (v := ?v751) rfl rfl (by kernel_rfl) (by kernel_rfl) (by kernel_rfl) (fun _ _ _ h => h) (Or.inl ⟨by rfl, ?hy751⟩) (by assumption) ?rest751
  case hy751 =>
    intro wX hSw
    try dsimp only at hSw
    go_simp
    first
    | done
    | (with_reducible rfl)
  try simp only [Act.put, List.setIfInBounds_toArray, List.set_cons_zero, List.set_cons_succ]
  refine take_at 52 122 _ (v := ?v752) rfl rfl (by kernel_rfl) (by kernel_rfl) (by kernel_rfl) (fun _ _ _ h => h) (Or.inl ⟨by rfl, ?hy752⟩) (by assumption) ?rest752
  case hy752 =>
    intro wX hSw
    try dsimp only at hSw
    go_simp
    first
    | done
    | (with_reducible rfl)
  try simp only [Act.put, List.setIfInBounds_toArray, List.set_cons_zero, List.set_cons_succ]
  refine take_at 53 123 _ (v := ?v753) rfl rfl (by kernel_rfl) (by kernel_rfl) (by kernel_rfl) (fun _ _ _ h => h) (Or.inl ⟨by rfl, ?hy753⟩) (by assumption) ?rest753
  case hy753 =>
    intro wX hSw
    try dsimp only at hSw
    go_simp
    first
    | done
    | (with_reducible rfl)
  try simp only [Act.put, List.setIfInBounds_toArray, List.set_cons_zero, List.set_cons_succ]
  refine take_at 54 124 _ (v := ?v754) rfl rfl (by kernel_rfl) (by kernel_rfl) (by kernel_rfl) (fun _ _ _ h => h) (Or.inl ⟨by rfl, ?hy754⟩) (by assumption) ?rest754
  case hy754 =>
    intro wX hSw
    try dsimp only at hSw
    go_simp
    first
    | done
    | (with_reducible rfl)
  try simp only [Act.put, List.setIfInBounds_toArray, List.set_cons_zero, List.set_cons_succ]
  refine take_at 55 125 _ (v := ?v755) rfl rfl (by kernel_rfl) (by kernel_rfl) (by kernel_rfl) (fun _ _ _ h => h) (Or.inl ⟨by rfl, ?hy755⟩) (by assumption) ?rest755
  case hy755 =>
    intro wX hSw
    try dsimp only at hSw
    go_simp
    first
    | done
    | (with_reducible rfl)
  try simp only [Act.put, List.setIfInBounds_toArray, List.set_cons_zero, List.set_cons_succ]
  refine take_at 56 126 _ (v := ?v756) rfl rfl (by kernel_rfl) (by kernel_rfl) (by kernel_rfl) (fun _ _ _ h => h) (Or.inl ⟨by rfl, ?hy756⟩) (by assumption) ?rest756
  case hy756 =>
    intro wX hSw
    try dsimp only at hSw
    go_simp
    first
    | done
    | (with_reducible rfl)
  try simp only [Act.put, List.setIfInBounds_toArray, List.set_cons_zero, List.set_cons_succ]
  refine take_at 57 127 _ (v := ?v757) rfl rfl (by kernel_rfl) (by kernel_rfl) (by kernel_rfl) (fun _ _ _ h => h) (Or.inl ⟨by rfl, ?hy757⟩) (by assumption) ?rest757
  case hy757 =>
    intro wX hSw
    try dsimp only at hSw
    go_simp
    first
    | done
    | (with_reducible rfl)
  try simp only [Act.put, List.setIfInBounds_toArray, List.set_cons_zero, List.set_cons_succ]
  refine take_at 58 128 _ (v := ?v758) rfl rfl (by kernel_rfl) (by kernel_rfl) (by kernel_rfl) (fun _ _ _ h => h) (Or.inl ⟨by rfl, ?hy758⟩) (by assumption) ?rest758
  case hy758 =>
    intro wX hSw
    try dsimp only at hSw
    go_simp
    first
    | done
    | (with_reducible rfl)
  try simp only [Act.put, List.setIfInBounds_toArray, List.set_cons_zero, List.set_cons_succ]
  refine take_at 59 129 _ (v := ?v759) rfl rfl (by kernel_rfl) (by kernel_rfl) (by kernel_rfl) (fun _ _ _ h => h) (Or.inl ⟨by rfl, ?hy759⟩) (by assumption) ?rest759
  case hy759 =>
    intro wX hSw
    try dsimp only at hSw
    go_simp
    first
    | done
    | (with_reducible rfl)
  try simp only [Act.put, List.setIfInBounds_toArray, List.set_cons_zero, List.set_cons_succ]
  refine take_at 60 130 _ (v := ?v760) rfl rfl (by kernel_rfl) (by kernel_rfl) (by kernel_rfl) (fun _ _ _ h => h) (Or.inl ⟨by rfl, ?hy760⟩) (by assumption) ?rest760
  case hy760 =>
    intro wX hSw
    try dsimp only at hSw
    go_simp
    first
    | done
    | (with_reducible rfl)
  try simp only [Act.put, List.setIfInBounds_toArray, List.set_cons_zero, List.set_cons_succ]
  refine take_at 61 131 _ (v := ?v761) rfl rfl (by kernel_rfl) (by kernel_rfl) (by kernel_rfl) (fun _ _ _ h => h) (Or.inl ⟨by rfl, ?hy761⟩) (by assumption) ?rest761
  case hy761 =>
    intro wX hSw
    try dsimp only at hSw
    go_simp
    first
    | done
    | (with_reducible rfl)
  try simp only [Act.put, List.setIfInBounds_toArray, List.set_cons_zero, List.set_cons_succ]
  refine take_at 62 132 _ (v := ?v762) rfl rfl (by kernel_rfl) (by kernel_rfl) (by kernel_rfl) (fun _ _ _ h => h) (Or.inl ⟨by rfl, ?hy762⟩) (by assumption) ?rest762
  case hy762 =>
    intro wX hSw
    try dsimp only at hSw
    go_simp
    first
    | done
    | (with_reducible rfl)
  try simp only [Act.put, List.setIfInBounds_toArray, List.set_cons_zero, List.set_cons_succ]
  refine take_at 63 133 _ (v := ?v763) rfl rfl (by kernel_rfl) (by kernel_rfl) (by kernel_rfl) (fun _ _ _ h => h) (Or.inl ⟨by rfl, ?hy763⟩) (by assumption) ?rest763
  case hy763 =>
    intro wX hSw
    try dsimp only at hSw
    go_simp
    first
    | done
    | (with_reducible rfl)
  try simp only [Act.put, List.setIfInBounds_toArray, List.set_cons_zero, List.set_cons_succ]
  refine take_at 64 134 _ (v := ?v764) rfl rfl (by kernel_rfl) (by kernel_rfl) (by kernel_rfl) (fun _ _ _ h => h) (Or.inl ⟨by rfl, ?hy764⟩) (by assumption) ?rest764
  case hy764 =>
    intro wX hSw
    try dsimp only at hSw
    go_simp
    first
    | done
    | (with_reducible rfl)
  try simp only [Act.put, List.setIfInBounds_toArray, List.set_cons_zero, List.set_cons_succ]
  refine wpAnyH_done (by kernel_rfl) ?_ _
  refine NoPanic.normal ?_
  cases B1 with
  | true =>
    obtain rfl : LS = true := HLE.out
    go_upto_region 20 with fail
    have hdr := HB.out.drew
    clear HB
    have HB := Lib.hid hdr
    clear hdr
    refine wp_region_noPanic ?_
    refine wp_region_held_drew (S := (fun X => X.cell? ⟨g1, o1 + i * 5, none⟩ = some (.string x.ty) ∧ X.cell? ⟨g1, o1 + i * 5 + 1, none⟩ = some (.string x.key) ∧ X.cell? ⟨g1, o1 + i * 5 + 2, none⟩ = some (.int .i64 x.t) ∧ X.cell? ⟨g1, o1 + i * 5 + 3, none⟩ = some (.int .i64 x.q) ∧ X.cell? ⟨g1, o1 + i * 5 + 4, none⟩ = some (.slice A1 n1 c1) ∧ X.cell? ⟨g1, o1 + k * 5, none⟩ = some (.string y.ty) ∧ X.cell? ⟨g1, o1 + k * 5 + 1, none⟩ = some (.string y.key) ∧ X.cell? ⟨g1, o1 + k * 5 + 2, none⟩ = some (.int .i64 y.t) ∧ X.cell? ⟨g1, o1 + k * 5 + 3, none⟩ = some (.int .i64 y.q) ∧ X.cell? ⟨g1, o1 + k * 5 + 4, none⟩ = some (.slice A2 n2 c2) ∧ X.cell? ⟨ba, 0, none⟩ = some (.int .i64 x.t) ∧ X.cell? ⟨ba, 1, none⟩ = some (.int .i64 x.q) ∧ X.cell? ⟨ba, 2, none⟩ = some (.int .i64 5) ∧ X.cell? ⟨bb, 0, none⟩ = some (.int .i64 y.t) ∧ X.cell? ⟨bb, 1, none⟩ = some (.int .i64 y.q) ∧ X.cell? ⟨bb, 2, none⟩ = some (.int .i64 at'))) (by kernel_rfl) ?_ (fun hHeld => ?_)
    · exact HS2.out _ HB.out
    refine take_at 0 135 _ (v := ?v810) rfl rfl (by kernel_rfl) (by kernel_rfl) (by kernel_rfl) (fun _ _ _ h => h) (Or.inl ⟨by rfl, ?hy810⟩) (by assumption) ?rest810
    case hy810 =>
      intro wX hSw
      try dsimp only at hSw
      go_simp
      first
      | done
      | (with_reducible rfl)
    try simp only [Act.put, List.setIfInBounds_toArray, List.set_cons_zero, List.set_cons_succ]
    refine take_at 1 136 _ (v := ?v811) rfl rfl (by kernel_rfl) (by kernel_rfl) (by kernel_rfl) (fun _ _ _ h => h) (Or.inl ⟨by rfl, ?hy811⟩) (by assumption) ?rest811
    case hy811 =>
      intro wX hSw
      try dsimp only at hSw
      go_simp
      first
      | done
      | (with_reducible rfl)
    try simp only [Act.put, List.setIfInBounds_toArray, List.set_cons_zero, List.set_cons_succ]
    refine take_at 3 138 _ (v := ?v813) rfl rfl (by kernel_rfl) (by kernel_rfl) (by kernel_rfl) (fun _ _ _ h => h) (Or.inl ⟨by rfl, ?hy813⟩) (by assumption) ?rest813
    case hy813 =>
      intro wX hSw
      try dsimp only at hSw
      go_simp
      first
      | done
      | (with_reducible rfl)
    try simp only [Act.put, List.setIfInBounds_toArray, List.set_cons_zero, List.set_cons_succ]
    refine take_at 4 139 _ (v := ?v814) rfl rfl (by kernel_rfl) (by kernel_rfl) (by kernel_rfl) (fun _ _ _ h => h) (Or.inl ⟨by rfl, ?hy814⟩) (by assumption) ?rest814
    case hy814 =>
      intro wX hSw
      try dsimp only at hSw
      go_simp
      first
      | done
      | (with_reducible rfl)
    try simp only [Act.put, List.setIfInBounds_toArray, List.set_cons_zero, List.set_cons_succ]
    refine take_at 5 140 _ (v := ?v815) rfl rfl (by kernel_rfl) (by kernel_rfl) (by kernel_rfl) (fun _ _ _ h => h) (Or.inl ⟨by rfl, ?hy815⟩) (by assumption) ?rest815
    case hy815 =>
      intro wX hSw
      try dsimp only at hSw
      go_simp
      first
      | done
      | (with_reducible rfl)
    try simp only [Act.put, List.setIfInBounds_toArray, List.set_cons_zero, List.set_cons_succ]
    refine take_at 6 141 _ (v := ?v816) rfl rfl (by kernel_rfl) (by kernel_rfl) (by kernel_rfl) (fun _ _ _ h => h) (Or.inl ⟨by rfl, ?hy816⟩) (by assumption) ?rest816
    case hy816 =>
      intro wX hSw
      try dsimp only at hSw
      go_simp
      first
      | done
      | (with_reducible rfl)
    try simp only [Act.put, List.setIfInBounds_toArray, List.set_cons_zero, List.set_cons_succ]
    refine take_at 7 142 _ (v := ?v817) rfl rfl (by kernel_rfl) (by kernel_rfl) (by kernel_rfl) (fun _ _ _ h => h) (Or.inl ⟨by rfl, ?hy817⟩) (by assumption) ?rest817
    case hy817 =>
      intro wX hSw
      try dsimp only at hSw
      go_simp
      first
      | done
      | (with_reducible rfl)
    try simp only [Act.put, List.setIfInBounds_toArray, List.set_cons_zero, List.set_cons_succ]
    refine take_at 8 143 _ (v := ?v818) rfl rfl (by kernel_rfl) (by kernel_rfl) (by kernel_rfl) (fun _ _ _ h => h) (Or.inl ⟨by rfl, ?hy818⟩) (by assumption) ?rest818
    case hy818 =>
      intro wX hSw
      try dsimp only at hSw
      go_simp
      first
      | done
      | (with_reducible rfl)
    try simp only [Act.put, List.setIfInBounds_toArray, List.set_cons_zero, List.set_cons_succ]
    refine take_at 9 144 _ (v := ?v819) rfl rfl (by kernel_rfl) (by kernel_rfl) (by kernel_rfl) (fun _ _ _ h => h) (Or.inl ⟨by rfl, ?hy819⟩) (by assumption) ?rest819
    case hy819 =>
      intro wX hSw
      try dsimp only at hSw
      go_simp
      first
      | done
      | (with_reducible rfl)
    try simp only [Act.put, List.setIfInBounds_toArray, List.set_cons_zero, List.set_cons_succ]
    refine take_at 10 145 _ (v := ?v8110) rfl rfl (by kernel_rfl) (by kernel_rfl) (by kernel_rfl) (fun _ _ _ h => h) (Or.inl ⟨by rfl, ?hy8110⟩) (by assumption) ?rest8110
    case hy8110 =>
      intro wX hSw
      try dsimp only at hSw
      go_simp
      first
      | done
      | (with_reducible rfl)
    try simp only [Act.put, List.setIfInBounds_toArray, List.set_cons_zero, List.set_cons_succ]
    refine wpAnyH_ready (rs := [2]) (by kernel_rfl) (by simp) ?_
    refine AllReadyH.cons rfl (fun K hK => ?_) AllReadyH.nil
    go_simp
    go_at_call 21
    (with_reducible refine (HLS.out _).mono ?_)
    rintro e y5 ⟨rfl, hb⟩
    have h3 := HB.out.trans (hb.mono HB.out.size)
    clear HB
    have HB := Lib.hid h3
    clear hb h3
    try go_wp2_with fail
    refine hK.out _ _ ?_ (fun hHeld => ?_)
    · exact HS2.out _ HB.out
    clear hK K
    try simp only [Act.put, List.setIfInBounds_toArray, List.set_cons_zero, List.set_cons_succ]
    refine wpAnyH_ready (rs := [11]) (by kernel_rfl) (by simp) ?_
    refine AllReadyH.cons rfl (fun K hK => ?_) AllReadyH.nil
    go_simp
    go_at_call 18
    (with_reducible refine (HRB.out _).mono ?_)
    rintro e y6 ⟨rfl, hb⟩
    have h3 := HB.out.trans (hb.mono HB.out.size)
    clear HB
    have HB := Lib.hid h3
    clear hb h3
    try go_wp2_with fail
    refine hK.out _ _ ?_ (fun hHeld => ?_)
    · exact HS2.out _ HB.out
    clear hK K
    try simp only [Act.put, List.setIfInBounds_toArray, List.set_cons_zero, List.set_cons_succ]
    refine take_at 12 147 _ (v := ?v8112) rfl rfl (by kernel_rfl) (by kernel_rfl) (by kernel_rfl) (fun _ _ _ h => h) (Or.inl ⟨by rfl, ?hy8112⟩) (by assumption) ?rest8112
    case hy8112 =>
      intro wX hSw
      try dsimp only at hSw
      go_simp
      first
      | done
      | (with_reducible rfl)
    try simp only [Act.put, List.setIfInBounds_toArray, List.set_cons_zero, List.set_cons_succ]
    refine take_at 13 148 _ (v := undef) rfl rfl (by kernel_rfl) (by kernel_rfl) (by kernel_rfl) (fun _ _ _ h => h) (Or.inr ⟨by rfl, rfl⟩) (by assumption) ?_
    try simp only [Act.put, List.setIfInBounds_toArray, List.set_cons_zero, List.set_cons_succ]
    refine take_at 14 149 _ (v := undef) rfl rfl (by kernel_rfl) (by kernel_rfl) (by kernel_rfl) (fun _ _ _ h => h) (Or.inr ⟨by rfl, rfl⟩) (by assumption) ?_
    try simp only [Act.put, List.setIfInBounds_toArray, List.set_cons_zero, List.set_cons_succ]
    refine take_at 15 150 _ (v := undef) rfl rfl (by kernel_rfl) (by kernel_rfl) (by kernel_rfl) (fun _ _ _ h => h) (Or.inr ⟨by rfl, rfl⟩) (by assumption) ?_
    try simp only [Act.put, List.setIfInBounds_toArray, List.set_cons_zero, List.set_cons_succ]
    refine take_at 16 151 _ (v := undef) rfl rfl (by kernel_rfl) (by kernel_rfl) (by kernel_rfl) (fun _ _ _ h => h) (Or.inr ⟨by rfl, rfl⟩) (by assumption) ?_
    try simp only [Act.put, List.setIfInBounds_toArray, List.set_cons_zero, List.set_cons_succ]
    refine take_at 17 152 _ (v := undef) rfl rfl (by kernel_rfl) (by kernel_rfl) (by kernel_rfl) (fun _ _ _ h => h) (Or.inr ⟨by rfl, rfl⟩) (by assumption) ?_
    try simp only [Act.put, List.setIfInBounds_toArray, List.set_cons_zero, List.set_cons_succ]
    refine take_at 18 153 _ (v := undef) rfl rfl (by kernel_rfl) (by kernel_rfl) (by kernel_rfl) (fun _ _ _ h => h) (Or.inr ⟨by rfl, rfl⟩) (by assumption) ?_
    try simp only [Act.put, List.setIfInBounds_toArray, List.set_cons_zero, List.set_cons_succ]
    refine take_at 19 154 _ (v := undef) rfl rfl (by kernel_rfl) (by kernel_rfl) (by kernel_rfl) (fun _ _ _ h => h) (Or.inr ⟨by rfl, rfl⟩) (by assumption) ?_
    try simp only [Act.put, List.setIfInBounds_toArray, List.set_cons_zero, List.set_cons_succ]
    refine take_at 20 155 _ (v := undef) rfl rfl (by kernel_rfl) (by kernel_rfl) (by kernel_rfl) (fun _ _ _ h => h) (Or.inr ⟨by rfl, rfl⟩) (by assumption) ?_
    try simp only [Act.put, List.setIfInBounds_toArray, List.set_cons_zero, List.set_cons_succ]
    refine take_at 21 156 _ (v := undef) rfl rfl (by kernel_rfl) (by kernel_rfl) (by kernel_rfl) (fun _ _ _ h => h) (Or.inr ⟨by rfl, rfl⟩) (by assumption) ?_
    try simp only [Act.put, List.setIfInBounds_toArray, List.set_cons_zero, List.set_cons_succ]
    refine take_at 22 157 _ (v := undef) rfl rfl (by kernel_rfl) (by kernel_rfl) (by kernel_rfl) (fun _ _ _ h => h) (Or.inr ⟨by rfl, rfl⟩) (by assumption) ?_
    try simp only [Act.put, List.setIfInBounds_toArray, List.set_cons_zero, List.set_cons_succ]
    refine take_at 23 158 _ (v := undef) rfl rfl (by kernel_rfl) (by kernel_rfl) (by kernel_rfl) (fun _ _ _ h => h) (Or.inr ⟨by rfl, rfl⟩) (by assumption) ?_
    try simp only [Act.put, List.setIfInBounds_toArray, List.set_cons_zero, List.set_cons_succ]
    refine take_at 24 159 _ (v := undef) rfl rfl (by kernel_rfl) (by kernel_rfl) (by kernel_rfl) (fun _ _ _ h => h) (Or.inr ⟨by rfl, rfl⟩) (by assumption) ?_
    try simp only [Act.put, List.setIfInBounds_toArray, List.set_cons_zero, List.set_cons_succ]
    refine take_at 25 160 _ (v := undef) rfl rfl (by kernel_rfl) (by kernel_rfl) (by kernel_rfl) (fun _ _ _ h => h) (Or.inr ⟨by rfl, rfl⟩) (by assumption) ?_
    try simp only [Act.put, List.setIfInBounds_toArray, List.set_cons_zero, List.set_cons_succ]
    refine take_at 26 161 _ (v := undef) rfl rfl (by kernel_rfl) (by kernel_rfl) (by kernel_rfl) (fun _ _ _ h => h) (Or.inr ⟨by rfl, rfl⟩) (by assumption) ?_
    try simp only [Act.put, List.setIfInBounds_toArray, List.set_cons_zero, List.set_cons_succ]
    refine take_at 27 162 _ (v := ?v8127) rfl rfl (by kernel_rfl) (by kernel_rfl) (by kernel_rfl) (fun _ _ _ h => h) (Or.inl ⟨by rfl, ?hy8127⟩) (by assumption) ?rest8127
    case hy8127 =>
      intro wX hSw
      try dsimp only at hSw
      go_simp
      first
      | done
      | (with_reducible rfl)
    try simp only [Act.put, List.setIfInBounds_toArray, List.set_cons_zero, List.set_cons_succ]
    refine take_at 28 163 _ (v := ?v8128) rfl rfl (by kernel_rfl) (by kernel_rfl) (by kernel_rfl) (fun _ _ _ h => h) (Or.inl ⟨by rfl, ?hy8128⟩) (by assumption) ?rest8128
    case hy8128 =>
      intro wX hSw
      try dsimp only at hSw
      go_simp
      first
      | done
      | (with_reducible rfl)
    try simp only [Act.put, List.setIfInBounds_toArray, List.set_cons_zero, List.set_cons_succ]
    refine wpAnyH_done (by kernel_rfl) ?_ _
    refine NoPanic.normal ?_
    go_wp2
    go_roundw
    case measure => simp [intOf]; omega
    case rel => exact ⟨k + 1, by omega, by go_num, Lib.hid (hb2.out.trans ((HBC.out.trans (HB.out.mono HBC.out.size)).mono hb2.out.size))⟩
  | false =>
    cases B2 with
    | true =>
      obtain rfl : LS = false := HLE.out
      go_upto_region 20 with fail
      have hdr := HB.out.drew
      clear HB
      have HB := Lib.hid hdr
      clear hdr
      refine wp_region_noPanic ?_
      refine wp_region_held_drew (S := (fun X => X.cell? ⟨g1, o1 + i * 5, none⟩ = some (.string x.ty) ∧ X.cell? ⟨g1, o1 + i * 5 + 1, none⟩ = some (.string x.key) ∧ X.cell? ⟨g1, o1 + i * 5 + 2, none⟩ = some (.int .i64 x.t) ∧ X.cell? ⟨g1, o1 + i * 5 + 3, none⟩ = some (.int .i64 x.q) ∧ X.cell? ⟨g1, o1 + i * 5 + 4, none⟩ = some (.slice A1 n1 c1) ∧ X.cell? ⟨g1, o1 + k * 5, none⟩ = some (.string y.ty) ∧ X.cell? ⟨g1, o1 + k * 5 + 1, none⟩ = some (.string y.key) ∧ X.cell? ⟨g1, o1 + k * 5 + 2, none⟩ = some (.int .i64 y.t) ∧ X.cell? ⟨g1, o1 + k * 5 + 3, none⟩ = some (.int .i64 y.q) ∧ X.cell? ⟨g1, o1 + k * 5 + 4, none⟩ = some (.slice A2 n2 c2) ∧ X.cell? ⟨ba, 0, none⟩ = some (.int .i64 x.t) ∧ X.cell? ⟨ba, 1, none⟩ = some (.int .i64 x.q) ∧ X.cell? ⟨ba, 2, none⟩ = some (.int .i64 5) ∧ X.cell? ⟨bb, 0, none⟩ = some (.int .i64 y.t) ∧ X.cell? ⟨bb, 1, none⟩ = some (.int .i64 y.q) ∧ X.cell? ⟨bb, 2, none⟩ = some (.int .i64 at'))) (by kernel_rfl) ?_ (fun hHeld => ?_)
      · exact HS2.out _ HB.out
      refine take_at 0 135 _ (v := ?v820) rfl rfl (by kernel_rfl) (by kernel_rfl) (by kernel_rfl) (fun _ _ _ h => h) (Or.inl ⟨by rfl, ?hy820⟩) (by assumption) ?rest820
      case hy820 =>
        intro wX hSw
        try dsimp only at hSw
        go_simp
        first
        | done
        | (with_reducible rfl)
      try simp only [Act.put, List.setIfInBounds_toArray, List.set_cons_zero, List.set_cons_succ]
      refine take_at 1 136 _ (v := ?v821) rfl rfl (by kernel_rfl) (by kernel_rfl) (by kernel_rfl) (fun _ _ _ h => h) (Or.inl ⟨by rfl, ?hy821⟩) (by assumption) ?rest821
      case hy821 =>
        intro wX hSw
        try dsimp only at hSw
        go_simp
        first
        | done
        | (with_reducible rfl)
      try simp only [Act.put, List.setIfInBounds_toArray, List.set_cons_zero, List.set_cons_succ]
      refine take_at 3 138 _ (v := ?v823) rfl rfl (by kernel_rfl) (by kernel_rfl) (by kernel_rfl) (fun _ _ _ h => h) (Or.inl ⟨by rfl, ?hy823⟩) (by assumption) ?rest823
      case hy823 =>
        intro wX hSw
        try dsimp only at hSw
        go_simp
        first
        | done
        | (with_reducible rfl)
      try simp only [Act.put, List.setIfInBounds_toArray, List.set_cons_zero, List.set_cons_succ]
      refine take_at 4 139 _ (v := ?v824) rfl rfl (by kernel_rfl) (by kernel_rfl) (by kernel_rfl) (fun _ _ _ h => h) (Or.inl ⟨by rfl, ?hy824⟩) (by assumption) ?rest824
      case hy824 =>
        intro wX hSw
        try dsimp only at hSw
        go_simp
        first
        | done
        | (with_reducible rfl)
      try simp only [Act.put, List.setIfInBounds_toArray, List.set_cons_zero, List.set_cons_succ]
      refine take_at 5 140 _ (v := ?v825) rfl rfl (by kernel_rfl) (by kernel_rfl) (by kernel_rfl) (fun _ _ _ h => h) (Or.inl ⟨by rfl, ?hy825⟩) (by assumption) ?rest825
      case hy825 =>
        intro wX hSw
        try dsimp only at hSw
        go_simp
        first
        | done
        | (with_reducible rfl)
      try simp only [Act.put, List.setIfInBounds_toArray, List.set_cons_zero, List.set_cons_succ]
      refine take_at 6 141 _ (v := ?v826) rfl rfl (by kernel_rfl) (by kernel_rfl) (by kernel_rfl) (fun _ _ _ h => h) (Or.inl ⟨by rfl, ?hy826⟩) (by assumption) ?rest826
      case hy826 =>
        intro wX hSw
        try dsimp only at hSw
        go_simp
        first
        | done
        | (with_reducible rfl)
      try simp only [Act.put, List.setIfInBounds_toArray, List.set_cons_zero, List.set_cons_succ]
      refine take_at 7 142 _ (v := ?v827) rfl rfl (by kernel_rfl) (by kernel_rfl) (by kernel_rfl) (fun _ _ _ h => h) (Or.inl ⟨by rfl, ?hy827⟩) (by assumption) ?rest827
      case hy827 =>
        intro wX hSw
        try dsimp only at hSw
        go_simp
        first
        | done
        | (with_reducible rfl)
      try simp only [Act.put, List.setIfInBounds_toArray, List.set_cons_zero, List.set_cons_succ]
      refine take_at 8 143 _ (v := ?v828) rfl rfl (by kernel_rfl) (by kernel_rfl) (by kernel_rfl) (fun _ _ _ h => h) (Or.inl ⟨by rfl, ?hy828⟩) (by assumption) ?rest828
      case hy828 =>
        intro wX hSw
        try dsimp only at hSw
        go_simp
        first
        | done
        | (with_reducible rfl)
      try simp only [Act.put, List.setIfInBounds_toArray, List.set_cons_zero, List.set_cons_succ]
      refine take_at 9 144 _ (v := ?v829) rfl rfl (by kernel_rfl) (by kernel_rfl) (by kernel_rfl) (fun _ _ _ h => h) (Or.inl ⟨by rfl, ?hy829⟩) (by assumption) ?rest829
      case hy829 =>
        intro wX hSw
        try dsimp only at hSw
        go_simp
        first
        | done
        | (with_reducible rfl)
      try simp only [Act.put, List.setIfInBounds_toArray, List.set_cons_zero, List.set_cons_succ]
      refine take_at 10 145 _ (v := ?v8210) rfl rfl (by kernel_rfl) (by kernel_rfl) (by kernel_rfl) (fun _ _ _ h => h) (Or.inl ⟨by rfl, ?hy8210⟩) (by assumption) ?rest8210
      case hy8210 =>
        intro wX hSw
        try dsimp only at hSw
        go_simp
        first
        | done
        | (with_reducible rfl)
      try simp only [Act.put, List.setIfInBounds_toArray, List.set_cons_zero, List.set_cons_succ]
      refine wpAnyH_ready (rs := [2]) (by kernel_rfl) (by simp) ?_
      refine AllReadyH.cons rfl (fun K hK => ?_) AllReadyH.nil
      go_simp
      go_at_call 21
      (with_reducible refine (HLS.out _).mono ?_)
      rintro e y5 ⟨rfl, hb⟩
      have h3 := HB.out.trans (hb.mono HB.out.size)
      clear HB
      have HB := Lib.hid h3
      clear hb h3
      try go_wp2_with fail
      refine hK.out _ _ ?_ (fun hHeld => ?_)
      · exact HS2.out _ HB.out
      clear hK K
      try simp only [Act.put, List.setIfInBounds_toArray, List.set_cons_zero, List.set_cons_succ]
      refine wpAnyH_ready (rs := [11]) (by kernel_rfl) (by simp) ?_
      refine AllReadyH.cons rfl (fun K hK => ?_) AllReadyH.nil
      go_simp
      go_at_call 18
      (with_reducible refine (HRB.out _).mono ?_)
      rintro e y6 ⟨rfl, hb⟩
      have h3 := HB.out.trans (hb.mono HB.out.size)
      clear HB
      have HB := Lib.hid h3
      clear hb h3
      try go_wp2_with fail
      refine hK.out _ _ ?_ (fun hHeld => ?_)
      · exact HS2.out _ HB.out
      clear hK K
      try simp only [Act.put, List.setIfInBounds_toArray, List.set_cons_zero, List.set_cons_succ]
      refine take_at 12 147 _ (v := ?v8212) rfl rfl (by kernel_rfl) (by kernel_rfl) (by kernel_rfl) (fun _ _ _ h => h) (Or.inl ⟨by rfl, ?hy8212⟩) (by assumption) ?rest8212
      case hy8212 =>
        intro wX hSw
        try dsimp only at hSw
        go_simp
        first
        | done
        | (with_reducible rfl)
      try simp only [Act.put, List.setIfInBounds_toArray, List.set_cons_zero, List.set_cons_succ]
      refine take_at 13 148 _ (v := ?v8213) rfl rfl (by kernel_rfl) (by kernel_rfl) (by kernel_rfl) (fun _ _ _ h => h) (Or.inl ⟨by rfl, ?hy8213⟩) (by assumption) ?rest8213
      case hy8213 =>
        intro wX hSw
        try dsimp only at hSw
        go_simp
        first
        | done
        | (with_reducible rfl)
      try simp only [Act.put, List.setIfInBounds_toArray, List.set_cons_zero, List.set_cons_succ]
      refine take_at 14 149 _ (v := ?v8214) rfl rfl (by kernel_rfl) (by kernel_rfl) (by kernel_rfl) (fun _ _ _ h => h) (Or.inl ⟨by rfl, ?hy8214⟩) (by assumption) ?rest8214
      case hy8214 =>
        intro wX hSw
        try dsimp only at hSw
        go_simp
        first
        | done
        | (with_reducible rfl)
      try simp only [Act.put, List.setIfInBounds_toArray, List.set_cons_zero, List.set_cons_succ]
      refine take_at 15 150 _ (v := ?v8215) rfl rfl (by kernel_rfl) (by kernel_rfl) (by kernel_rfl) (fun _ _ _ h => h) (Or.inl ⟨by rfl, ?hy8215⟩) (by assumption) ?rest8215
      case hy8215 =>
        intro wX hSw
        try dsimp only at hSw
        go_simp
        first
        | done
        | (with_reducible rfl)
      try simp only [Act.put, List.setIfInBounds_toArray, List.set_cons_zero, List.set_cons_succ]
      refine take_at 16 151 _ (v := ?v8216) rfl rfl (by kernel_rfl) (by kernel_rfl) (by kernel_rfl) (fun _ _ _ h => h) (Or.inl ⟨by rfl, ?hy8216⟩) (by assumption) ?rest8216
      case hy8216 =>
        intro wX hSw
        try dsimp only at hSw
        go_simp
        first
        | done
        | (with_reducible rfl)
      try simp only [Act.put, List.setIfInBounds_toArray, List.set_cons_zero, List.set_cons_succ]
      refine take_at 17 152 _ (v := ?v8217) rfl rfl (by kernel_rfl) (by kernel_rfl) (by kernel_rfl) (fun _ _ _ h => h) (Or.inl ⟨by rfl, ?hy8217⟩) (by assumption) ?rest8217
      case hy8217 =>
        intro wX hSw
        try dsimp only at hSw
        go_simp
        first
        | done
        | (with_reducible rfl)
      try simp only [Act.put, List.setIfInBounds_toArray, List.set_cons_zero, List.set_cons_succ]
      refine take_at 18 153 _ (v := ?v8218) rfl rfl (by kernel_rfl) (by kernel_rfl) (by kernel_rfl) (fun _ _ _ h => h) (Or.inl ⟨by rfl, ?hy8218⟩) (by assumption) ?rest8218
      case hy8218 =>
        intro wX hSw
        try dsimp only at hSw
        go_simp
        first
        | done
        | (with_reducible rfl)
      try simp only [Act.put, List.setIfInBounds_toArray, List.set_cons_zero, List.set_cons_succ]
      refine take_at 19 154 _ (v := ?v8219) rfl rfl (by kernel_rfl) (by kernel_rfl) (by kernel_rfl) (fun _ _ _ h => h) (Or.inl ⟨by rfl, ?hy8219⟩) (by assumption) ?rest8219
      case hy8219 =>
        intro wX hSw
        try dsimp only at hSw
        go_simp
        first
        | done
        | (with_reducible rfl)
      try simp only [Act.put, List.setIfInBounds_toArray, List.set_cons_zero, List.set_cons_succ]
      refine take_at 20 155 _ (v := ?v8220) rfl rfl (by kernel_rfl) (by kernel_rfl) (by kernel_rfl) (fun _ _ _ h => h) (Or.inl ⟨by rfl, ?hy8220⟩) (by assumption) ?rest8220
      case hy8220 =>
        intro wX hSw
        try dsimp only at hSw
        go_simp
        first
        | done
        | (with_reducible rfl)
      try simp only [Act.put, List.setIfInBounds_toArray, List.set_cons_zero, List.set_cons_succ]
      refine wpAnyH_ready (rs := [21]) (by kernel_rfl) (by simp) ?_
      refine AllReadyH.cons rfl (fun K hK => ?_) AllReadyH.nil
      go_simp
      go_at_call 18
      (with_reducible refine (HRB2.out _).mono ?_)
      rintro e y7 ⟨rfl, hb⟩
      have h3 := HB.out.trans (hb.mono HB.out.size)
      clear HB
      have HB := Lib.hid h3
      clear hb h3
      try go_wp2_with fail
      refine hK.out _ _ ?_ (fun hHeld => ?_)
      · exact HS2.out _ HB.out
      clear hK K
      try simp only [Act.put, List.setIfInBounds_toArray, List.set_cons_zero, List.set_cons_succ]
      refine take_at 22 157 _ (v := ?v8222) rfl rfl (by kernel_rfl) (by kernel_rfl) (by kernel_rfl) (fun _ _ _ h => h) (Or.inl ⟨by rfl, ?hy8222⟩) (by assumption) ?rest8222
      case hy8222 =>
        intro wX hSw
        try dsimp only at hSw
        go_simp
        first
        | done
        | (with_reducible rfl)
      try simp only [Act.put, List.setIfInBounds_toArray, List.set_cons_zero, List.set_cons_succ]
      refine take_at 23 158 _ (v := ?v8223) rfl rfl (by kernel_rfl) (by kernel_rfl) (by kernel_rfl) (fun _ _ _ h => h) (Or.inl ⟨by rfl, ?hy8223⟩) (by assumption) ?rest8223
      case hy8223 =>
        intro wX hSw
        try dsimp only at hSw
        go_simp
        first
        | done
        | (with_reducible rfl)
      try simp only [Act.put, List.setIfInBounds_toArray, List.set_cons_zero, List.set_cons_succ]
      refine take_at 24 159 _ (v := undef) rfl rfl (by kernel_rfl) (by kernel_rfl) (by kernel_rfl) (fun _ _ _ h => h) (Or.inr ⟨by rfl, rfl⟩) (by assumption) ?_
      try simp only [Act.put, List.setIfInBounds_toArray, List.set_cons_zero, List.set_cons_succ]
      refine take_at 25 160 _ (v := undef) rfl rfl (by kernel_rfl) (by kernel_rfl) (by kernel_rfl) (fun _ _ _ h => h) (Or.inr ⟨by rfl, rfl⟩) (by assumption) ?_
      try simp only [Act.put, List.setIfInBounds_toArray, List.set_cons_zero, List.set_cons_succ]
      refine take_at 26 161 _ (v := ?v8226) rfl rfl (by kernel_rfl) (by kernel_rfl) (by kernel_rfl) (fun _ _ _ h => h) (Or.inl ⟨by rfl, ?hy8226⟩) (by assumption) ?rest8226
      case hy8226 =>
        intro wX hSw
        try dsimp only at hSw
        go_simp
        first
        | done
        | (with_reducible rfl)
      try simp only [Act.put, List.setIfInBounds_toArray, List.set_cons_zero, List.set_cons_succ]
      refine take_at 27 162 _ (v := ?v8227) rfl rfl (by kernel_rfl) (by kernel_rfl) (by kernel_rfl) (fun _ _ _ h => h) (Or.inl ⟨by rfl, ?hy8227⟩) (by assumption) ?rest8227
      case hy8227 =>
        intro wX hSw
        try dsimp only at hSw
        go_simp
        first
        | done
        | (with_reducible rfl)
      try simp only [Act.put, List.setIfInBounds_toArray, List.set_cons_zero, List.set_cons_succ]
      refine take_at 28 163 _ (v := ?v8228) rfl rfl (by kernel_rfl) (by kernel_rfl) (by kernel_rfl) (fun _ _ _ h => h) (Or.inl ⟨by rfl, ?hy8228⟩) (by assumption) ?rest8228
      case hy8228 =>
        intro wX hSw
        try dsimp only at hSw
        go_simp
        first
        | done
        | (with_reducible rfl)
      try simp only [Act.put, List.setIfInBounds_toArray, List.set_cons_zero, List.set_cons_succ]
      refine wpAnyH_done (by kernel_rfl) ?_ _
      refine NoPanic.normal ?_
      go_wp2
      go_roundw
      case measure => simp [intOf]; omega
      case rel => exact ⟨k + 1, by omega, by go_num, Lib.hid (hb2.out.trans ((HBC.out.trans (HB.out.mono HBC.out.size)).mono hb2.out.size))⟩
    | false =>
      obtain rfl : LS = decide (5 < at') := HLE.out
      go_upto_region 20 with fail
      have hdr := HB.out.drew
      clear HB
      have HB := Lib.hid hdr
      clear hdr
      refine wp_region_noPanic ?_
      refine wp_region_held_drew (S := (fun X => X.cell? ⟨g1, o1 + i * 5, none⟩ = some (.string x.ty) ∧ X.cell? ⟨g1, o1 + i * 5 + 1, none⟩ = some (.string x.key) ∧ X.cell? ⟨g1, o1 + i * 5 + 2, none⟩ = some (.int .i64 x.t) ∧ X.cell? ⟨g1, o1 + i * 5 + 3, none⟩ = some (.int .i64 x.q) ∧ X.cell? ⟨g1, o1 + i * 5 + 4, none⟩ = some (.slice A1 n1 c1) ∧ X.cell? ⟨g1, o1 + k * 5, none⟩ = some (.string y.ty) ∧ X.cell? ⟨g1, o1 + k * 5 + 1, none⟩ = some (.string y.key) ∧ X.cell? ⟨g1, o1 + k * 5 + 2, none⟩ = some (.int .i64 y.t) ∧ X.cell? ⟨g1, o1 + k * 5 + 3, none⟩ = some (.int .i64 y.q) ∧ X.cell? ⟨g1, o1 + k * 5 + 4, none⟩ = some (.slice A2 n2 c2) ∧ X.cell? ⟨ba, 0, none⟩ = some (.int .i64 x.t) ∧ X.cell? ⟨ba, 1, none⟩ = some (.int .i64 x.q) ∧ X.cell? ⟨ba, 2, none⟩ = some (.int .i64 5) ∧ X.cell? ⟨bb, 0, none⟩ = some (.int .i64 y.t) ∧ X.cell? ⟨bb, 1, none⟩ = some (.int .i64 y.q) ∧ X.cell? ⟨bb, 2, none⟩ = some (.int .i64 at'))) (by kernel_rfl) ?_ (fun hHeld => ?_)
      · exact HS2.out _ HB.out
      refine take_at 0 135 _ (v := ?v830) rfl rfl (by kernel_rfl) (by kernel_rfl) (by kernel_rfl) (fun _ _ _ h => h) (Or.inl ⟨by rfl, ?hy830⟩) (by assumption) ?rest830
      case hy830 =>
        intro wX hSw
        try dsimp only at hSw
        go_simp
        first
        | done
        | (with_reducible rfl)
      try simp only [Act.put, List.setIfInBounds_toArray, List.set_cons_zero, List.set_cons_succ]
      refine take_at 1 136 _ (v := ?v831) rfl rfl (by kernel_rfl) (by kernel_rfl) (by kernel_rfl) (fun _ _ _ h => h) (Or.inl ⟨by rfl, ?hy831⟩) (by assumption) ?rest831
      case hy831 =>
        intro wX hSw
        try dsimp only at hSw
        go_simp
        first
        | done
        | (with_reducible rfl)
      try simp only [Act.put, List.setIfInBounds_toArray, List.set_cons_zero, List.set_cons_succ]
      refine take_at 3 138 _ (v := ?v833) rfl rfl (by kernel_rfl) (by kernel_rfl) (by kernel_rfl) (fun _ _ _ h => h) (Or.inl ⟨by rfl, ?hy833⟩) (by assumption) ?rest833
      case hy833 =>
        intro wX hSw
        try dsimp only at hSw
        go_simp
        first
        | done
        | (with_reducible rfl)
      try simp only [Act.put, List.setIfInBounds_toArray, List.set_cons_zero, List.set_cons_succ]
      refine take_at 4 139 _ (v := ?v834) rfl rfl (by kernel_rfl) (by kernel_rfl) (by kernel_rfl) (fun _ _ _ h => h) (Or.inl ⟨by rfl, ?hy834⟩) (by assumption) ?rest834
      case hy834 =>
        intro wX hSw
        try dsimp only at hSw
        go_simp
        first
        | done
        | (with_reducible rfl)
      try simp only [Act.put, List.setIfInBounds_toArray, List.set_cons_zero, List.set_cons_succ]
      refine take_at 5 140 _ (v := ?v835) rfl rfl (by kernel_rfl) (by kernel_rfl) (by kernel_rfl) (fun _ _ _ h => h) (Or.inl ⟨by rfl, ?hy835⟩) (by assumption) ?rest835
      case hy835 =>
        intro wX hSw
        try dsimp only at hSw
        go_simp
        first
        | done
        | (with_reducible rfl)
      try simp only [Act.put, List.setIfInBounds_toArray, List.set_cons_zero, List.set_cons_succ]
      refine take_at 6 141 _ (v := ?v836) rfl rfl (by kernel_rfl) (by kernel_rfl) (by kernel_rfl) (fun _ _ _ h => h) (Or.inl ⟨by rfl, ?hy836⟩) (by assumption) ?rest836
      case hy836 =>
        intro wX hSw
        try dsimp only at hSw
        go_simp
        first
        | done
        | (with_reducible rfl)
      try simp only [Act.put, List.setIfInBounds_toArray, List.set_cons_zero, List.set_cons_succ]
      refine take_at 7 142 _ (v := ?v837) rfl rfl (by kernel_rfl) (by kernel_rfl) (by kernel_rfl) (fun _ _ _ h => h) (Or.inl ⟨by rfl, ?hy837⟩) (by assumption) ?rest837
      case hy837 =>
        intro wX hSw
        try dsimp only at hSw
        go_simp
        first
        | done
        | (with_reducible rfl)
      try simp only [Act.put, List.setIfInBounds_toArray, List.set_cons_zero, List.set_cons_succ]
      refine take_at 8 143 _ (v := ?v838) rfl rfl (by kernel_rfl) (by kernel_rfl) (by kernel_rfl) (fun _ _ _ h => h) (Or.inl ⟨by rfl, ?hy838⟩) (by assumption) ?rest838
      case hy838 =>
        intro wX hSw
        try dsimp only at hSw
        go_simp
        first
        | done
        | (with_reducible rfl)
      try simp only [Act.put, List.setIfInBounds_toArray, List.set_cons_zero, List.set_cons_succ]
      refine take_at 9 144 _ (v := ?v839) rfl rfl (by kernel_rfl) (by kernel_rfl) (by kernel_rfl) (fun _ _ _ h => h) (Or.inl ⟨by rfl, ?hy839⟩) (by assumption) ?rest839
      case hy839 =>
        intro wX hSw
        try dsimp only at hSw
        go_simp
        first
        | done
        | (with_reducible rfl)
      try simp only [Act.put, List.setIfInBounds_toArray, List.set_cons_zero, List.set_cons_succ]
      refine take_at 10 145 _ (v := ?v8310) rfl rfl (by kernel_rfl) (by kernel_rfl) (by kernel_rfl) (fun _ _ _ h => h) (Or.inl ⟨by rfl, ?hy8310⟩) (by assumption) ?rest8310
      case hy8310 =>
        intro wX hSw
        try dsimp only at hSw
        go_simp
        first
        | done
        | (with_reducible rfl)
      try simp only [Act.put, List.setIfInBounds_toArray, List.set_cons_zero, List.set_cons_succ]
      refine wpAnyH_ready (rs := [2]) (by kernel_rfl) (by simp) ?_
      refine AllReadyH.cons rfl (fun K hK => ?_) AllReadyH.nil
      go_simp
      go_at_call 21
      (with_reducible refine (HLS.out _).mono ?_)
      rintro e y5 ⟨rfl, hb⟩
      have h3 := HB.out.trans (hb.mono HB.out.size)
      clear HB
      have HB := Lib.hid h3
      clear hb h3
      try go_wp2_with fail
      refine hK.out _ _ ?_ (fun hHeld => ?_)
      · exact HS2.out _ HB.out
      clear hK K
      try simp only [Act.put, List.setIfInBounds_toArray, List.set_cons_zero, List.set_cons_succ]
      refine wpAnyH_ready (rs := [11]) (by kernel_rfl) (by simp) ?_
      refine AllReadyH.cons rfl (fun K hK => ?_) AllReadyH.nil
      go_simp
      go_at_call 18
      (with_reducible refine (HRB.out _).mono ?_)
      rintro e y6 ⟨rfl, hb⟩
      have h3 := HB.out.trans (hb.mono HB.out.size)
      clear HB
      have HB := Lib.hid h3
      clear hb h3
      try go_wp2_with fail
      refine hK.out _ _ ?_ (fun hHeld => ?_)
      · exact HS2.out _ HB.out
      clear hK K
      try simp only [Act.put, List.setIfInBounds_toArray, List.set_cons_zero, List.set_cons_succ]
      refine take_at 12 147 _ (v := ?v8312) rfl rfl (by kernel_rfl) (by kernel_rfl) (by kernel_rfl) (fun _ _ _ h => h) (Or.inl ⟨by rfl, ?hy8312⟩) (by assumption) ?rest8312
      case hy8312 =>
        intro wX hSw
        try dsimp only at hSw
        go_simp
        first
        | done
        | (with_reducible rfl)
      try simp only [Act.put, List.setIfInBounds_toArray, List.set_cons_zero, List.set_cons_succ]
      refine take_at 13 148 _ (v := ?v8313) rfl rfl (by kernel_rfl) (by kernel_rfl) (by kernel_rfl) (fun _ _ _ h => h) (Or.inl ⟨by rfl, ?hy8313⟩) (by assumption) ?rest8313
      case hy8313 =>
        intro wX hSw
        try dsimp only at hSw
        go_simp
        first
        | done
        | (with_reducible rfl)
      try simp only [Act.put, List.setIfInBounds_toArray, List.set_cons_zero, List.set_cons_succ]
      refine take_at 14 149 _ (v := ?v8314) rfl rfl (by kernel_rfl) (by kernel_rfl) (by kernel_rfl) (fun _ _ _ h => h) (Or.inl ⟨by rfl, ?hy8314⟩) (by assumption) ?rest8314
      case hy8314 =>
        intro wX hSw
        try dsimp only at hSw
        go_simp
        first
        | done
        | (with_reducible rfl)
      try simp only [Act.put, List.setIfInBounds_toArray, List.set_cons_zero, List.set_cons_succ]
      refine take_at 15 150 _ (v := ?v8315) rfl rfl (by kernel_rfl) (by kernel_rfl) (by kernel_rfl) (fun _ _ _ h => h) (Or.inl ⟨by rfl, ?hy8315⟩) (by assumption) ?rest8315
      case hy8315 =>
        intro wX hSw
        try dsimp only at hSw
        go_simp
        first
        | done
        | (with_reducible rfl)
      try simp only [Act.put, List.setIfInBounds_toArray, List.set_cons_zero, List.set_cons_succ]
      refine take_at 16 151 _ (v := ?v8316) rfl rfl (by kernel_rfl) (by kernel_rfl) (by kernel_rfl) (fun _ _ _ h => h) (Or.inl ⟨by rfl, ?hy8316⟩) (by assumption) ?rest8316
      case hy8316 =>
        intro wX hSw
        try dsimp only at hSw
        go_simp
        first
        | done
        | (with_reducible rfl)
      try simp only [Act.put, List.setIfInBounds_toArray, List.set_cons_zero, List.set_cons_succ]
      refine take_at 17 152 _ (v := ?v8317) rfl rfl (by kernel_rfl) (by kernel_rfl) (by kernel_rfl) (fun _ _ _ h => h) (Or.inl ⟨by rfl, ?hy8317⟩) (by assumption) ?rest8317
      case hy8317 =>
        intro wX hSw
        try dsimp only at hSw
        go_simp
        first
        | done
        | (with_reducible rfl)
      try simp only [Act.put, List.setIfInBounds_toArray, List.set_cons_zero, List.set_cons_succ]
      refine take_at 18 153 _ (v := ?v8318) rfl rfl (by kernel_rfl) (by kernel_rfl) (by kernel_rfl) (fun _ _ _ h => h) (Or.inl ⟨by rfl, ?hy8318⟩) (by assumption) ?rest8318
      case hy8318 =>
        intro wX hSw
        try dsimp only at hSw
        go_simp
        first
        | done
        | (with_reducible rfl)
      try simp only [Act.put, List.setIfInBounds_toArray, List.set_cons_zero, List.set_cons_succ]
      refine take_at 19 154 _ (v := ?v8319) rfl rfl (by kernel_rfl) (by kernel_rfl) (by kernel_rfl) (fun _ _ _ h => h) (Or.inl ⟨by rfl, ?hy8319⟩) (by assumption) ?rest8319
      case hy8319 =>
        intro wX hSw
        try dsimp only at hSw
        go_simp
        first
        | done
        | (with_reducible rfl)
      try simp only [Act.put, List.setIfInBounds_toArray, List.set_cons_zero, List.set_cons_succ]
      refine take_at 20 155 _ (v := ?v8320) rfl rfl (by kernel_rfl) (by kernel_rfl) (by kernel_rfl) (fun _ _ _ h => h) (Or.inl ⟨by rfl, ?hy8320⟩) (by assumption) ?rest8320
      case hy8320 =>
        intro wX hSw
        try dsimp only at hSw
        go_simp
        first
        | done
        | (with_reducible rfl)
      try simp only [Act.put, List.setIfInBounds_toArray, List.set_cons_zero, List.set_cons_succ]
      refine wpAnyH_ready (rs := [21]) (by kernel_rfl) (by simp) ?_
      refine AllReadyH.cons rfl (fun K hK => ?_) AllReadyH.nil
      go_simp
      go_at_call 18
      (with_reducible refine (HRB2.out _).mono ?_)
      rintro e y7 ⟨rfl, hb⟩
      have h3 := HB.out.trans (hb.mono HB.out.size)
      clear HB
      have HB := Lib.hid h3
      clear hb h3
      try go_wp2_with fail
      refine hK.out _ _ ?_ (fun hHeld => ?_)
      · exact HS2.out _ HB.out
      clear hK K
      try simp only [Act.put, List.setIfInBounds_toArray, List.set_cons_zero, List.set_cons_succ]
      refine take_at 22 157 _ (v := ?v8322) rfl rfl (by kernel_rfl) (by kernel_rfl) (by kernel_rfl) (fun _ _ _ h => h) (Or.inl ⟨by rfl, ?hy8322⟩) (by assumption) ?rest8322
      case hy8322 =>
        intro wX hSw
        try dsimp only at hSw
        go_simp
        first
        | done
        | (with_reducible rfl)
      try simp only [Act.put, List.setIfInBounds_toArray, List.set_cons_zero, List.set_cons_succ]
      refine take_at 23 158 _ (v := ?v8323) rfl rfl (by kernel_rfl) (by kernel_rfl) (by kernel_rfl) (fun _ _ _ h => h) (Or.inl ⟨by rfl, ?hy8323⟩) (by assumption) ?rest8323
      case hy8323 =>
        intro wX hSw
        try dsimp only at hSw
        go_simp
        first
        | done
        | (with_reducible rfl)
      try simp only [Act.put, List.setIfInBounds_toArray, List.set_cons_zero, List.set_cons_succ]
      refine take_at 24 159 _ (v := ?v8324) rfl rfl (by kernel_rfl) (by kernel_rfl) (by kernel_rfl) (fun _ _ _ h => h) (Or.inl ⟨by rfl, ?hy8324⟩) (by assumption) ?rest8324
      case hy8324 =>
        intro wX hSw
        try dsimp only at hSw
        go_simp
        first
        | done
        | (with_reducible rfl)
      try simp only [Act.put, List.setIfInBounds_toArray, List.set_cons_zero, List.set_cons_succ]
      refine take_at 25 160 _ (v := ?v8325) rfl rfl (by kernel_rfl) (by kernel_rfl) (by kernel_rfl) (fun _ _ _ h => h) (Or.inl ⟨by rfl, ?hy8325⟩) (by assumption) ?rest8325
      case hy8325 =>
        intro wX hSw
        try dsimp only at hSw
        go_simp
        first
        | done
        | (with_reducible rfl)
      try simp only [Act.put, List.setIfInBounds_toArray, List.set_cons_zero, List.set_cons_succ]
      refine take_at 26 161 _ (v := ?v8326) rfl rfl (by kernel_rfl) (by kernel_rfl) (by kernel_rfl) (fun _ _ _ h => h) (Or.inl ⟨by rfl, ?hy8326⟩) (by assumption) ?rest8326
      case hy8326 =>
        intro wX hSw
        try dsimp only at hSw
        go_simp
        first
        | done
        | (with_reducible rfl)
      try simp only [Act.put, List.setIfInBounds_toArray, List.set_cons_zero, List.set_cons_succ]
      refine take_at 27 162 _ (v := ?v8327) rfl rfl (by kernel_rfl) (by kernel_rfl) (by kernel_rfl) (fun _ _ _ h => h) (Or.inl ⟨by rfl, ?hy8327⟩) (by assumption) ?rest8327
      case hy8327 =>
        intro wX hSw
        try dsimp only at hSw
        go_simp
        first
        | done
        | (with_reducible rfl)
      try simp only [Act.put, List.setIfInBounds_toArray, List.set_cons_zero, List.set_cons_succ]
      refine take_at 28 163 _ (v := ?v8328) rfl rfl (by kernel_rfl) (by kernel_rfl) (by kernel_rfl) (fun _ _ _ h => h) (Or.inl ⟨by rfl, ?hy8328⟩) (by assumption) ?rest8328
      case hy8328 =>
        intro wX hSw
        try dsimp only at hSw
        go_simp
        first
        | done
        | (with_reducible rfl)
      try simp only [Act.put, List.setIfInBounds_toArray, List.set_cons_zero, List.set_cons_succ]
      refine wpAnyH_done (by kernel_rfl) ?_ _
      refine NoPanic.normal ?_
      go_wp2
      go_roundw
      case measure => simp [intOf]; omega
      case rel => exact ⟨k + 1, by omega, by go_num, Lib.hid (hb2.out.trans ((HBC.out.trans (HB.out.mono HBC.out.size)).mono hb2.out.size))⟩
end Go.Proofs.YtookojgemipakaaDoor.E6
