/- The law RunAgain: a leaf. -/
import Derived.Test.YtaimbkikiokenaaRaF
import Derived.BigRegion
import Derived.Deep.RegionHeld
import Derived.Deep.RegionHeld3
import Derived.Laws.StructEq
namespace Go.Proofs.Ytaimbkikiokenaa.Rn
open Go.RowKit Go.Proofs.Ytaimbkikiokenaa Go.Proofs.Ytaimbkikiokenaa.Ev Go.Proofs.Ytaimbkikiokenaa.Pa Go.Proofs.Ytaimbkikiokenaa.Pq
set_option linter.unusedVariables false
set_option maxRecDepth 100000
set_option maxHeartbeats 8000000 in
theorem part_RaF_g2 (A0 : Option Addr) (n0 c0 : Nat) (F0 : Nat → Int) (ln : n0 ≤ c0) (lc : c0 ≤ 9223372036854775807) (lb : ∀ k, -9223372036854775808 ≤ F0 k ∧ F0 k ≤ 9223372036854775807) (A1 : Option Addr) (n1 c1 : Nat) (F1 : Nat → Ev.EI) (ln1 : n1 ≤ c1) (lc1 : c1 ≤ 9223372036854775807) (A2 : Option Addr) (n2 c2 : Nat) (F2 : Nat → Int) (ln2 : n2 ≤ c2) (lc2 : c2 ≤ 9223372036854775807) (FB : Hid (∀ k, -9223372036854775808 ≤ F2 k ∧ F2 k ≤ 9223372036854775807)) (w : World) (L0 : Hid (Lies w w.heap.size A0 n0 (fun k => .int .i64 (F0 k)))) (L1 : Hid (ELies w w.heap.size A1 n1 F1)) (L2 : Hid (Lies w w.heap.size A2 n2 (fun k => .int .i64 (F2 k)))) : (part_RaF A0 n0 c0 F0 ln lc lb A1 n1 c1 F1 ln1 lc1 A2 n2 c2 F2 ln2 lc2 FB w L0 L1 L2).G2 := by
  delta part_RaF
  intro g_last
  unhygienic intros
  obtain ⟨v9, rfl, hst⟩ := hcut
  obtain ⟨ms, mo, S, hlp, hlen, heq⟩ := hst.out
  have HP := Lib.hid hlp
  have HLEN := Lib.hid hlen
  have HEQ := Lib.hid heq
  clear hst hlp hlen heq HLP
  have q0 := HP.out.lb.q.is 0 rfl
  have q1 := HP.out.lb.q.is 1 rfl
  have q2 := HP.out.lb.q.is 2 rfl
  have HAG := Lib.hid (again_any g o N c win cap 5 (elAt es) v9 (.slice vA X vc) ms xs wc HP.out.lb.le (pl_seg HP.out.sg) HP.out.ks (evl_seg HP.out.lb.ev) (by omega) (by have := HLEN.out; omega))
  rw [HEQ.out] at HAG
  go_wp2_with fail
  refine HAG.out.mono ?_
  rintro e w8 ⟨pp, pe, rfl, hch, hb8⟩
  have hbz : Below w8.heap.size w8 (w8.alloc (.cells #[.int .i64 5, .pointer pp, .pointer pe, .int .i64 S.f, .int .i64 S.lt, .int .i64 S.lq, .int .i64 0, .bool false] 52)) := (Below.refl _ _).alloc (Nat.le_refl _) _
  have HNR := Lib.hid (Row.made w8 52 #[.int .i64 5, .pointer pp, .pointer pe, .int .i64 S.f, .int .i64 S.lt, .int .i64 S.lq, .int .i64 0, .bool false])
  have HP9 := Lib.hid ((HP.out.call hb8).call hbz)
  have HCH := Lib.hid (hch.below hbz hbz.size)
  have hsl : S.ps.length ≤ 1000000 := by
    have h1 := fold_len xs ms RS.zero
    rw [HEQ.out] at h1
    have h3 : RS.zero.ps.length = 0 := rfl
    have h4 := HLEN.out
    omega
  have HSL := Lib.hid hsl
  clear hsl hch hb8 q0 q1 q2 HAG HP HLEN HEQ hbz
  go_upto_region 12 with fail
  obtain ⟨st0, pp0, pe0, hrow0, hch0⟩ := HP9.out.rs.rst
  have HBW := Lib.hid HP9.out.be
  have HC0 := Lib.hid hch0
  generalize w8.alloc (.cells #[.int .i64 5, .pointer pp, .pointer pe, .int .i64 S.f, .int .i64 S.lt, .int .i64 S.lq, .int .i64 0, .bool false] 52) = W9 at HNR HCH HBW HC0 hrow0 ⊢
  generalize w8.heap.size = nb at HNR ⊢
  have hS : ∀ X, Below W9.heap.size W9 X → X.cell? ⟨nb, 0, none⟩ = some (.int .i64 5) ∧ X.cell? ⟨nb, 1, none⟩ = some (.pointer pp) ∧ X.cell? ⟨nb, 2, none⟩ = some (.pointer pe) ∧ X.cell? ⟨nb, 3, none⟩ = some (.int .i64 S.f) ∧ X.cell? ⟨nb, 4, none⟩ = some (.int .i64 S.lt) ∧ X.cell? ⟨nb, 5, none⟩ = some (.int .i64 S.lq) ∧ X.cell? ⟨nb, 6, none⟩ = some (.int .i64 0) ∧ X.cell? ⟨nb, 7, none⟩ = some (.bool false) ∧ X.cell? ⟨rb, 0, none⟩ = some (.int .i64 st0) ∧ X.cell? ⟨rb, 1, none⟩ = some (.pointer pp0) ∧ X.cell? ⟨rb, 2, none⟩ = some (.pointer pe0) ∧ X.cell? ⟨rb, 3, none⟩ = some (.int .i64 S.f) ∧ X.cell? ⟨rb, 4, none⟩ = some (.int .i64 S.lt) ∧ X.cell? ⟨rb, 5, none⟩ = some (.int .i64 S.lq) ∧ X.cell? ⟨rb, 6, none⟩ = some (.int .i64 0) ∧ X.cell? ⟨rb, 7, none⟩ = some (.bool false) := fun X hX =>
    ⟨((Row.below HNR.out hX HNR.out.lt).cell 0).trans rfl, ((Row.below HNR.out hX HNR.out.lt).cell 1).trans rfl, ((Row.below HNR.out hX HNR.out.lt).cell 2).trans rfl, ((Row.below HNR.out hX HNR.out.lt).cell 3).trans rfl, ((Row.below HNR.out hX HNR.out.lt).cell 4).trans rfl, ((Row.below HNR.out hX HNR.out.lt).cell 5).trans rfl, ((Row.below HNR.out hX HNR.out.lt).cell 6).trans rfl, ((Row.below HNR.out hX HNR.out.lt).cell 7).trans rfl, ((Row.below hrow0 hX hrow0.lt).cell 0).trans rfl, ((Row.below hrow0 hX hrow0.lt).cell 1).trans rfl, ((Row.below hrow0 hX hrow0.lt).cell 2).trans rfl, ((Row.below hrow0 hX hrow0.lt).cell 3).trans rfl, ((Row.below hrow0 hX hrow0.lt).cell 4).trans rfl, ((Row.below hrow0 hX hrow0.lt).cell 5).trans rfl, ((Row.below hrow0 hX hrow0.lt).cell 6).trans rfl, ((Row.below hrow0 hX hrow0.lt).cell 7).trans rfl⟩
  have HS := Lib.hid hS
  clear hS hrow0 hch0 HP9
  have HB : Hid (Below W9.heap.size W9 W9.drew) := (Below.refl _ W9).drew
  refine wp_region_noPanic ?_
  refine wp_region_held_drew (S := (fun X => X.cell? ⟨nb, 0, none⟩ = some (.int .i64 5) ∧ X.cell? ⟨nb, 1, none⟩ = some (.pointer pp) ∧ X.cell? ⟨nb, 2, none⟩ = some (.pointer pe) ∧ X.cell? ⟨nb, 3, none⟩ = some (.int .i64 S.f) ∧ X.cell? ⟨nb, 4, none⟩ = some (.int .i64 S.lt) ∧ X.cell? ⟨nb, 5, none⟩ = some (.int .i64 S.lq) ∧ X.cell? ⟨nb, 6, none⟩ = some (.int .i64 0) ∧ X.cell? ⟨nb, 7, none⟩ = some (.bool false) ∧ X.cell? ⟨rb, 0, none⟩ = some (.int .i64 st0) ∧ X.cell? ⟨rb, 1, none⟩ = some (.pointer pp0) ∧ X.cell? ⟨rb, 2, none⟩ = some (.pointer pe0) ∧ X.cell? ⟨rb, 3, none⟩ = some (.int .i64 S.f) ∧ X.cell? ⟨rb, 4, none⟩ = some (.int .i64 S.lt) ∧ X.cell? ⟨rb, 5, none⟩ = some (.int .i64 S.lq) ∧ X.cell? ⟨rb, 6, none⟩ = some (.int .i64 0) ∧ X.cell? ⟨rb, 7, none⟩ = some (.bool false))) (by kernel_rfl) ?_ (fun hHeld => ?_)
  · exact HS.out _ HB.out
  refine wpAnyH_ready (rs := [0]) (by kernel_rfl) (by simp) ?_
  refine AllReadyH.cons rfl (fun K hK => ?_) AllReadyH.nil
  go_simp
  go_at_call 25
  (with_reducible refine (awake_any _).mono ?_)
  rintro e x1 ⟨rfl, hb⟩
  have h3 := HB.out.trans (hb.mono HB.out.size)
  clear HB
  have HB := Lib.hid h3
  clear h3
  clear hb
  try go_wp2_with fail
  refine hK.out _ _ ?_ (fun hHeld => ?_)
  · exact HS.out _ HB.out
  clear hK K
  try simp only [Act.put, List.setIfInBounds_toArray, List.set_cons_zero, List.set_cons_succ]
  refine take_at 1 76 _ (v := ?v121) rfl rfl (by kernel_rfl) (by kernel_rfl) (by kernel_rfl) (fun _ _ _ h => h) (Or.inl ⟨by rfl, ?hy121⟩) (by assumption) ?rest121
  case hy121 =>
    intro wX hSw
    try dsimp only at hSw
    go_simp
    first
    | done
    | (with_reducible rfl)
  try simp only [Act.put, List.setIfInBounds_toArray, List.set_cons_zero, List.set_cons_succ]
  refine take_at 2 77 _ (v := ?v122) rfl rfl (by kernel_rfl) (by kernel_rfl) (by kernel_rfl) (fun _ _ _ h => h) (Or.inl ⟨by rfl, ?hy122⟩) (by assumption) ?rest122
  case hy122 =>
    intro wX hSw
    try dsimp only at hSw
    go_simp
    first
    | done
    | (with_reducible rfl)
  try simp only [Act.put, List.setIfInBounds_toArray, List.set_cons_zero, List.set_cons_succ]
  refine take_at 4 79 _ (v := ?v124) rfl rfl (by kernel_rfl) (by kernel_rfl) (by kernel_rfl) (fun _ _ _ h => h) (Or.inl ⟨by rfl, ?hy124⟩) (by assumption) ?rest124
  case hy124 =>
    intro wX hSw
    try dsimp only at hSw
    go_simp
    first
    | done
    | (with_reducible rfl)
  try simp only [Act.put, List.setIfInBounds_toArray, List.set_cons_zero, List.set_cons_succ]
  refine wpAnyH_ready (rs := [3]) (by kernel_rfl) (by simp) ?_
  refine AllReadyH.cons rfl (fun K hK => ?_) AllReadyH.nil
  go_simp
  go_at_call 30
  (with_reducible refine (rpairs_any pp pe 5 S.f S.lt S.lq 0 false S.ps _ (HCH.out.below HB.out HB.out.size) HSL.out).mono ?_)
  rintro e x2 ⟨va, rfl, hpl, hb⟩
  have HPA := Lib.hid hpl
  have h3 := HB.out.trans (hb.mono HB.out.size)
  clear HB
  have HB := Lib.hid h3
  clear h3
  clear hb hpl
  try go_wp2_with fail
  refine hK.out _ _ ?_ (fun hHeld => ?_)
  · exact HS.out _ HB.out
  clear hK K
  try simp only [Act.put, List.setIfInBounds_toArray, List.set_cons_zero, List.set_cons_succ]
  refine wpAnyH_ready (rs := [5]) (by kernel_rfl) (by simp) ?_
  refine AllReadyH.cons rfl (fun K hK => ?_) AllReadyH.nil
  go_simp
  go_at_call 30
  (with_reducible refine (rpairs_any pp0 pe0 st0 S.f S.lt S.lq 0 false S.ps _ (HC0.out.below HB.out HB.out.size) HSL.out).mono ?_)
  rintro e x3 ⟨vb, rfl, hpl, hb⟩
  have HPB := Lib.hid hpl
  have HPA2 := Lib.hid (HPA.out.below hb hb.size)
  have h3 := HB.out.trans (hb.mono HB.out.size)
  clear HB
  have HB := Lib.hid h3
  clear h3
  clear hb hpl
  try go_wp2_with fail
  refine hK.out _ _ ?_ (fun hHeld => ?_)
  · exact HS.out _ HB.out
  clear hK K
  try simp only [Act.put, List.setIfInBounds_toArray, List.set_cons_zero, List.set_cons_succ]
  refine wpAnyH_ready (rs := [6]) (by kernel_rfl) (by simp) ?_
  refine AllReadyH.cons rfl (fun K hK => ?_) AllReadyH.nil
  go_simp
  go_at_call 29
  (with_reducible refine (samep_yes va vb S.ps.reverse _ HPA2.out HPB.out).mono ?_)
  rintro e x4 ⟨rfl, hb⟩
  have h3 := HB.out.trans (hb.mono HB.out.size)
  clear HB
  have HB := Lib.hid h3
  clear h3
  clear hb
  try go_wp2_with fail
  refine hK.out _ _ ?_ (fun hHeld => ?_)
  · exact HS.out _ HB.out
  clear hK K
  try simp only [Act.put, List.setIfInBounds_toArray, List.set_cons_zero, List.set_cons_succ]
  refine take_at 7 82 _ (v := ?v127) rfl rfl (by kernel_rfl) (by kernel_rfl) (by kernel_rfl) (fun _ _ _ h => h) (Or.inl ⟨by rfl, ?hy127⟩) (by assumption) ?rest127
  case hy127 =>
    intro wX hSw
    try dsimp only at hSw
    go_simp
    first
    | done
    | (with_reducible rfl)
  try simp only [Act.put, List.setIfInBounds_toArray, List.set_cons_zero, List.set_cons_succ]
  refine take_at 8 83 _ (v := ?v128) rfl rfl (by kernel_rfl) (by kernel_rfl) (by kernel_rfl) (fun _ _ _ h => h) (Or.inl ⟨by rfl, ?hy128⟩) (by assumption) ?rest128
  case hy128 =>
    intro wX hSw
    try dsimp only at hSw
    go_simp
    first
    | done
    | (with_reducible rfl)
  try simp only [Act.put, List.setIfInBounds_toArray, List.set_cons_zero, List.set_cons_succ]
  refine take_at 9 84 _ (v := ?v129) rfl rfl (by kernel_rfl) (by kernel_rfl) (by kernel_rfl) (fun _ _ _ h => h) (Or.inl ⟨by rfl, ?hy129⟩) (by assumption) ?rest129
  case hy129 =>
    intro wX hSw
    try dsimp only at hSw
    go_simp
    first
    | done
    | (with_reducible rfl)
  try simp only [Act.put, List.setIfInBounds_toArray, List.set_cons_zero, List.set_cons_succ]
  refine wpAnyH_ready (rs := [10]) (by kernel_rfl) (by simp) ?_
  refine AllReadyH.cons rfl (fun K hK => ?_) AllReadyH.nil
  go_simp
  go_at_call 31
  (with_reducible refine (rstate_any pp pe 5 S.f S.lt S.lq 0 false _).mono ?_)
  rintro e x5 ⟨rfl, hb⟩
  have h3 := HB.out.trans (hb.mono HB.out.size)
  clear HB
  have HB := Lib.hid h3
  clear h3
  clear hb
  try go_wp2_with fail
  refine hK.out _ _ ?_ (fun hHeld => ?_)
  · exact HS.out _ HB.out
  clear hK K
  try simp only [Act.put, List.setIfInBounds_toArray, List.set_cons_zero, List.set_cons_succ]
  refine take_at 11 86 _ (v := ?v1211) rfl rfl (by kernel_rfl) (by kernel_rfl) (by kernel_rfl) (fun _ _ _ h => h) (Or.inl ⟨by rfl, ?hy1211⟩) (by assumption) ?rest1211
  case hy1211 =>
    intro wX hSw
    try dsimp only at hSw
    go_simp
    first
    | done
    | (with_reducible rfl)
  try simp only [Act.put, List.setIfInBounds_toArray, List.set_cons_zero, List.set_cons_succ]
  refine take_at 12 87 _ (v := ?v1212) rfl rfl (by kernel_rfl) (by kernel_rfl) (by kernel_rfl) (fun _ _ _ h => h) (Or.inl ⟨by rfl, ?hy1212⟩) (by assumption) ?rest1212
  case hy1212 =>
    intro wX hSw
    try dsimp only at hSw
    go_simp
    first
    | done
    | (with_reducible rfl)
  try simp only [Act.put, List.setIfInBounds_toArray, List.set_cons_zero, List.set_cons_succ]
  refine take_at 13 88 _ (v := ?v1213) rfl rfl (by kernel_rfl) (by kernel_rfl) (by kernel_rfl) (fun _ _ _ h => h) (Or.inl ⟨by rfl, ?hy1213⟩) (by assumption) ?rest1213
  case hy1213 =>
    intro wX hSw
    try dsimp only at hSw
    go_simp
    first
    | done
    | (with_reducible rfl)
  try simp only [Act.put, List.setIfInBounds_toArray, List.set_cons_zero, List.set_cons_succ]
  refine take_at 14 89 _ (v := ?v1214) rfl rfl (by kernel_rfl) (by kernel_rfl) (by kernel_rfl) (fun _ _ _ h => h) (Or.inl ⟨by rfl, ?hy1214⟩) (by assumption) ?rest1214
  case hy1214 =>
    intro wX hSw
    try dsimp only at hSw
    go_simp
    first
    | done
    | (with_reducible rfl)
  try simp only [Act.put, List.setIfInBounds_toArray, List.set_cons_zero, List.set_cons_succ]
  refine take_at 16 91 _ (v := ?v1216) rfl rfl (by kernel_rfl) (by kernel_rfl) (by kernel_rfl) (fun _ _ _ h => h) (Or.inl ⟨by rfl, ?hy1216⟩) (by assumption) ?rest1216
  case hy1216 =>
    intro wX hSw
    try dsimp only at hSw
    go_simp
    first
    | done
    | (with_reducible rfl)
  try simp only [Act.put, List.setIfInBounds_toArray, List.set_cons_zero, List.set_cons_succ]
  refine wpAnyH_ready (rs := [15]) (by kernel_rfl) (by simp) ?_
  refine AllReadyH.cons rfl (fun K hK => ?_) AllReadyH.nil
  go_simp
  go_at_call 32
  (with_reducible refine (rfirst_any pp pe 5 S.f S.lt S.lq 0 false _).mono ?_)
  rintro e x6 ⟨rfl, hb⟩
  have h3 := HB.out.trans (hb.mono HB.out.size)
  clear HB
  have HB := Lib.hid h3
  clear h3
  clear hb
  try go_wp2_with fail
  refine hK.out _ _ ?_ (fun hHeld => ?_)
  · exact HS.out _ HB.out
  clear hK K
  try simp only [Act.put, List.setIfInBounds_toArray, List.set_cons_zero, List.set_cons_succ]
  refine wpAnyH_ready (rs := [17]) (by kernel_rfl) (by simp) ?_
  refine AllReadyH.cons rfl (fun K hK => ?_) AllReadyH.nil
  go_simp
  go_at_call 32
  (with_reducible refine (rfirst_any pp0 pe0 st0 S.f S.lt S.lq 0 false _).mono ?_)
  rintro e x7 ⟨rfl, hb⟩
  have h3 := HB.out.trans (hb.mono HB.out.size)
  clear HB
  have HB := Lib.hid h3
  clear h3
  clear hb
  try go_wp2_with fail
  refine hK.out _ _ ?_ (fun hHeld => ?_)
  · exact HS.out _ HB.out
  clear hK K
  try simp only [Act.put, List.setIfInBounds_toArray, List.set_cons_zero, List.set_cons_succ]
  refine take_at 18 93 _ (v := ?v1218) rfl rfl (by kernel_rfl) (by kernel_rfl) (by kernel_rfl) (fun _ _ _ h => h) (Or.inl ⟨by rfl, ?hy1218⟩) (by assumption) ?rest1218
  case hy1218 =>
    intro wX hSw
    try dsimp only at hSw
    go_simp
    first
    | done
    | (with_reducible rfl)
  try simp only [Act.put, List.setIfInBounds_toArray, List.set_cons_zero, List.set_cons_succ]
  refine take_at 19 94 _ (v := ?v1219) rfl rfl (by kernel_rfl) (by kernel_rfl) (by kernel_rfl) (fun _ _ _ h => h) (Or.inl ⟨by rfl, ?hy1219⟩) (by assumption) ?rest1219
  case hy1219 =>
    intro wX hSw
    try dsimp only at hSw
    go_simp
    first
    | done
    | (with_reducible rfl)
  try simp only [Act.put, List.setIfInBounds_toArray, List.set_cons_zero, List.set_cons_succ]
  refine take_at 20 95 _ (v := ?v1220) rfl rfl (by kernel_rfl) (by kernel_rfl) (by kernel_rfl) (fun _ _ _ h => h) (Or.inl ⟨by rfl, ?hy1220⟩) (by assumption) ?rest1220
  case hy1220 =>
    intro wX hSw
    try dsimp only at hSw
    go_simp
    first
    | done
    | (with_reducible rfl)
  try simp only [Act.put, List.setIfInBounds_toArray, List.set_cons_zero, List.set_cons_succ]
  refine take_at 21 96 _ (v := ?v1221) rfl rfl (by kernel_rfl) (by kernel_rfl) (by kernel_rfl) (fun _ _ _ h => h) (Or.inl ⟨by rfl, ?hy1221⟩) (by assumption) ?rest1221
  case hy1221 =>
    intro wX hSw
    try dsimp only at hSw
    go_simp
    first
    | done
    | (with_reducible rfl)
  try simp only [Act.put, List.setIfInBounds_toArray, List.set_cons_zero, List.set_cons_succ]
  refine take_at 23 98 _ (v := ?v1223) rfl rfl (by kernel_rfl) (by kernel_rfl) (by kernel_rfl) (fun _ _ _ h => h) (Or.inl ⟨by rfl, ?hy1223⟩) (by assumption) ?rest1223
  case hy1223 =>
    intro wX hSw
    try dsimp only at hSw
    go_simp
    first
    | done
    | (with_reducible rfl)
  try simp only [Act.put, List.setIfInBounds_toArray, List.set_cons_zero, List.set_cons_succ]
  refine wpAnyH_ready (rs := [22]) (by kernel_rfl) (by simp) ?_
  refine AllReadyH.cons rfl (fun K hK => ?_) AllReadyH.nil
  go_simp
  go_at_call 33
  (with_reducible refine (rlast_any pp pe 5 S.f S.lt S.lq 0 false _).mono ?_)
  rintro e x8 ⟨rfl, hb⟩
  have h3 := HB.out.trans (hb.mono HB.out.size)
  clear HB
  have HB := Lib.hid h3
  clear h3
  clear hb
  try go_wp2_with fail
  refine hK.out _ _ ?_ (fun hHeld => ?_)
  · exact HS.out _ HB.out
  clear hK K
  try simp only [Act.put, List.setIfInBounds_toArray, List.set_cons_zero, List.set_cons_succ]
  refine wpAnyH_ready (rs := [24]) (by kernel_rfl) (by simp) ?_
  refine AllReadyH.cons rfl (fun K hK => ?_) AllReadyH.nil
  go_simp
  go_at_call 33
  (with_reducible refine (rlast_any pp0 pe0 st0 S.f S.lt S.lq 0 false _).mono ?_)
  rintro e x9 ⟨rfl, hb⟩
  have h3 := HB.out.trans (hb.mono HB.out.size)
  clear HB
  have HB := Lib.hid h3
  clear h3
  clear hb
  try go_wp2_with fail
  refine hK.out _ _ ?_ (fun hHeld => ?_)
  · exact HS.out _ HB.out
  clear hK K
  try simp only [Act.put, List.setIfInBounds_toArray, List.set_cons_zero, List.set_cons_succ]
  refine take_at 25 100 _ (v := ?v1225) rfl rfl (by kernel_rfl) (by kernel_rfl) (by kernel_rfl) (fun _ _ _ h => h) (Or.inl ⟨by rfl, ?hy1225⟩) (by assumption) ?rest1225
  case hy1225 =>
    intro wX hSw
    try dsimp only at hSw
    go_simp
    first
    | done
    | (with_reducible rfl)
  try simp only [Act.put, List.setIfInBounds_toArray, List.set_cons_zero, List.set_cons_succ]
  refine take_at 26 101 _ (v := ?v1226) rfl rfl (by kernel_rfl) (by kernel_rfl) (by kernel_rfl) (fun _ _ _ h => h) (Or.inl ⟨by rfl, ?hy1226⟩) (by assumption) ?rest1226
  case hy1226 =>
    intro wX hSw
    try dsimp only at hSw
    go_simp
    first
    | done
    | (with_reducible rfl)
  try simp only [Act.put, List.setIfInBounds_toArray, List.set_cons_zero, List.set_cons_succ]
  refine take_at 27 6 _ (v := ?v1227) rfl rfl (by kernel_rfl) (by kernel_rfl) (by kernel_rfl) (fun _ _ _ h => h) (Or.inl ⟨by rfl, ?hy1227⟩) (by assumption) ?rest1227
  case hy1227 =>
    intro wX hSw
    try dsimp only at hSw
    go_simp
    first
    | done
    | (with_reducible rfl)
  try simp only [Act.put, List.setIfInBounds_toArray, List.set_cons_zero, List.set_cons_succ]
  refine wpAnyH_done (by kernel_rfl) ?_ _
  refine NoPanic.normal ?_
  go_wp2
  go_ret
  exact ⟨rfl, HBW.out.trans (HB.out.mono HBW.out.size)⟩
end Go.Proofs.Ytaimbkikiokenaa.Rn
