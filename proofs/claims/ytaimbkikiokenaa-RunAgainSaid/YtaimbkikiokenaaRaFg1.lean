/- The law RunAgain: a leaf. -/
import Derived.Test.YtaimbkikiokenaaRaF
import Derived.Test.YtaimbkikiokenaaRaG
import Derived.BigRegion
import Derived.Deep.RegionHeld
import Derived.Deep.RegionHeld3
import Derived.Laws.StructEq
namespace Go.Proofs.Ytaimbkikiokenaa.Rn
open Go.RowKit Go.Proofs.Ytaimbkikiokenaa Go.Proofs.Ytaimbkikiokenaa.Ev Go.Proofs.Ytaimbkikiokenaa.Pa Go.Proofs.Ytaimbkikiokenaa.Pq
set_option linter.unusedVariables false
set_option maxRecDepth 100000
set_option maxHeartbeats 8000000 in
theorem part_RaF_g1 (A0 : Option Addr) (n0 c0 : Nat) (F0 : Nat → Int) (ln : n0 ≤ c0) (lc : c0 ≤ 9223372036854775807) (lb : ∀ k, -9223372036854775808 ≤ F0 k ∧ F0 k ≤ 9223372036854775807) (A1 : Option Addr) (n1 c1 : Nat) (F1 : Nat → Ev.EI) (ln1 : n1 ≤ c1) (lc1 : c1 ≤ 9223372036854775807) (A2 : Option Addr) (n2 c2 : Nat) (F2 : Nat → Int) (ln2 : n2 ≤ c2) (lc2 : c2 ≤ 9223372036854775807) (FB : Hid (∀ k, -9223372036854775808 ≤ F2 k ∧ F2 k ≤ 9223372036854775807)) (w : World) (L0 : Hid (Lies w w.heap.size A0 n0 (fun k => .int .i64 (F0 k)))) (L1 : Hid (ELies w w.heap.size A1 n1 F1)) (L2 : Hid (Lies w w.heap.size A2 n2 (fun k => .int .i64 (F2 k)))) : (part_RaF A0 n0 c0 F0 ln lc lb A1 n1 c1 F1 ln1 lc1 A2 n2 c2 F2 ln2 lc2 FB w L0 L1 L2).G1 := by
  delta part_RaF
  intro g_last
  unhygienic intros
  go_upto_region 10 with fail
  go_region_law (first
    | (go_simp
       go_at_call 26
       refine (with_fr pp pe st0 S.f S.lt S.lq 0 x.t x.q win cap 9 false x.ty x.key (some ⟨x.vb, 0, none⟩) x.vs.length x.vs g o N c k (elAt es) (S.ps.map Pr.cells) ys _ (HCH.out.ch.below (Below.refl _ _).drew (Nat.le_refl _)) (HCY.out.ch.below (Below.refl _ _).drew (Nat.le_refl _)) HP5.out.lb.le.drew (HV.out.call (Below.refl _ _).drew) HLN.out.2.2 HKN.out HLN.out.1 HLN.out.2.1).mono ?_
       rintro e w6 ⟨pp', pe', rfl, hW, hF⟩
       rw [HF1.out]
       have HW := Lib.hid hW
       have HWF := Lib.hid hF
       have HRW6 := Lib.hid (HRW.out.drew.below hW.be HRW.out.drew.lt)
       have HP6 := Lib.hid ((HP5.out.call (Below.refl _ _).drew).call hW.be)
       have y0 := HRW6.out.is 0 rfl
       have z0 := HRW6.out.free 0
       have y1 := HRW6.out.is 1 rfl
       have z1 := HRW6.out.free 1
       have y2 := HRW6.out.is 2 rfl
       have z2 := HRW6.out.free 2
       have y3 := HRW6.out.is 3 rfl
       have z3 := HRW6.out.free 3
       have y4 := HRW6.out.is 4 rfl
       have z4 := HRW6.out.free 4
       have y5 := HRW6.out.is 5 rfl
       have z5 := HRW6.out.free 5
       have y6 := HRW6.out.is 6 rfl
       have z6 := HRW6.out.free 6
       have y7 := HRW6.out.is 7 rfl
       have z7 := HRW6.out.free 7
       clear hW hF)
    | fail)
  all_goals
    have HP7 := Lib.hid (HP5.out.withs HW.out HWF.out HCH.out HCY.out H7.out HRW.out HF1.out)
    clear r0 r1 r2 r3 r4 r5 r6 r7 q0 q1 q2 y0 y1 y2 y3 y4 y5 y6 y7 z0 z1 z2 z3 z4 z5 z6 z7 d0 d1 d2 d3 d4
    go_wp2
    go_roundw
    case rel => exact ⟨i + 1, HI.out, by go_num, _, o5, _, HP7.out.imp HF.out, HLN5.out, HEQ5.out⟩
    case measure => have := HI.out; simp [intOf]; omega
end Go.Proofs.Ytaimbkikiokenaa.Rn
