/- The walk of the law PersTells. -/
import Derived.Test.YtpgacadnmekdhaaPersTellsK
import Derived.Shelf.RegionOpen
import Derived.Deep.RegionHeld3
import Derived.Test.YtpgacadnmekdhaaOpen
import Derived.Test.YtpgacadnmekdhaaBits
namespace Go.Proofs.Ytpgacadnmekdhaa.PersT
open Go.RowKit Go.Proofs.Ytpgacadnmekdhaa Go.Proofs.Ytpgacadnmekdhaa.Pers
set_option linter.unusedVariables false
attribute [local go_sem] Oper.semAt_some

set_option maxRecDepth 100000 in
set_option maxHeartbeats 20000000 in
theorem tells_walkP {w : World} (A : Option Addr) (n c : Nat) (f : Nat → Int) (ln : n ≤ c) (lc : c ≤ 9223372036854775807) (ll : Lies w w.heap.size A n (fun k => .int .i64 (f k))) (a : Int) (m : Nat) (hm : (n ≤ 20 ∧ m = n) ∨ (20 < n ∧ m = 20)) (hz : 0 < m) :
    Calls Try.prog 3 #[.slice A n c, .int .i64 a] w fun e w' => e = .returned (.bool true) ∧ Below w.heap.size w w' := by
  have HL := Lib.hid ll
  clear ll
  refine (callsIn_wide (n := 7)).1 ?_
  refine callsIn_of_wp_marks Try.func3 rfl trivial ?_ rfl
  simp only [Try.ntmps3, List.size_toArray, List.length_cons, List.length_nil, Nat.reduceAdd, Nat.reduceSub, Array.replicate_succ, Array.replicate_zero, List.push_toArray, List.append_toArray, List.nil_append, List.cons_append]
  have hm20 : m ≤ 20 := by omega
  have hmn : m ≤ n := by omega
  have HLm := Lib.hid (Lies.less HL.out hmn)
  have hmin : (if (20 : Int) < (n : Int) then (20 : Int) else (n : Int)) = (m : Int) := by split <;> omega
  have hmin' : (if 20 < n then (20 : Int) else (n : Int)) = (m : Int) := by split <;> omega
  have hmc : m ≤ c := by omega
  clear hm
  · gi_wp2_with fail
    refine ⟨trivial, (callsIn_wide.2 (awake_any _)).mono ?_⟩
    rintro e w1 ⟨rfl, hb1⟩
    have hB1 : Below w.heap.size w w1 := (((Below.refl _ w).alloc (Nat.le_refl _) _).alloc (by simp) _).trans (hb1.mono (by simp; omega))
    have r0 : Row w1 w.heap.size 3 #[.int .i64 a] := Row.below ((Row.made w _ _).alloc _) hb1 (by simp; omega)
    have r1 : Row w1 (w.heap.size + 1) 4 #[.bool false] := Row.below (by simpa using Row.made (w.alloc (.cells #[.int .i64 a] 3)) 4 #[.bool false]) hb1 (by simp)
    have z1 : w.heap.size + 2 ≤ w1.heap.size := by have := hb1.size; simpa using this
    have c0 : w1.cell? ⟨w.heap.size, 0, none⟩ = some (.int .i64 a) := (r0.cell 0).trans rfl
    have c1 : w1.cell? ⟨w.heap.size + 1, 0, none⟩ = some (.bool false) := (r1.cell 0).trans rfl
    have f1 : w1.frozen? ⟨w.heap.size + 1, 0, none⟩ = false := r1.free 0
    have HB1 := Lib.hid hB1
    have R0 := Lib.hid r0
    have R1 := Lib.hid r1
    clear hb1 hB1 r0 r1 c0
    gi_wp2_with fail
    refine ⟨trivial, (callsIn_wide.2 (of_any A m c f _ (by omega) (Lies.wide (HLm.out.below (HB1.out.alloc HB1.out.size _)) (by simp; omega)))).mono ?_⟩
    rintro e w2 ⟨⟨pc, rfl, hch⟩, hb2⟩
    gi_wp2_with fail
    refine ⟨trivial, (back_in Fence.wide 6 trivial rfl pc _).mono ?_⟩
    rintro e w3 ⟨rfl, rfl⟩
    gi_wp2
    have bk2 : Below w1.heap.size w1 w2 := ((Below.refl _ w1).alloc (Nat.le_refl _) _).trans (hb2.mono (by simp))
    have sx2 : Row w2 w1.heap.size 22 #[.slice A m c] := Row.below (Row.made w1 _ _) hb2 (by simp)
    have z2 : w1.heap.size + 1 ≤ w2.heap.size := by have := hb2.size; simpa using this
    have BK2 := Lib.hid bk2
    have SX2 := Lib.hid sx2
    have CH := Lib.hid hch
    clear bk2 sx2 hch hb2 c1
    have hI0 : Inv w2 (revN f m) a [] ((w2.alloc (.cells #[.int .i64 0] 3)).alloc (.cells #[.pointer pc] 24)) :=
      ⟨(Row.made w2 _ _).alloc _, ((Below.refl _ w2).alloc (Nat.le_refl _) _).alloc (by simp) _, ⟨_, rfl⟩, by simp; omega⟩
    have hbk : ((w2.alloc (.cells #[.int .i64 0] 3)).alloc (.cells #[.pointer pc] 24)).cell? ⟨w2.heap.size + 1, 0, none⟩ = some (.pointer pc) := by
      simp
    have hsz : ((w2.alloc (.cells #[.int .i64 0] 3)).alloc (.cells #[.pointer pc] 24)).heap.size = w2.heap.size + 2 := by simp
    have hw0 : Hid (((w2.alloc (.cells #[.int .i64 0] 3)).alloc (.cells #[.pointer pc] 24)).heap.size = w2.heap.size + 2) := hsz
    generalize (w2.alloc (.cells #[.int .i64 0] 3)).alloc (.cells #[.pointer pc] 24) = w0 at hI0 hbk hsz hw0 ⊢
    refine wpIn_rangeFunc_ownF rfl (by omega) (gf := 91) (lb := #[.pointer (some ⟨w2.heap.size + 1, 0, none⟩)]) rfl trivial (enters_of Try.func91 (by kernel_rfl) rfl)
      (back_stops Fence.wide 6 trivial trivial rfl (by omega) (w2.heap.size + 1) w2.heap.size pc (revN f m) w0 (by omega) (by omega) hbk (CH.out.below hI0.be (Nat.le_refl _))) belowK_t (belowK_b (by omega)) (Below.refl _ _) (fun _ => rfl)
      (Inv w2 (revN f m) a) (Left w2 (revN f m) a) (inv_own _ _ _ _ (by omega)) (fun c => left_own _ _ _ _ (by omega) c) hI0
      (fun x => { tmps := #[.slice A n c, .int .i64 a, undef, .pointer (some ⟨w.heap.size, 0, none⟩), .pointer (some ⟨w.heap.size + 1, 0, none⟩), .pointer (some ⟨w1.heap.size, 0, none⟩), .pointer pc, .pointer (some ⟨w2.heap.size, 0, none⟩), .int .i64 x,
        undef, undef, undef, undef, undef, .bool true, .bool false, .slice A n c, .slice A n c, .int .i64 n, .int .i64 m, .slice A m c, .slice A m c, .pointer pc, .pointer pc, .func (.func 91) #[] #[.pointer (some ⟨w2.heap.size + 1, 0, none⟩)], .int .i64 x,
        undef, undef, undef, undef, undef, undef, undef, undef, undef, undef, undef, undef, undef, undef, undef, undef, undef, undef, undef, undef, undef, undef, undef, undef, undef, undef, undef, undef, undef, undef, undef, undef, undef, undef, undef, undef, undef, undef, undef, undef, undef, undef, undef, undef, undef, undef, undef, undef, undef, undef, undef, undef, undef, undef, undef, undef, undef, undef, undef, undef, undef, undef, undef, undef, undef, undef, undef, undef, undef, undef, undef, undef, undef, undef, undef, undef, undef, undef, undef, undef, undef, undef, undef, undef, undef, undef, undef, undef, undef, undef, undef, undef, undef, undef, undef, undef], defers := [] }) ?assign ?body ?done ?stop
    case assign =>
      intro l x W K hK
      gi_wp2
      exact hK
    case body =>
      rintro l pre x W hI hlen
      have HI := Lib.hid hI
      rw [revN_len] at hlen
      have c1 : W.cell? ⟨w.heap.size, 0, none⟩ = some (.int .i64 a) := ((R0.out.below BK2.out (by omega)).below hI.be (by omega)).cell 0 |>.trans rfl
      have r2 : Row W (w.heap.size + 1) 4 #[.bool false] := (R1.out.below BK2.out (by omega)).below hI.be (by omega)
      have c2 : W.cell? ⟨w.heap.size + 1, 0, none⟩ = some (.bool false) := (r2.cell 0).trans rfl
      have f2 : W.frozen? ⟨w.heap.size + 1, 0, none⟩ = false := r2.free 0
      have c3 : W.cell? ⟨w1.heap.size, 0, none⟩ = some (.slice A m c) := ((SX2.out.below hI.be (by omega)).cell 0).trans rfl
      have c4 : W.cell? ⟨w2.heap.size, 0, none⟩ = some (.int .i64 pre.length) := (hI.bx.cell 0).trans rfl
      have f4 : W.frozen? ⟨w2.heap.size, 0, none⟩ = false := hI.bx.free 0
      obtain ⟨k, hk⟩ : ∃ k, m = pre.length + 1 + k := ⟨m - 1 - pre.length, by omega⟩
      obtain ⟨g, o, rfl, hg, hc⟩ := HLm.out k (by omega)
      have c5 : W.cell? ⟨g, o + k, none⟩ = some (.int .i64 (f k)) := (hI.be.cell (p := ⟨g, o + k, none⟩) (by simp; omega)).trans ((BK2.out.cell (p := ⟨g, o + k, none⟩) (by simp; omega)).trans ((HB1.out.cell (p := ⟨g, o + k, none⟩) (by simpa using hg)).trans hc))
      have R2 := Lib.hid r2
      have HK := Lib.hid hk
      have hidx : (m : Int) - 1 - (pre.length : Int) = k := by omega
      have hst := rev_step f m (x := x) hI.pr hlen
      have ek : m - 1 - pre.length = k := by omega
      rw [ek] at hst
      have HS := Lib.hid hst
      have hmod := Lib.hid (and31 a)
      clear hI r2 hk hst hc ek
      gi_wp2
      · rename_i hx
        exact ⟨KeepsOthers.setCell _ _ _, .inr (fun h => by
          have h2 := HS.out.1 h
          have h3 := HK.out
          rcases hx with hx | hx
          · omega
          · rw [h2] at hx
            simp at hx)⟩
      · rename_i hx hb
        have hb' : bits .and .i64 a 31 < (pre.length : Int) + 1 := hb
        rw [hmod.out] at hb'
        exact ⟨KeepsOthers.setCell _ _ _, .inl ⟨rfl, by simpa using Row.put HI.out.bx 0 (.int .i64 ((pre.length : Int) + 1)), HI.out.be.setCell (p := ⟨w2.heap.size, 0, none⟩) (Nat.le_refl _) _, by have := HI.out.le; simp; omega⟩⟩
      · rename_i hx hb
        have hb' : (pre.length : Int) + 1 ≤ bits .and .i64 a 31 := hb
        rw [hmod.out] at hb'
        exact ⟨KeepsOthers.setCell _ _ _, (Below.refl _ W).setCell (p := ⟨w2.heap.size, 0, none⟩) (Nat.le_refl _) _, by simpa using Row.put HI.out.bx 0 (.int .i64 ((pre.length : Int) + 1)), HI.out.be.setCell (p := ⟨w2.heap.size, 0, none⟩) (Nat.le_refl _) _, HS.out.2 (by
          have h2 := hx.2
          simp at h2
          exact h2.symm), by simp; omega⟩
    case done =>
      rintro D ys W hD rfl hI hK
      have hbq : Row W w2.heap.size 3 #[.int .i64 m] := by have := hI.bx; rwa [revN_len] at this
      have hle : (m : Int) ≤ a % 32 := by have := hI.le; rwa [revN_len] at this
      obtain ⟨r, hr⟩ : ∃ r : Nat, bits .and .i64 a 31 = (r : Int) := ⟨(a % 32).toNat, by rw [and31]; omega⟩
      have hr31 : r ≤ 31 := by have := and31 a; omega
      have hmr : m ≤ r := by have := and31 a; omega
      have hmr' : (m : Int) < (r : Int) + 1 := by omega
      have hwr : IntKind.i64.wrap ((r : Int) + 1) = (r : Int) + 1 := by rw [IntKind.wrap_i64]; omega
      have hsel : (r : Int) + 1 ≤ (m : Int) → (m : Int) = (r : Int) + 1 := by omega
      have hbe := hI.be
      clear hle hI
      have HBE := Lib.hid hbe
      have HKD := Lib.hid hK
      have HD := Lib.hid hD
      have rwn : Row W w.heap.size 3 #[.int .i64 a] := (R0.out.below BK2.out (by omega)).below hbe (by omega)
      have rwr : Row W (w.heap.size + 1) 4 #[.bool false] := (R1.out.below BK2.out (by omega)).below hbe (by omega)
      have rwx : Row W w1.heap.size 22 #[.slice A m c] := SX2.out.below hbe (by omega)
      have hWz : w2.heap.size < W.heap.size := World.block_lt_of_cell? W ⟨w2.heap.size, 0, none⟩ ((hbq.cell 0).trans rfl)
      have hlW : Lies W w2.heap.size A m (fun k => .int .i64 (f k)) := fun k hk => by
        obtain ⟨g, o, e, hg, hc⟩ := HLm.out k hk
        exact ⟨g, o, e, by omega, (hbe.cell (p := ⟨g, o + k, none⟩) (by simp; omega)).trans ((BK2.out.cell (p := ⟨g, o + k, none⟩) (by simp; omega)).trans ((HB1.out.cell (p := ⟨g, o + k, none⟩) (by simpa using hg)).trans hc))⟩
      have hcw0 : Ch W w2.heap.size pc (revN f m) := CH.out.below hbe (Nat.le_refl _)
      have hBW : Below w.heap.size w W := HB1.out.trans ((BK2.out.trans (hbe.mono (by omega))).mono (by omega))
      have HBW := Lib.hid hBW
      have RWN := Lib.hid rwn
      have RWR := Lib.hid rwr
      have RWX := Lib.hid rwx
      have RWQ := Lib.hid hbq
      have HLW := Lib.hid hlW
      have hF : ∀ k, Fence.wide.fn k := fun _ => trivial
      have hmo : Try.prog.follows .mixedOrders = true := by kernel_rfl
      clear hbe hbq hK hD rwn rwr rwx hlW hBW
      obtain ⟨j, hj⟩ : ∃ j, m = j + 1 := ⟨m - 1, by omega⟩
      have hcw : Ch W w2.heap.size pc (f j :: revN f j) := by rwa [hj] at hcw0
      have HCN := Lib.hid hcw
      obtain ⟨g, o, hA, hg, hc5⟩ := HLW.out j (by omega)
      have HG := Lib.hid hg
      have HC5 := Lib.hid hc5
      subst hA
      have HJ := Lib.hid hj
      have hidx : (m : Int) - 1 = j := by omega
      have hmx : (if (j : Int) < 0 then (0 : Int) else j) = j := by rw [if_neg (by omega)]
      have hpos : 0 < m := by omega
      have hjc : j ≤ c := by omega
      have hjm : j < m := by omega
      have hwj : IntKind.i64.wrap (j : Int) = j := by rw [IntKind.wrap_i64]; omega
      have hjm' : (j : Int) < (m : Int) := by omega
      have hj0 : ¬ ((j : Int) < 0) := by omega
      clear hcw hcw0 hj hg hc5
      gi_wp2_with (first
        | (gi_at_call 18; (with_reducible refine (callsIn_wide.2 (newest_no 0 _)).mono ?_); rintro e w' ⟨rfl, rfl⟩)
        | (gi_at_call 18; (with_reducible refine (callsIn_wide.2 (newest_yes pc (f j) (revN f j) _ _ HCN.out)).mono ?_); rintro e w' ⟨rfl, rfl⟩))
      have k1 : W.cell? ⟨w.heap.size, 0, none⟩ = some (.int .i64 a) := (RWN.out.cell 0).trans rfl
      have k2 : W.cell? ⟨w1.heap.size, 0, none⟩ = some (.slice (some ⟨g, o, none⟩) m c) := (RWX.out.cell 0).trans rfl
      have k3 : W.cell? ⟨w2.heap.size, 0, none⟩ = some (.int .i64 (((m : Nat) : Int))) := (RWQ.out.cell 0).trans rfl
      have k4 : W.cell? ⟨g, o + j, none⟩ = some (.int .i64 (f j)) := HC5.out
      have hkeep : ∀ X, Below W.heap.size W X → X.cell? ⟨w.heap.size, 0, none⟩ = some (.int .i64 a) ∧ X.cell? ⟨w1.heap.size, 0, none⟩ = some (.slice (some ⟨g, o, none⟩) m c) ∧ X.cell? ⟨w2.heap.size, 0, none⟩ = some (.int .i64 (((m : Nat) : Int))) ∧ X.cell? ⟨g, o + j, none⟩ = some (.int .i64 (f j)) := fun X hX => ⟨(hX.cell (p := ⟨w.heap.size, 0, none⟩) RWN.out.lt).trans k1, (hX.cell (p := ⟨w1.heap.size, 0, none⟩) RWX.out.lt).trans k2, (hX.cell (p := ⟨w2.heap.size, 0, none⟩) hWz).trans k3, (hX.cell (p := ⟨g, o + j, none⟩) (World.block_lt_of_cell? W ⟨g, o + j, none⟩ k4)).trans k4⟩
      have hz12 : w.heap.size + 2 ≤ w1.heap.size := z1
      have hz22 : w1.heap.size + 1 ≤ w2.heap.size := z2
      have hgw : g < w.heap.size := by
        obtain ⟨g', o', e', hg', _⟩ := HLm.out j (by omega)
        injection e' with e'
        injection e' with e1 e2
        omega
      have hstore : ∀ (X : World) (v : Value), (X.cell? ⟨w.heap.size, 0, none⟩ = some (.int .i64 a) ∧ X.cell? ⟨w1.heap.size, 0, none⟩ = some (.slice (some ⟨g, o, none⟩) m c) ∧ X.cell? ⟨w2.heap.size, 0, none⟩ = some (.int .i64 (((m : Nat) : Int))) ∧ X.cell? ⟨g, o + j, none⟩ = some (.int .i64 (f j))) → ((X.setCell ⟨w.heap.size + 1, 0, none⟩ v).cell? ⟨w.heap.size, 0, none⟩ = some (.int .i64 a) ∧ (X.setCell ⟨w.heap.size + 1, 0, none⟩ v).cell? ⟨w1.heap.size, 0, none⟩ = some (.slice (some ⟨g, o, none⟩) m c) ∧ (X.setCell ⟨w.heap.size + 1, 0, none⟩ v).cell? ⟨w2.heap.size, 0, none⟩ = some (.int .i64 (((m : Nat) : Int))) ∧ (X.setCell ⟨w.heap.size + 1, 0, none⟩ v).cell? ⟨g, o + j, none⟩ = some (.int .i64 (f j))) := fun X v ⟨q0, q1, q2, q3⟩ => ⟨(World.cell?_setCell_other _ _ _ _ (by simp)).trans q0, (World.cell?_setCell_other _ _ _ _ (by first | (simp; done) | (simp; omega))).trans q1, (World.cell?_setCell_other _ _ _ _ (by first | (simp; done) | (simp; omega))).trans q2, (World.cell?_setCell_other _ _ _ _ (by first | (simp; done) | (simp; omega))).trans q3⟩
      have HKEEP := Lib.hid hkeep
      have HSTORE := Lib.hid hstore
      clear hkeep hstore hz12 hz22
      refine wpIn_wide.2 ?_
      simp only [List.append_eq, List.cons_append, List.nil_append]
      go_region_held3 (fun X => X.cell? ⟨w.heap.size, 0, none⟩ = some (.int .i64 a) ∧ X.cell? ⟨w1.heap.size, 0, none⟩ = some (.slice (some ⟨g, o, none⟩) m c) ∧ X.cell? ⟨w2.heap.size, 0, none⟩ = some (.int .i64 (((m : Nat) : Int))) ∧ X.cell? ⟨g, o + j, none⟩ = some (.int .i64 (f j)))
        (first
          | exact ⟨k1, k2, k3, k4⟩
          | exact HSTORE.out _ _ (HKEEP.out _ HB6.out)
          | exact HKEEP.out _ HB6.out
          | exact HKEEP.out _ HBD.out
          | exact HKEEP.out _ HB4.out
          | exact HKEEP.out _ HB3.out
          | fail)
        ((first
          | (
              go_at_call 15
              refine (awake_any _).mono ?_
              rintro e w3 ⟨rfl, hb3⟩
              have h3 : Below W.heap.size W w3 := below_of_drew hb3
              have HB3 := Lib.hid h3
              have hch3 : Ch w3 w2.heap.size pc (f j :: revN f j) := HCN.out.below (h3.mono (by omega)) (Nat.le_refl _)
              have HCN3 := Lib.hid hch3
              clear hch3
              have hz3 : W.heap.size ≤ w3.heap.size := h3.size
              clear hb3 h3)
          | (
              go_at_call 20
              (with_reducible refine (rest_none _).mono ?_)
              rintro e w' ⟨rfl, rfl⟩)
          | (
              go_at_call 20
              refine (rest_any pc (f j :: revN f j) _ _ HCN3.out).mono ?_
              rintro e w' ⟨⟨qp, rfl, hq⟩, rfl⟩
              have hq3 : Ch w3 w3.heap.size qp (revN f j) := Ch.below (Below.refl _ w3) (by omega) hq
              have HQ3 := Lib.hid hq3
              clear hq hq3)
          | (
              go_at_call 22
              (with_reducible refine (len_none _).mono ?_)
              rintro e w' ⟨rfl, rfl⟩)
          | (
              go_at_call 21
              have hh4 := HB4.out
              (with_reducible refine (list_none f _).mono ?_)
              rintro e w6 ⟨A6, c6, rfl, b6⟩
              have h6 : Below W.heap.size W w6 := hh4.trans (Below.mono (below_of_drewN b6) hz4)
              have HB6 := Lib.hid h6
              have e6 : w6.cell? ⟨w.heap.size + 1, 0, none⟩ = some (.bool false) := (Row.below RWR.out h6 (by omega)).cell 0 |>.trans rfl
              have f6 : w6.frozen? ⟨w.heap.size + 1, 0, none⟩ = false := (Row.below RWR.out h6 (by omega)).free 0
              clear h6 b6 hh4)
          | (
              go_at_call 21
              refine (list_is qp _ j f w3 HQ3.out (revN_rev f j) (by omega)).mono ?_
              rintro e w4 ⟨A4, c4, rfl, l4, b4⟩
              have h4 : Below W.heap.size W w4 := HB3.out.trans (b4.mono hz3)
              have HB4 := Lib.hid h4
              have hz4 : W.heap.size ≤ w4.heap.size := h4.size
              have L4 := Lib.hid l4
              have LX4 := Lib.hid (Lies.below (Lies.wide (Lies.less HLW.out (show j ≤ m by omega)) (Nat.le_of_lt hWz)) h4)
              clear l4 b4 h4)
          | (
              go_at_call 19
              refine (same_yes A4 (some ⟨g, o, none⟩) j c4 c _ _ f f w4 (by omega) L4.out LX4.out (fun _ _ => rfl)).mono ?_
              rintro e w' ⟨rfl, dd, rfl⟩
              have HBD : Hid (Below W.heap.size W (w4.drewN dd)) := below_drewN HB4.out dd)))
      all_goals (
        have hDW : D < W.heap.size := (Array.getElem?_eq_some_iff.1 HKD.out).1
        have hDw : w.heap.size ≤ D := by have h1 := HD.out; have h2 := hw0.out; omega
        have hK6 : w6.heap[D]? = some (.deferred (some [])) := (HB6.out.block D hDW).trans HKD.out
        have hK7 := (KeepsOthers.setCell w6 ⟨w.heap.size + 1, 0, none⟩ (.bool true)).same D _ hK6 rfl
        have hc7 := cell_kept (World.cell?_setCell_same' w6 ⟨w.heap.size + 1, 0, none⟩ (.bool true) (by rw [e6]; rfl)) (grownBy_putObj' _ D (.deferred none)) (fun r e => by cases e; exact ⟨_, hK7, rfl⟩)
        gi_wp2
        refine ⟨by simp, .inl ⟨_, _, rfl, run_takeDeferred hK7, ?_⟩⟩
        refine ⟨.bool true, ?_, rfl, ((HBW.out.trans (HB6.out.mono (by omega))).setCell (p := ⟨w.heap.size + 1, 0, none⟩) (by simp) _).trans (belowK_b (w := w) (Nat.le_refl _) _ D _ _ hDw hK7 rfl rfl)⟩
        simp [results, Try.f3, go_sem, hc7])
    case stop =>
      rintro D c' pre W hD hpre hL hK
      rcases hL with ⟨rfl, hO⟩ | hno
      · obtain ⟨r, hr⟩ : ∃ r : Nat, bits .and .i64 a 31 = (r : Int) := ⟨(a % 32).toNat, by rw [and31]; omega⟩
        have hr31 : r ≤ 31 := by have := and31 a; omega
        have hbq : Row W w2.heap.size 3 #[.int .i64 ((r : Int) + 1)] := by
          have h1 := hO.bx
          have h2 := hO.le
          rwa [show (pre.length : Int) = (r : Int) + 1 by have := and31 a; omega] at h1
        have hmr : r < m := by
          have h1 := hpre.length_le
          rw [revN_len] at h1
          have h2 := hO.le
          have := and31 a
          omega
        have hmr' : ¬ ((m : Int) < (r : Int) + 1) := by omega
        have hs1 : ¬ (m ≤ r) := by omega
        have hs2 : ¬ ((m : Int) ≤ (r : Int)) := by omega
        have hs5 : (if (m : Int) < (r : Int) + 1 then (m : Int) else (r : Int) + 1) = (r : Int) + 1 := if_neg hmr'
        have hs6 : (r : Int) + 1 ≤ (m : Int) := by omega
        have hs7 : decide ((m : Int) < (r : Int) + 1) = false := by simp; omega
        have hwr : IntKind.i64.wrap ((r : Int) + 1) = (r : Int) + 1 := by rw [IntKind.wrap_i64]; omega
        have hbe := hO.be
        clear hO hpre
        have HBE := Lib.hid hbe
        have HKD := Lib.hid hK
        have HD := Lib.hid hD
        have rwn : Row W w.heap.size 3 #[.int .i64 a] := (R0.out.below BK2.out (by omega)).below hbe (by omega)
        have rwr : Row W (w.heap.size + 1) 4 #[.bool false] := (R1.out.below BK2.out (by omega)).below hbe (by omega)
        have rwx : Row W w1.heap.size 22 #[.slice A m c] := SX2.out.below hbe (by omega)
        have hWz : w2.heap.size < W.heap.size := World.block_lt_of_cell? W ⟨w2.heap.size, 0, none⟩ ((hbq.cell 0).trans rfl)
        have hlW : Lies W w2.heap.size A m (fun k => .int .i64 (f k)) := fun k hk => by
          obtain ⟨g, o, e, hg, hc⟩ := HLm.out k hk
          exact ⟨g, o, e, by omega, (hbe.cell (p := ⟨g, o + k, none⟩) (by simp; omega)).trans ((BK2.out.cell (p := ⟨g, o + k, none⟩) (by simp; omega)).trans ((HB1.out.cell (p := ⟨g, o + k, none⟩) (by simpa using hg)).trans hc))⟩
        have hcw0 : Ch W w2.heap.size pc (revN f m) := CH.out.below hbe (Nat.le_refl _)
        have hBW : Below w.heap.size w W := HB1.out.trans ((BK2.out.trans (hbe.mono (by omega))).mono (by omega))
        have HBW := Lib.hid hBW
        have RWN := Lib.hid rwn
        have RWR := Lib.hid rwr
        have RWX := Lib.hid rwx
        have RWQ := Lib.hid hbq
        have HLW := Lib.hid hlW
        have hF : ∀ k, Fence.wide.fn k := fun _ => trivial
        have hmo : Try.prog.follows .mixedOrders = true := by kernel_rfl
        clear hbe hbq hK hD rwn rwr rwx hlW hBW
        obtain ⟨j, hj⟩ : ∃ j, m = j + 1 := ⟨m - 1, by omega⟩
        have hcw : Ch W w2.heap.size pc (f j :: revN f j) := by rwa [hj] at hcw0
        have HCN := Lib.hid hcw
        obtain ⟨g, o, hA, hg, hc5⟩ := HLW.out j (by omega)
        have HG := Lib.hid hg
        have HC5 := Lib.hid hc5
        subst hA
        have HJ := Lib.hid hj
        have hidx : (m : Int) - 1 = j := by omega
        have hmx : (if (j : Int) < 0 then (0 : Int) else j) = j := by rw [if_neg (by omega)]
        have hpos : 0 < m := by omega
        have hjc : j ≤ c := by omega
        have hjm : j < m := by omega
        have hwj : IntKind.i64.wrap (j : Int) = j := by rw [IntKind.wrap_i64]; omega
        have hjm' : (j : Int) < (m : Int) := by omega
        have hj0 : ¬ ((j : Int) < 0) := by omega
        clear hcw hcw0 hj hg hc5
        gi_wp2_with (first
          | (gi_at_call 18; (with_reducible refine (callsIn_wide.2 (newest_no 0 _)).mono ?_); rintro e w' ⟨rfl, rfl⟩)
          | (gi_at_call 18; (with_reducible refine (callsIn_wide.2 (newest_yes pc (f j) (revN f j) _ _ HCN.out)).mono ?_); rintro e w' ⟨rfl, rfl⟩))
        have k1 : W.cell? ⟨w.heap.size, 0, none⟩ = some (.int .i64 a) := (RWN.out.cell 0).trans rfl
        have k2 : W.cell? ⟨w1.heap.size, 0, none⟩ = some (.slice (some ⟨g, o, none⟩) m c) := (RWX.out.cell 0).trans rfl
        have k3 : W.cell? ⟨w2.heap.size, 0, none⟩ = some (.int .i64 ((r : Int) + 1)) := (RWQ.out.cell 0).trans rfl
        have k4 : W.cell? ⟨g, o + j, none⟩ = some (.int .i64 (f j)) := HC5.out
        have hkeep : ∀ X, Below W.heap.size W X → X.cell? ⟨w.heap.size, 0, none⟩ = some (.int .i64 a) ∧ X.cell? ⟨w1.heap.size, 0, none⟩ = some (.slice (some ⟨g, o, none⟩) m c) ∧ X.cell? ⟨w2.heap.size, 0, none⟩ = some (.int .i64 ((r : Int) + 1)) ∧ X.cell? ⟨g, o + j, none⟩ = some (.int .i64 (f j)) := fun X hX => ⟨(hX.cell (p := ⟨w.heap.size, 0, none⟩) RWN.out.lt).trans k1, (hX.cell (p := ⟨w1.heap.size, 0, none⟩) RWX.out.lt).trans k2, (hX.cell (p := ⟨w2.heap.size, 0, none⟩) hWz).trans k3, (hX.cell (p := ⟨g, o + j, none⟩) (World.block_lt_of_cell? W ⟨g, o + j, none⟩ k4)).trans k4⟩
        have hz12 : w.heap.size + 2 ≤ w1.heap.size := z1
        have hz22 : w1.heap.size + 1 ≤ w2.heap.size := z2
        have hgw : g < w.heap.size := by
          obtain ⟨g', o', e', hg', _⟩ := HLm.out j (by omega)
          injection e' with e'
          injection e' with e1 e2
          omega
        have hstore : ∀ (X : World) (v : Value), (X.cell? ⟨w.heap.size, 0, none⟩ = some (.int .i64 a) ∧ X.cell? ⟨w1.heap.size, 0, none⟩ = some (.slice (some ⟨g, o, none⟩) m c) ∧ X.cell? ⟨w2.heap.size, 0, none⟩ = some (.int .i64 ((r : Int) + 1)) ∧ X.cell? ⟨g, o + j, none⟩ = some (.int .i64 (f j))) → ((X.setCell ⟨w.heap.size + 1, 0, none⟩ v).cell? ⟨w.heap.size, 0, none⟩ = some (.int .i64 a) ∧ (X.setCell ⟨w.heap.size + 1, 0, none⟩ v).cell? ⟨w1.heap.size, 0, none⟩ = some (.slice (some ⟨g, o, none⟩) m c) ∧ (X.setCell ⟨w.heap.size + 1, 0, none⟩ v).cell? ⟨w2.heap.size, 0, none⟩ = some (.int .i64 ((r : Int) + 1)) ∧ (X.setCell ⟨w.heap.size + 1, 0, none⟩ v).cell? ⟨g, o + j, none⟩ = some (.int .i64 (f j))) := fun X v ⟨q0, q1, q2, q3⟩ => ⟨(World.cell?_setCell_other _ _ _ _ (by simp)).trans q0, (World.cell?_setCell_other _ _ _ _ (by first | (simp; done) | (simp; omega))).trans q1, (World.cell?_setCell_other _ _ _ _ (by first | (simp; done) | (simp; omega))).trans q2, (World.cell?_setCell_other _ _ _ _ (by first | (simp; done) | (simp; omega))).trans q3⟩
        have HKEEP := Lib.hid hkeep
        have HSTORE := Lib.hid hstore
        clear hkeep hstore hz12 hz22
        refine wpIn_wide.2 ?_
        simp only [List.append_eq, List.cons_append, List.nil_append]
        go_region_held3 (fun X => X.cell? ⟨w.heap.size, 0, none⟩ = some (.int .i64 a) ∧ X.cell? ⟨w1.heap.size, 0, none⟩ = some (.slice (some ⟨g, o, none⟩) m c) ∧ X.cell? ⟨w2.heap.size, 0, none⟩ = some (.int .i64 ((r : Int) + 1)) ∧ X.cell? ⟨g, o + j, none⟩ = some (.int .i64 (f j)))
          (first
            | exact ⟨k1, k2, k3, k4⟩
            | exact HSTORE.out _ _ (HKEEP.out _ HB6.out)
            | exact HKEEP.out _ HB6.out
            | exact HKEEP.out _ HBD.out
            | exact HKEEP.out _ HB4.out
            | exact HKEEP.out _ HB3.out
            | fail)
          ((first
            | (
                go_at_call 15
                refine (awake_any _).mono ?_
                rintro e w3 ⟨rfl, hb3⟩
                have h3 : Below W.heap.size W w3 := below_of_drew hb3
                have HB3 := Lib.hid h3
                have hch3 : Ch w3 w2.heap.size pc (f j :: revN f j) := HCN.out.below (h3.mono (by omega)) (Nat.le_refl _)
                have HCN3 := Lib.hid hch3
                clear hch3
                have hz3 : W.heap.size ≤ w3.heap.size := h3.size
                clear hb3 h3)
            | (
                go_at_call 20
                (with_reducible refine (rest_none _).mono ?_)
                rintro e w' ⟨rfl, rfl⟩)
            | (
                go_at_call 20
                refine (rest_any pc (f j :: revN f j) _ _ HCN3.out).mono ?_
                rintro e w' ⟨⟨qp, rfl, hq⟩, rfl⟩
                have hq3 : Ch w3 w3.heap.size qp (revN f j) := Ch.below (Below.refl _ w3) (by omega) hq
                have HQ3 := Lib.hid hq3
                clear hq hq3)
            | (
                go_at_call 22
                (with_reducible refine (len_none _).mono ?_)
                rintro e w' ⟨rfl, rfl⟩)
            | (
                go_at_call 21
                have hh4 := HB4.out
                (with_reducible refine (list_none f _).mono ?_)
                rintro e w6 ⟨A6, c6, rfl, b6⟩
                have h6 : Below W.heap.size W w6 := hh4.trans (Below.mono (below_of_drewN b6) hz4)
                have HB6 := Lib.hid h6
                have e6 : w6.cell? ⟨w.heap.size + 1, 0, none⟩ = some (.bool false) := (Row.below RWR.out h6 (by omega)).cell 0 |>.trans rfl
                have f6 : w6.frozen? ⟨w.heap.size + 1, 0, none⟩ = false := (Row.below RWR.out h6 (by omega)).free 0
                clear h6 b6 hh4)
            | (
                go_at_call 21
                refine (list_is qp _ j f w3 HQ3.out (revN_rev f j) (by omega)).mono ?_
                rintro e w4 ⟨A4, c4, rfl, l4, b4⟩
                have h4 : Below W.heap.size W w4 := HB3.out.trans (b4.mono hz3)
                have HB4 := Lib.hid h4
                have hz4 : W.heap.size ≤ w4.heap.size := h4.size
                have L4 := Lib.hid l4
                have LX4 := Lib.hid (Lies.below (Lies.wide (Lies.less HLW.out (show j ≤ m by omega)) (Nat.le_of_lt hWz)) h4)
                clear l4 b4 h4)
            | (
                go_at_call 19
                refine (same_yes A4 (some ⟨g, o, none⟩) j c4 c _ _ f f w4 (by omega) L4.out LX4.out (fun _ _ => rfl)).mono ?_
                rintro e w' ⟨rfl, dd, rfl⟩
                have HBD : Hid (Below W.heap.size W (w4.drewN dd)) := below_drewN HB4.out dd)))
        all_goals (
          have hDW : D < W.heap.size := (Array.getElem?_eq_some_iff.1 HKD.out).1
          have hDw : w.heap.size ≤ D := by have h1 := HD.out; have h2 := hw0.out; omega
          have hK6 : w6.heap[D]? = some (.deferred (some [])) := (HB6.out.block D hDW).trans HKD.out
          have hK7 := (KeepsOthers.setCell w6 ⟨w.heap.size + 1, 0, none⟩ (.bool true)).same D _ hK6 rfl
          have hc7 := cell_kept (World.cell?_setCell_same' w6 ⟨w.heap.size + 1, 0, none⟩ (.bool true) (by rw [e6]; rfl)) (grownBy_putObj' _ D (.deferred none)) (fun r e => by cases e; exact ⟨_, hK7, rfl⟩)
          gi_wp2
          refine ⟨by simp, .inl ⟨_, _, rfl, run_takeDeferred hK7, ?_⟩⟩
          refine ⟨.bool true, ?_, rfl, ((HBW.out.trans (HB6.out.mono (by omega))).setCell (p := ⟨w.heap.size + 1, 0, none⟩) (by simp) _).trans (belowK_b (w := w) (Nat.le_refl _) _ D _ _ hDw hK7 rfl rfl)⟩
          simp [results, Try.f3, go_sem, hc7])
      · exact absurd hpre hno
end Go.Proofs.Ytpgacadnmekdhaa.PersT
