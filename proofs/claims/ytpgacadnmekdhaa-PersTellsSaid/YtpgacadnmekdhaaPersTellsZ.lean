/- The walk of the law PersTells. -/
import Derived.Test.YtpgacadnmekdhaaPersTellsK
import Derived.Shelf.RegionOpen
import Derived.Deep.RegionHeld3
import Derived.Test.YtpgacadnmekdhaaOpen
import Derived.Test.YtpgacadnmekdhaaBits
namespace Go.Proofs.Ytpgacadnmekdhaa.PersT
open Go.RowKit Go.Proofs.Ytpgacadnmekdhaa Go.Proofs.Ytpgacadnmekdhaa.Pers
set_option linter.unusedVariables false
attribute [local go_sem] Oper.semAt_some

theorem take_at {P : Program} {ops : Array Oper} {Q : Exit → Act → World → Prop} {md : Region.Mode} {S : World → Prop} {fuel : Nat} {listed : Array Bool} {a : Act} {w : World} (i : Nat) (d : Tmp) (oi : Oper) {v : Value} (hi : ops[i]? = some oi) (hd : oi.dst = some d)
    (hs : Region.noSelect ops = true) (hf : Region.free md ops listed i = true) (hr : (Region.ready md ops listed).contains i = true)
    (hQ : ∀ c a w, Q (.panic c) (a.put oi.dst v) w → Q (.panic c) a w) (hy : YieldsIf P ops S oi v a) (hS : S w)
    (h : wpAnyH P md ops Q S fuel (listed.setIfInBounds i true) (a.put (some d) v) w) : wpAnyH P md ops Q S (fuel + 1) listed a w :=
  wpAnyH_take hi hs hf hr hQ hy hS (by rw [hd]; exact h)
set_option maxRecDepth 100000 in
set_option maxHeartbeats 20000000 in
theorem tells_walkZ {w : World} (A : Option Addr) (n c : Nat) (f : Nat → Int) (ln : n ≤ c) (lc : c ≤ 9223372036854775807) (ll : Lies w w.heap.size A n (fun k => .int .i64 (f k))) (a : Int) (m : Nat) (hm : (n ≤ 20 ∧ m = n) ∨ (20 < n ∧ m = 20)) (hz : m = 0) :
    Calls Try.prog 3 #[.slice A n c, .int .i64 a] w fun e w' => e = .returned (.bool true) ∧ Below w.heap.size w w' := by
  have HL := Lib.hid ll
  clear ll
  refine (callsIn_wide (n := 7)).1 ?_
  refine callsIn_of_wp_marks Try.func3 rfl trivial ?_ rfl
  simp only [Try.ntmps3, List.size_toArray, List.length_cons, List.length_nil, Nat.reduceAdd, Nat.reduceSub, Array.replicate_succ, Array.replicate_zero, List.push_toArray, List.append_toArray, List.nil_append, List.cons_append]
  have hm20 : m ≤ 20 := by omega
  have hmn : m ≤ n := by omega
  have HLm := Lib.hid (Lies.less HL.out hmn)
  have hmin : (if (20 : Int) < (n : Int) then (20 : Int) else (n : Int)) = (m : Int) := by split <;> omega
  have hmin' : (if 20 < n then (20 : Int) else (n : Int)) = (m : Int) := by split <;> omega
  have hmc : m ≤ c := by omega
  have HZ0 := Lib.hid hz
  clear hm hz
  · gi_wp2_with fail
    refine ⟨trivial, (callsIn_wide.2 (awake_any _)).mono ?_⟩
    rintro e w1 ⟨rfl, hb1⟩
    have hB1 : Below w.heap.size w w1 := (((Below.refl _ w).alloc (Nat.le_refl _) _).alloc (by simp) _).trans (hb1.mono (by simp; omega))
    have r0 : Row w1 w.heap.size 3 #[.int .i64 a] := Row.below ((Row.made w _ _).alloc _) hb1 (by simp; omega)
    have r1 : Row w1 (w.heap.size + 1) 4 #[.bool false] := Row.below (by simpa using Row.made (w.alloc (.cells #[.int .i64 a] 3)) 4 #[.bool false]) hb1 (by simp)
    have z1 : w.heap.size + 2 ≤ w1.heap.size := by have := hb1.size; simpa using this
    have c0 : w1.cell? ⟨w.heap.size, 0, none⟩ = some (.int .i64 a) := (r0.cell 0).trans rfl
    have c1 : w1.cell? ⟨w.heap.size + 1, 0, none⟩ = some (.bool false) := (r1.cell 0).trans rfl
    have f1 : w1.frozen? ⟨w.heap.size + 1, 0, none⟩ = false := r1.free 0
    have HB1 := Lib.hid hB1
    have R0 := Lib.hid r0
    have R1 := Lib.hid r1
    clear hb1 hB1 r0 r1 c0
    gi_wp2_with fail
    refine ⟨trivial, (callsIn_wide.2 (of_any A m c f _ (by omega) (Lies.wide (HLm.out.below (HB1.out.alloc HB1.out.size _)) (by simp; omega)))).mono ?_⟩
    rintro e w2 ⟨⟨pc, rfl, hch⟩, hb2⟩
    gi_wp2_with fail
    refine ⟨trivial, (back_in Fence.wide 6 trivial rfl pc _).mono ?_⟩
    rintro e w3 ⟨rfl, rfl⟩
    gi_wp2
    have bk2 : Below w1.heap.size w1 w2 := ((Below.refl _ w1).alloc (Nat.le_refl _) _).trans (hb2.mono (by simp))
    have sx2 : Row w2 w1.heap.size 22 #[.slice A m c] := Row.below (Row.made w1 _ _) hb2 (by simp)
    have z2 : w1.heap.size + 1 ≤ w2.heap.size := by have := hb2.size; simpa using this
    have BK2 := Lib.hid bk2
    have SX2 := Lib.hid sx2
    have CH := Lib.hid hch
    clear bk2 sx2 hch hb2 c1
    have hI0 : Inv w2 (revN f m) a [] ((w2.alloc (.cells #[.int .i64 0] 3)).alloc (.cells #[.pointer pc] 24)) :=
      ⟨(Row.made w2 _ _).alloc _, ((Below.refl _ w2).alloc (Nat.le_refl _) _).alloc (by simp) _, ⟨_, rfl⟩, by simp; omega⟩
    have hbk : ((w2.alloc (.cells #[.int .i64 0] 3)).alloc (.cells #[.pointer pc] 24)).cell? ⟨w2.heap.size + 1, 0, none⟩ = some (.pointer pc) := by
      simp
    have hsz : ((w2.alloc (.cells #[.int .i64 0] 3)).alloc (.cells #[.pointer pc] 24)).heap.size = w2.heap.size + 2 := by simp
    have hw0 : Hid (((w2.alloc (.cells #[.int .i64 0] 3)).alloc (.cells #[.pointer pc] 24)).heap.size = w2.heap.size + 2) := hsz
    generalize (w2.alloc (.cells #[.int .i64 0] 3)).alloc (.cells #[.pointer pc] 24) = w0 at hI0 hbk hsz hw0 ⊢
    refine wpIn_rangeFunc_ownF rfl (by omega) (gf := 91) (lb := #[.pointer (some ⟨w2.heap.size + 1, 0, none⟩)]) rfl trivial (enters_of Try.func91 (by kernel_rfl) rfl)
      (back_stops Fence.wide 6 trivial trivial rfl (by omega) (w2.heap.size + 1) w2.heap.size pc (revN f m) w0 (by omega) (by omega) hbk (CH.out.below hI0.be (Nat.le_refl _))) belowK_t (belowK_b (by omega)) (Below.refl _ _) (fun _ => rfl)
      (Inv w2 (revN f m) a) (Left w2 (revN f m) a) (inv_own _ _ _ _ (by omega)) (fun c => left_own _ _ _ _ (by omega) c) hI0
      (fun x => { tmps := #[.slice A n c, .int .i64 a, undef, .pointer (some ⟨w.heap.size, 0, none⟩), .pointer (some ⟨w.heap.size + 1, 0, none⟩), .pointer (some ⟨w1.heap.size, 0, none⟩), .pointer pc, .pointer (some ⟨w2.heap.size, 0, none⟩), .int .i64 x,
        undef, undef, undef, undef, undef, .bool true, .bool false, .slice A n c, .slice A n c, .int .i64 n, .int .i64 m, .slice A m c, .slice A m c, .pointer pc, .pointer pc, .func (.func 91) #[] #[.pointer (some ⟨w2.heap.size + 1, 0, none⟩)], .int .i64 x,
        undef, undef, undef, undef, undef, undef, undef, undef, undef, undef, undef, undef, undef, undef, undef, undef, undef, undef, undef, undef, undef, undef, undef, undef, undef, undef, undef, undef, undef, undef, undef, undef, undef, undef, undef, undef, undef, undef, undef, undef, undef, undef, undef, undef, undef, undef, undef, undef, undef, undef, undef, undef, undef, undef, undef, undef, undef, undef, undef, undef, undef, undef, undef, undef, undef, undef, undef, undef, undef, undef, undef, undef, undef, undef, undef, undef, undef, undef, undef, undef, undef, undef, undef, undef, undef, undef, undef, undef, undef, undef, undef, undef, undef, undef, undef, undef], defers := [] }) ?assign ?body ?done ?stop
    case assign =>
      intro l x W K hK
      gi_wp2
      exact hK
    case body =>
      rintro l pre x W hI hlen
      have HI := Lib.hid hI
      rw [revN_len] at hlen
      have c1 : W.cell? ⟨w.heap.size, 0, none⟩ = some (.int .i64 a) := ((R0.out.below BK2.out (by omega)).below hI.be (by omega)).cell 0 |>.trans rfl
      have r2 : Row W (w.heap.size + 1) 4 #[.bool false] := (R1.out.below BK2.out (by omega)).below hI.be (by omega)
      have c2 : W.cell? ⟨w.heap.size + 1, 0, none⟩ = some (.bool false) := (r2.cell 0).trans rfl
      have f2 : W.frozen? ⟨w.heap.size + 1, 0, none⟩ = false := r2.free 0
      have c3 : W.cell? ⟨w1.heap.size, 0, none⟩ = some (.slice A m c) := ((SX2.out.below hI.be (by omega)).cell 0).trans rfl
      have c4 : W.cell? ⟨w2.heap.size, 0, none⟩ = some (.int .i64 pre.length) := (hI.bx.cell 0).trans rfl
      have f4 : W.frozen? ⟨w2.heap.size, 0, none⟩ = false := hI.bx.free 0
      obtain ⟨k, hk⟩ : ∃ k, m = pre.length + 1 + k := ⟨m - 1 - pre.length, by omega⟩
      obtain ⟨g, o, rfl, hg, hc⟩ := HLm.out k (by omega)
      have c5 : W.cell? ⟨g, o + k, none⟩ = some (.int .i64 (f k)) := (hI.be.cell (p := ⟨g, o + k, none⟩) (by simp; omega)).trans ((BK2.out.cell (p := ⟨g, o + k, none⟩) (by simp; omega)).trans ((HB1.out.cell (p := ⟨g, o + k, none⟩) (by simpa using hg)).trans hc))
      have R2 := Lib.hid r2
      have HK := Lib.hid hk
      have hidx : (m : Int) - 1 - (pre.length : Int) = k := by omega
      have hst := rev_step f m (x := x) hI.pr hlen
      have ek : m - 1 - pre.length = k := by omega
      rw [ek] at hst
      have HS := Lib.hid hst
      have hmod := Lib.hid (and31 a)
      clear hI r2 hk hst hc ek
      gi_wp2
      · rename_i hx
        exact ⟨KeepsOthers.setCell _ _ _, .inr (fun h => by
          have h2 := HS.out.1 h
          have h3 := HK.out
          rcases hx with hx | hx
          · omega
          · rw [h2] at hx
            simp at hx)⟩
      · rename_i hx hb
        have hb' : bits .and .i64 a 31 < (pre.length : Int) + 1 := hb
        rw [hmod.out] at hb'
        exact ⟨KeepsOthers.setCell _ _ _, .inl ⟨rfl, by simpa using Row.put HI.out.bx 0 (.int .i64 ((pre.length : Int) + 1)), HI.out.be.setCell (p := ⟨w2.heap.size, 0, none⟩) (Nat.le_refl _) _, by have := HI.out.le; simp; omega⟩⟩
      · rename_i hx hb
        have hb' : (pre.length : Int) + 1 ≤ bits .and .i64 a 31 := hb
        rw [hmod.out] at hb'
        exact ⟨KeepsOthers.setCell _ _ _, (Below.refl _ W).setCell (p := ⟨w2.heap.size, 0, none⟩) (Nat.le_refl _) _, by simpa using Row.put HI.out.bx 0 (.int .i64 ((pre.length : Int) + 1)), HI.out.be.setCell (p := ⟨w2.heap.size, 0, none⟩) (Nat.le_refl _) _, HS.out.2 (by
          have h2 := hx.2
          simp at h2
          exact h2.symm), by simp; omega⟩
    case done =>
      rintro D ys W hD rfl hI hK
      have hbq : Row W w2.heap.size 3 #[.int .i64 m] := by have := hI.bx; rwa [revN_len] at this
      have hle : (m : Int) ≤ a % 32 := by have := hI.le; rwa [revN_len] at this
      obtain ⟨r, hr⟩ : ∃ r : Nat, bits .and .i64 a 31 = (r : Int) := ⟨(a % 32).toNat, by rw [and31]; omega⟩
      have hr31 : r ≤ 31 := by have := and31 a; omega
      have hmr : m ≤ r := by have := and31 a; omega
      have hmr' : (m : Int) < (r : Int) + 1 := by omega
      have hwr : IntKind.i64.wrap ((r : Int) + 1) = (r : Int) + 1 := by rw [IntKind.wrap_i64]; omega
      have hsel : (r : Int) + 1 ≤ (m : Int) → (m : Int) = (r : Int) + 1 := by omega
      have hbe := hI.be
      clear hle hI
      have HBE := Lib.hid hbe
      have HKD := Lib.hid hK
      have HD := Lib.hid hD
      have rwn : Row W w.heap.size 3 #[.int .i64 a] := (R0.out.below BK2.out (by omega)).below hbe (by omega)
      have rwr : Row W (w.heap.size + 1) 4 #[.bool false] := (R1.out.below BK2.out (by omega)).below hbe (by omega)
      have rwx : Row W w1.heap.size 22 #[.slice A m c] := SX2.out.below hbe (by omega)
      have hWz : w2.heap.size < W.heap.size := World.block_lt_of_cell? W ⟨w2.heap.size, 0, none⟩ ((hbq.cell 0).trans rfl)
      have hlW : Lies W w2.heap.size A m (fun k => .int .i64 (f k)) := fun k hk => by
        obtain ⟨g, o, e, hg, hc⟩ := HLm.out k hk
        exact ⟨g, o, e, by omega, (hbe.cell (p := ⟨g, o + k, none⟩) (by simp; omega)).trans ((BK2.out.cell (p := ⟨g, o + k, none⟩) (by simp; omega)).trans ((HB1.out.cell (p := ⟨g, o + k, none⟩) (by simpa using hg)).trans hc))⟩
      have hcw0 : Ch W w2.heap.size pc (revN f m) := CH.out.below hbe (Nat.le_refl _)
      have hBW : Below w.heap.size w W := HB1.out.trans ((BK2.out.trans (hbe.mono (by omega))).mono (by omega))
      have HBW := Lib.hid hBW
      have RWN := Lib.hid rwn
      have RWR := Lib.hid rwr
      have RWX := Lib.hid rwx
      have RWQ := Lib.hid hbq
      have HLW := Lib.hid hlW
      have hF : ∀ k, Fence.wide.fn k := fun _ => trivial
      have hmo : Try.prog.follows .mixedOrders = true := by kernel_rfl
      clear hbe hbq hK hD rwn rwr rwx hlW hBW
      have hcw : pc = none := by rw [HZ0.out] at hcw0; exact hcw0
      subst hcw
      have hnp : ¬ 0 < m := by have := HZ0.out; omega
      have hidx : (m : Int) - 1 = -1 := by have := HZ0.out; omega
      clear hcw0
      gi_wp2_with (gi_at_call 18; (with_reducible refine (callsIn_wide.2 (newest_none _)).mono ?_); rintro e w' ⟨rfl, rfl⟩)
      have k1 : W.cell? ⟨w.heap.size, 0, none⟩ = some (.int .i64 a) := (RWN.out.cell 0).trans rfl
      have k2 : W.cell? ⟨w1.heap.size, 0, none⟩ = some (.slice A m c) := (RWX.out.cell 0).trans rfl
      have k3 : W.cell? ⟨w2.heap.size, 0, none⟩ = some (.int .i64 ((m : Nat) : Int)) := (RWQ.out.cell 0).trans rfl
      have hkeep : ∀ X, Below W.heap.size W X → X.cell? ⟨w.heap.size, 0, none⟩ = some (.int .i64 a) ∧ X.cell? ⟨w1.heap.size, 0, none⟩ = some (.slice A m c) ∧ X.cell? ⟨w2.heap.size, 0, none⟩ = some (.int .i64 ((m : Nat) : Int)) := fun X hX => ⟨(hX.cell (p := ⟨w.heap.size, 0, none⟩) RWN.out.lt).trans k1, (hX.cell (p := ⟨w1.heap.size, 0, none⟩) RWX.out.lt).trans k2, (hX.cell (p := ⟨w2.heap.size, 0, none⟩) hWz).trans k3⟩
      have hz12 : w.heap.size + 2 ≤ w1.heap.size := z1
      have hz22 : w1.heap.size + 1 ≤ w2.heap.size := z2
      have hstore : ∀ (X : World) (u : Value), (X.cell? ⟨w.heap.size, 0, none⟩ = some (.int .i64 a) ∧ X.cell? ⟨w1.heap.size, 0, none⟩ = some (.slice A m c) ∧ X.cell? ⟨w2.heap.size, 0, none⟩ = some (.int .i64 ((m : Nat) : Int))) → ((X.setCell ⟨w.heap.size + 1, 0, none⟩ u).cell? ⟨w.heap.size, 0, none⟩ = some (.int .i64 a) ∧ (X.setCell ⟨w.heap.size + 1, 0, none⟩ u).cell? ⟨w1.heap.size, 0, none⟩ = some (.slice A m c) ∧ (X.setCell ⟨w.heap.size + 1, 0, none⟩ u).cell? ⟨w2.heap.size, 0, none⟩ = some (.int .i64 ((m : Nat) : Int))) := fun X u ⟨q0, q1, q2⟩ => ⟨(World.cell?_setCell_other _ _ _ _ (by simp)).trans q0, (World.cell?_setCell_other _ _ _ _ (by first | (simp; done) | (simp; omega))).trans q1, (World.cell?_setCell_other _ _ _ _ (by first | (simp; done) | (simp; omega))).trans q2⟩
      have HKEEP := Lib.hid hkeep
      have HSTORE := Lib.hid hstore
      clear hkeep hstore hz12 hz22
      refine wpIn_wide.2 ?_
      try simp only [List.append_eq, List.cons_append, List.nil_append]
      refine wp_region_noPanic ?_
      refine wp_region_held_drew (S := (fun X => X.cell? ⟨w.heap.size, 0, none⟩ = some (.int .i64 a) ∧ X.cell? ⟨w1.heap.size, 0, none⟩ = some (.slice A m c) ∧ X.cell? ⟨w2.heap.size, 0, none⟩ = some (.int .i64 ((m : Nat) : Int)))) (by kernel_rfl) ?_ (fun hHeld => ?_)
      · exact ⟨k1, k2, k3⟩
      refine wpAnyH_ready (rs := [0]) (by kernel_rfl) (by simp) ?_
      refine AllReadyH.cons rfl (fun K hK => ?_) AllReadyH.nil
      go_simp
      go_at_call 15
      refine (awake_any _).mono ?_
      rintro e w3 ⟨rfl, hb3⟩
      have h3 : Below W.heap.size W w3 := below_of_drew hb3
      have HB3 := Lib.hid h3
      have hz3 : W.heap.size ≤ w3.heap.size := h3.size
      clear hb3 h3
      try go_wp2_with fail
      refine hK.out _ _ ?_ (fun hHeld => ?_)
      · exact HKEEP.out _ HB3.out
      clear hK K
      try simp only [Act.put, List.setIfInBounds_toArray, List.set_cons_zero, List.set_cons_succ]
      refine take_at 1 59 _ (v := ?vz1) rfl rfl (by kernel_rfl) (by kernel_rfl) (by kernel_rfl) (fun _ _ _ h => h) (Or.inl ⟨by rfl, ?hyz1⟩) (by assumption) ?restz1
      case hyz1 =>
        intro wX hSw
        try dsimp only at hSw
        go_simp
        first
        | done
        | (with_reducible rfl)
      try simp only [Act.put, List.setIfInBounds_toArray, List.set_cons_zero, List.set_cons_succ]
      refine take_at 2 60 _ (v := ?vz2) rfl rfl (by kernel_rfl) (by kernel_rfl) (by kernel_rfl) (fun _ _ _ h => h) (Or.inl ⟨by rfl, ?hyz2⟩) (by assumption) ?restz2
      case hyz2 =>
        intro wX hSw
        try dsimp only at hSw
        go_simp
        first
        | done
        | (with_reducible rfl)
      try simp only [Act.put, List.setIfInBounds_toArray, List.set_cons_zero, List.set_cons_succ]
      refine take_at 3 61 _ (v := ?vz3) rfl rfl (by kernel_rfl) (by kernel_rfl) (by kernel_rfl) (fun _ _ _ h => h) (Or.inl ⟨by rfl, ?hyz3⟩) (by assumption) ?restz3
      case hyz3 =>
        intro wX hSw
        try dsimp only at hSw
        go_simp
        first
        | done
        | (with_reducible rfl)
      try simp only [Act.put, List.setIfInBounds_toArray, List.set_cons_zero, List.set_cons_succ]
      refine take_at 4 62 _ (v := ?vz4) rfl rfl (by kernel_rfl) (by kernel_rfl) (by kernel_rfl) (fun _ _ _ h => h) (Or.inl ⟨by rfl, ?hyz4⟩) (by assumption) ?restz4
      case hyz4 =>
        intro wX hSw
        try dsimp only at hSw
        go_simp
        first
        | done
        | (with_reducible rfl)
      try simp only [Act.put, List.setIfInBounds_toArray, List.set_cons_zero, List.set_cons_succ]
      refine take_at 5 63 _ (v := ?vz5) rfl rfl (by kernel_rfl) (by kernel_rfl) (by kernel_rfl) (fun _ _ _ h => h) (Or.inl ⟨by rfl, ?hyz5⟩) (by assumption) ?restz5
      case hyz5 =>
        intro wX hSw
        try dsimp only at hSw
        go_simp
        first
        | done
        | (with_reducible rfl)
      try simp only [Act.put, List.setIfInBounds_toArray, List.set_cons_zero, List.set_cons_succ]
      refine take_at 6 64 _ (v := ?vz6) rfl rfl (by kernel_rfl) (by kernel_rfl) (by kernel_rfl) (fun _ _ _ h => h) (Or.inl ⟨by rfl, ?hyz6⟩) (by assumption) ?restz6
      case hyz6 =>
        intro wX hSw
        try dsimp only at hSw
        go_simp
        first
        | done
        | (with_reducible rfl)
      try simp only [Act.put, List.setIfInBounds_toArray, List.set_cons_zero, List.set_cons_succ]
      refine take_at 7 65 _ (v := ?vz7) rfl rfl (by kernel_rfl) (by kernel_rfl) (by kernel_rfl) (fun _ _ _ h => h) (Or.inl ⟨by rfl, ?hyz7⟩) (by assumption) ?restz7
      case hyz7 =>
        intro wX hSw
        try dsimp only at hSw
        go_simp
        first
        | done
        | (with_reducible rfl)
      try simp only [Act.put, List.setIfInBounds_toArray, List.set_cons_zero, List.set_cons_succ]
      refine take_at 8 66 _ (v := ?vz8) rfl rfl (by kernel_rfl) (by kernel_rfl) (by kernel_rfl) (fun _ _ _ h => h) (Or.inl ⟨by rfl, ?hyz8⟩) (by assumption) ?restz8
      case hyz8 =>
        intro wX hSw
        try dsimp only at hSw
        go_simp
        first
        | done
        | (with_reducible rfl)
      try simp only [Act.put, List.setIfInBounds_toArray, List.set_cons_zero, List.set_cons_succ]
      refine take_at 9 67 _ (v := ?vz9) rfl rfl (by kernel_rfl) (by kernel_rfl) (by kernel_rfl) (fun _ _ _ h => h) (Or.inl ⟨by rfl, ?hyz9⟩) (by assumption) ?restz9
      case hyz9 =>
        intro wX hSw
        try dsimp only at hSw
        go_simp
        first
        | done
        | (with_reducible rfl)
      try simp only [Act.put, List.setIfInBounds_toArray, List.set_cons_zero, List.set_cons_succ]
      refine take_at 10 68 _ (v := ?vz10) rfl rfl (by kernel_rfl) (by kernel_rfl) (by kernel_rfl) (fun _ _ _ h => h) (Or.inl ⟨by rfl, ?hyz10⟩) (by assumption) ?restz10
      case hyz10 =>
        intro wX hSw
        try dsimp only at hSw
        go_simp
        first
        | done
        | (with_reducible rfl)
      try simp only [Act.put, List.setIfInBounds_toArray, List.set_cons_zero, List.set_cons_succ]
      refine take_at 11 69 _ (v := ?vz11) rfl rfl (by kernel_rfl) (by kernel_rfl) (by kernel_rfl) (fun _ _ _ h => h) (Or.inl ⟨by rfl, ?hyz11⟩) (by assumption) ?restz11
      case hyz11 =>
        intro wX hSw
        try dsimp only at hSw
        go_simp
        first
        | done
        | (with_reducible rfl)
      try simp only [Act.put, List.setIfInBounds_toArray, List.set_cons_zero, List.set_cons_succ]
      refine take_at 12 70 _ (v := ?vz12) rfl rfl (by kernel_rfl) (by kernel_rfl) (by kernel_rfl) (fun _ _ _ h => h) (Or.inl ⟨by rfl, ?hyz12⟩) (by assumption) ?restz12
      case hyz12 =>
        intro wX hSw
        try dsimp only at hSw
        go_simp
        first
        | done
        | (with_reducible rfl)
      try simp only [Act.put, List.setIfInBounds_toArray, List.set_cons_zero, List.set_cons_succ]
      refine take_at 13 71 _ (v := ?vz13) rfl rfl (by kernel_rfl) (by kernel_rfl) (by kernel_rfl) (fun _ _ _ h => h) (Or.inl ⟨by rfl, ?hyz13⟩) (by assumption) ?restz13
      case hyz13 =>
        intro wX hSw
        try dsimp only at hSw
        go_simp
        first
        | done
        | (with_reducible rfl)
      try simp only [Act.put, List.setIfInBounds_toArray, List.set_cons_zero, List.set_cons_succ]
      refine take_at 14 72 _ (v := ?vz14) rfl rfl (by kernel_rfl) (by kernel_rfl) (by kernel_rfl) (fun _ _ _ h => h) (Or.inl ⟨by rfl, ?hyz14⟩) (by assumption) ?restz14
      case hyz14 =>
        intro wX hSw
        try dsimp only at hSw
        go_simp
        first
        | done
        | (with_reducible rfl)
      try simp only [Act.put, List.setIfInBounds_toArray, List.set_cons_zero, List.set_cons_succ]
      refine take_at 15 73 _ (v := ?vz15) rfl rfl (by kernel_rfl) (by kernel_rfl) (by kernel_rfl) (fun _ _ _ h => h) (Or.inl ⟨by rfl, ?hyz15⟩) (by assumption) ?restz15
      case hyz15 =>
        intro wX hSw
        try dsimp only at hSw
        go_simp
        first
        | done
        | (with_reducible rfl)
      try simp only [Act.put, List.setIfInBounds_toArray, List.set_cons_zero, List.set_cons_succ]
      refine take_at 16 74 _ (v := ?vz16) rfl rfl (by kernel_rfl) (by kernel_rfl) (by kernel_rfl) (fun _ _ _ h => h) (Or.inl ⟨by rfl, ?hyz16⟩) (by assumption) ?restz16
      case hyz16 =>
        intro wX hSw
        try dsimp only at hSw
        go_simp
        first
        | done
        | (with_reducible rfl)
      try simp only [Act.put, List.setIfInBounds_toArray, List.set_cons_zero, List.set_cons_succ]
      refine take_at 17 75 _ (v := ?vz17) rfl rfl (by kernel_rfl) (by kernel_rfl) (by kernel_rfl) (fun _ _ _ h => h) (Or.inl ⟨by rfl, ?hyz17⟩) (by assumption) ?restz17
      case hyz17 =>
        intro wX hSw
        try dsimp only at hSw
        go_simp
        first
        | done
        | (with_reducible rfl)
      try simp only [Act.put, List.setIfInBounds_toArray, List.set_cons_zero, List.set_cons_succ]
      refine take_at 18 76 _ (v := ?vz18) rfl rfl (by kernel_rfl) (by kernel_rfl) (by kernel_rfl) (fun _ _ _ h => h) (Or.inl ⟨by rfl, ?hyz18⟩) (by assumption) ?restz18
      case hyz18 =>
        intro wX hSw
        try dsimp only at hSw
        go_simp
        first
        | done
        | (with_reducible rfl)
      try simp only [Act.put, List.setIfInBounds_toArray, List.set_cons_zero, List.set_cons_succ]
      refine take_at 19 77 _ (v := ?vz19) rfl rfl (by kernel_rfl) (by kernel_rfl) (by kernel_rfl) (fun _ _ _ h => h) (Or.inl ⟨by rfl, ?hyz19⟩) (by assumption) ?restz19
      case hyz19 =>
        intro wX hSw
        try dsimp only at hSw
        go_simp
        first
        | done
        | (with_reducible rfl)
      try simp only [Act.put, List.setIfInBounds_toArray, List.set_cons_zero, List.set_cons_succ]
      refine take_at 20 78 _ (v := ?vz20) rfl rfl (by kernel_rfl) (by kernel_rfl) (by kernel_rfl) (fun _ _ _ h => h) (Or.inl ⟨by rfl, ?hyz20⟩) (by assumption) ?restz20
      case hyz20 =>
        intro wX hSw
        try dsimp only at hSw
        go_simp
        first
        | done
        | (with_reducible rfl)
      try simp only [Act.put, List.setIfInBounds_toArray, List.set_cons_zero, List.set_cons_succ]
      refine take_at 21 79 _ (v := ?vz21) rfl rfl (by kernel_rfl) (by kernel_rfl) (by kernel_rfl) (fun _ _ _ h => h) (Or.inl ⟨by rfl, ?hyz21⟩) (by assumption) ?restz21
      case hyz21 =>
        intro wX hSw
        try dsimp only at hSw
        go_simp
        first
        | done
        | (with_reducible rfl)
      try simp only [Act.put, List.setIfInBounds_toArray, List.set_cons_zero, List.set_cons_succ]
      refine take_at 22 80 _ (v := undef) rfl rfl (by kernel_rfl) (by kernel_rfl) (by kernel_rfl) (fun _ _ _ h => h) (Or.inr ⟨by rfl, rfl⟩) (by assumption) ?_
      try simp only [Act.put, List.setIfInBounds_toArray, List.set_cons_zero, List.set_cons_succ]
      refine take_at 23 81 _ (v := undef) rfl rfl (by kernel_rfl) (by kernel_rfl) (by kernel_rfl) (fun _ _ _ h => h) (Or.inr ⟨by rfl, rfl⟩) (by assumption) ?_
      try simp only [Act.put, List.setIfInBounds_toArray, List.set_cons_zero, List.set_cons_succ]
      refine take_at 24 82 _ (v := undef) rfl rfl (by kernel_rfl) (by kernel_rfl) (by kernel_rfl) (fun _ _ _ h => h) (Or.inr ⟨by rfl, rfl⟩) (by assumption) ?_
      try simp only [Act.put, List.setIfInBounds_toArray, List.set_cons_zero, List.set_cons_succ]
      refine take_at 25 83 _ (v := undef) rfl rfl (by kernel_rfl) (by kernel_rfl) (by kernel_rfl) (fun _ _ _ h => h) (Or.inr ⟨by rfl, rfl⟩) (by assumption) ?_
      try simp only [Act.put, List.setIfInBounds_toArray, List.set_cons_zero, List.set_cons_succ]
      refine take_at 26 84 _ (v := undef) rfl rfl (by kernel_rfl) (by kernel_rfl) (by kernel_rfl) (fun _ _ _ h => h) (Or.inr ⟨by rfl, rfl⟩) (by assumption) ?_
      try simp only [Act.put, List.setIfInBounds_toArray, List.set_cons_zero, List.set_cons_succ]
      refine take_at 27 85 _ (v := undef) rfl rfl (by kernel_rfl) (by kernel_rfl) (by kernel_rfl) (fun _ _ _ h => h) (Or.inr ⟨by rfl, rfl⟩) (by assumption) ?_
      try simp only [Act.put, List.setIfInBounds_toArray, List.set_cons_zero, List.set_cons_succ]
      refine take_at 28 86 _ (v := undef) rfl rfl (by kernel_rfl) (by kernel_rfl) (by kernel_rfl) (fun _ _ _ h => h) (Or.inr ⟨by rfl, rfl⟩) (by assumption) ?_
      try simp only [Act.put, List.setIfInBounds_toArray, List.set_cons_zero, List.set_cons_succ]
      refine take_at 29 87 _ (v := undef) rfl rfl (by kernel_rfl) (by kernel_rfl) (by kernel_rfl) (fun _ _ _ h => h) (Or.inr ⟨by rfl, rfl⟩) (by assumption) ?_
      try simp only [Act.put, List.setIfInBounds_toArray, List.set_cons_zero, List.set_cons_succ]
      refine take_at 30 88 _ (v := ?vz30) rfl rfl (by kernel_rfl) (by kernel_rfl) (by kernel_rfl) (fun _ _ _ h => h) (Or.inl ⟨by rfl, ?hyz30⟩) (by assumption) ?restz30
      case hyz30 =>
        intro wX hSw
        try dsimp only at hSw
        go_simp
        first
        | done
        | (with_reducible rfl)
      try simp only [Act.put, List.setIfInBounds_toArray, List.set_cons_zero, List.set_cons_succ]
      refine take_at 31 89 _ (v := ?vz31) rfl rfl (by kernel_rfl) (by kernel_rfl) (by kernel_rfl) (fun _ _ _ h => h) (Or.inl ⟨by rfl, ?hyz31⟩) (by assumption) ?restz31
      case hyz31 =>
        intro wX hSw
        try dsimp only at hSw
        go_simp
        first
        | done
        | (with_reducible rfl)
      try simp only [Act.put, List.setIfInBounds_toArray, List.set_cons_zero, List.set_cons_succ]
      refine take_at 32 90 _ (v := ?vz32) rfl rfl (by kernel_rfl) (by kernel_rfl) (by kernel_rfl) (fun _ _ _ h => h) (Or.inl ⟨by rfl, ?hyz32⟩) (by assumption) ?restz32
      case hyz32 =>
        intro wX hSw
        try dsimp only at hSw
        go_simp
        first
        | done
        | (with_reducible rfl)
      try simp only [Act.put, List.setIfInBounds_toArray, List.set_cons_zero, List.set_cons_succ]
      refine take_at 33 91 _ (v := ?vz33) rfl rfl (by kernel_rfl) (by kernel_rfl) (by kernel_rfl) (fun _ _ _ h => h) (Or.inl ⟨by rfl, ?hyz33⟩) (by assumption) ?restz33
      case hyz33 =>
        intro wX hSw
        try dsimp only at hSw
        go_simp
        first
        | done
        | (with_reducible rfl)
      try simp only [Act.put, List.setIfInBounds_toArray, List.set_cons_zero, List.set_cons_succ]
      refine take_at 36 94 _ (v := ?vz36) rfl rfl (by kernel_rfl) (by kernel_rfl) (by kernel_rfl) (fun _ _ _ h => h) (Or.inl ⟨by rfl, ?hyz36⟩) (by assumption) ?restz36
      case hyz36 =>
        intro wX hSw
        try dsimp only at hSw
        go_simp
        first
        | done
        | (with_reducible rfl)
      try simp only [Act.put, List.setIfInBounds_toArray, List.set_cons_zero, List.set_cons_succ]
      refine take_at 37 95 _ (v := ?vz37) rfl rfl (by kernel_rfl) (by kernel_rfl) (by kernel_rfl) (fun _ _ _ h => h) (Or.inl ⟨by rfl, ?hyz37⟩) (by assumption) ?restz37
      case hyz37 =>
        intro wX hSw
        try dsimp only at hSw
        go_simp
        first
        | done
        | (with_reducible rfl)
      try simp only [Act.put, List.setIfInBounds_toArray, List.set_cons_zero, List.set_cons_succ]
      refine take_at 38 96 _ (v := ?vz38) rfl rfl (by kernel_rfl) (by kernel_rfl) (by kernel_rfl) (fun _ _ _ h => h) (Or.inl ⟨by rfl, ?hyz38⟩) (by assumption) ?restz38
      case hyz38 =>
        intro wX hSw
        try dsimp only at hSw
        go_simp
        first
        | done
        | (with_reducible rfl)
      try simp only [Act.put, List.setIfInBounds_toArray, List.set_cons_zero, List.set_cons_succ]
      refine take_at 39 97 _ (v := .int .i64 (-1)) rfl rfl (by kernel_rfl) (by kernel_rfl) (by kernel_rfl) (fun _ _ _ h => h) (Or.inl ⟨by rfl, ?hyz39⟩) (by assumption) ?restz39
      case hyz39 =>
        intro wX hSw
        try dsimp only at hSw
        go_simp
        first | done | (with_reducible rfl) | rfl | (simp; done) | (split <;> first | rfl | omega)
      try simp only [Act.put, List.setIfInBounds_toArray, List.set_cons_zero, List.set_cons_succ]
      refine take_at 40 98 _ (v := .int .i64 0) rfl rfl (by kernel_rfl) (by kernel_rfl) (by kernel_rfl) (fun _ _ _ h => h) (Or.inl ⟨by rfl, ?hyz40⟩) (by assumption) ?restz40
      case hyz40 =>
        intro wX hSw
        try dsimp only at hSw
        go_simp
        first | done | (with_reducible rfl) | rfl | (simp; done) | (split <;> first | rfl | omega)
      try simp only [Act.put, List.setIfInBounds_toArray, List.set_cons_zero, List.set_cons_succ]
      refine take_at 41 99 _ (v := .slice A 0 c) rfl rfl (by kernel_rfl) (by kernel_rfl) (by kernel_rfl) (fun _ _ _ h => h) (Or.inl ⟨by rfl, ?hyz41⟩) (by assumption) ?restz41
      case hyz41 =>
        intro wX hSw
        try dsimp only at hSw
        go_simp
        first | done | (with_reducible rfl) | rfl | (simp; done) | (split <;> first | rfl | omega)
      try simp only [Act.put, List.setIfInBounds_toArray, List.set_cons_zero, List.set_cons_succ]
      refine wpAnyH_ready (rs := [34]) (by kernel_rfl) (by simp) ?_
      refine AllReadyH.cons rfl (fun K hK => ?_) AllReadyH.nil
      go_simp
      go_at_call 20
      refine (rest_none _).mono ?_
      rintro e w' ⟨rfl, rfl⟩
      try go_wp2_with fail
      refine hK.out _ _ ?_ (fun hHeld => ?_)
      · exact HKEEP.out _ HB3.out
      clear hK K
      try simp only [Act.put, List.setIfInBounds_toArray, List.set_cons_zero, List.set_cons_succ]
      refine wpAnyH_ready (rs := [35]) (by kernel_rfl) (by simp) ?_
      refine AllReadyH.cons rfl (fun K hK => ?_) AllReadyH.nil
      go_simp
      go_at_call 21
      refine (list_none f _).mono ?_
      rintro e w4 ⟨A4, c4, rfl, b4⟩
      have h4 : Below W.heap.size W w4 := HB3.out.trans (b4.mono hz3)
      have HB4 := Lib.hid h4
      have hz4 : W.heap.size ≤ w4.heap.size := h4.size
      clear b4 h4
      try go_wp2_with fail
      refine hK.out _ _ ?_ (fun hHeld => ?_)
      · exact HKEEP.out _ HB4.out
      clear hK K
      try simp only [Act.put, List.setIfInBounds_toArray, List.set_cons_zero, List.set_cons_succ]
      refine wpAnyH_ready (rs := [42]) (by kernel_rfl) (by simp) ?_
      refine AllReadyH.cons rfl (fun K hK => ?_) AllReadyH.nil
      go_simp
      go_at_call 19
      refine (same_yes A4 A 0 c4 c 0 0 f f w4 (by omega) (fun k hk => by omega) (fun k hk => by omega) (fun _ _ => rfl)).mono ?_
      rintro e w' ⟨rfl, dd, rfl⟩
      have HBD : Hid (Below W.heap.size W (w4.drewN dd)) := below_drewN HB4.out dd
      try go_wp2_with fail
      refine hK.out _ _ ?_ (fun hHeld => ?_)
      · exact HKEEP.out _ HBD.out
      clear hK K
      try simp only [Act.put, List.setIfInBounds_toArray, List.set_cons_zero, List.set_cons_succ]
      refine take_at 43 101 _ (v := ?vz43) rfl rfl (by kernel_rfl) (by kernel_rfl) (by kernel_rfl) (fun _ _ _ h => h) (Or.inl ⟨by rfl, ?hyz43⟩) (by assumption) ?restz43
      case hyz43 =>
        intro wX hSw
        try dsimp only at hSw
        go_simp
        first
        | done
        | (with_reducible rfl)
      try simp only [Act.put, List.setIfInBounds_toArray, List.set_cons_zero, List.set_cons_succ]
      refine take_at 44 102 _ (v := ?vz44) rfl rfl (by kernel_rfl) (by kernel_rfl) (by kernel_rfl) (fun _ _ _ h => h) (Or.inl ⟨by rfl, ?hyz44⟩) (by assumption) ?restz44
      case hyz44 =>
        intro wX hSw
        try dsimp only at hSw
        go_simp
        first
        | done
        | (with_reducible rfl)
      try simp only [Act.put, List.setIfInBounds_toArray, List.set_cons_zero, List.set_cons_succ]
      refine take_at 45 103 _ (v := ?vz45) rfl rfl (by kernel_rfl) (by kernel_rfl) (by kernel_rfl) (fun _ _ _ h => h) (Or.inl ⟨by rfl, ?hyz45⟩) (by assumption) ?restz45
      case hyz45 =>
        intro wX hSw
        try dsimp only at hSw
        go_simp
        first
        | done
        | (with_reducible rfl)
      try simp only [Act.put, List.setIfInBounds_toArray, List.set_cons_zero, List.set_cons_succ]
      refine take_at 46 104 _ (v := ?vz46) rfl rfl (by kernel_rfl) (by kernel_rfl) (by kernel_rfl) (fun _ _ _ h => h) (Or.inl ⟨by rfl, ?hyz46⟩) (by assumption) ?restz46
      case hyz46 =>
        intro wX hSw
        try dsimp only at hSw
        go_simp
        first
        | done
        | (with_reducible rfl)
      try simp only [Act.put, List.setIfInBounds_toArray, List.set_cons_zero, List.set_cons_succ]
      refine take_at 47 105 _ (v := ?vz47) rfl rfl (by kernel_rfl) (by kernel_rfl) (by kernel_rfl) (fun _ _ _ h => h) (Or.inl ⟨by rfl, ?hyz47⟩) (by assumption) ?restz47
      case hyz47 =>
        intro wX hSw
        try dsimp only at hSw
        go_simp
        first
        | done
        | (with_reducible rfl)
      try simp only [Act.put, List.setIfInBounds_toArray, List.set_cons_zero, List.set_cons_succ]
      refine take_at 48 106 _ (v := ?vz48) rfl rfl (by kernel_rfl) (by kernel_rfl) (by kernel_rfl) (fun _ _ _ h => h) (Or.inl ⟨by rfl, ?hyz48⟩) (by assumption) ?restz48
      case hyz48 =>
        intro wX hSw
        try dsimp only at hSw
        go_simp
        first
        | done
        | (with_reducible rfl)
      try simp only [Act.put, List.setIfInBounds_toArray, List.set_cons_zero, List.set_cons_succ]
      refine take_at 49 107 _ (v := ?vz49) rfl rfl (by kernel_rfl) (by kernel_rfl) (by kernel_rfl) (fun _ _ _ h => h) (Or.inl ⟨by rfl, ?hyz49⟩) (by assumption) ?restz49
      case hyz49 =>
        intro wX hSw
        try dsimp only at hSw
        go_simp
        first
        | done
        | (with_reducible rfl)
      try simp only [Act.put, List.setIfInBounds_toArray, List.set_cons_zero, List.set_cons_succ]
      refine wpAnyH_ready (rs := [50]) (by kernel_rfl) (by simp) ?_
      refine AllReadyH.cons rfl (fun K hK => ?_) AllReadyH.nil
      go_simp
      go_at_call 20
      refine (rest_none _).mono ?_
      rintro e w' ⟨rfl, rfl⟩
      try go_wp2_with fail
      refine hK.out _ _ ?_ (fun hHeld => ?_)
      · exact HKEEP.out _ HBD.out
      clear hK K
      try simp only [Act.put, List.setIfInBounds_toArray, List.set_cons_zero, List.set_cons_succ]
      refine take_at 51 109 _ (v := ?vz51) rfl rfl (by kernel_rfl) (by kernel_rfl) (by kernel_rfl) (fun _ _ _ h => h) (Or.inl ⟨by rfl, ?hyz51⟩) (by assumption) ?restz51
      case hyz51 =>
        intro wX hSw
        try dsimp only at hSw
        go_simp
        first
        | done
        | (with_reducible rfl)
      try simp only [Act.put, List.setIfInBounds_toArray, List.set_cons_zero, List.set_cons_succ]
      refine take_at 52 110 _ (v := ?vz52) rfl rfl (by kernel_rfl) (by kernel_rfl) (by kernel_rfl) (fun _ _ _ h => h) (Or.inl ⟨by rfl, ?hyz52⟩) (by assumption) ?restz52
      case hyz52 =>
        intro wX hSw
        try dsimp only at hSw
        go_simp
        first
        | done
        | (with_reducible rfl)
      try simp only [Act.put, List.setIfInBounds_toArray, List.set_cons_zero, List.set_cons_succ]
      refine take_at 53 111 _ (v := ?vz53) rfl rfl (by kernel_rfl) (by kernel_rfl) (by kernel_rfl) (fun _ _ _ h => h) (Or.inl ⟨by rfl, ?hyz53⟩) (by assumption) ?restz53
      case hyz53 =>
        intro wX hSw
        try dsimp only at hSw
        go_simp
        first
        | done
        | (with_reducible rfl)
      try simp only [Act.put, List.setIfInBounds_toArray, List.set_cons_zero, List.set_cons_succ]
      refine take_at 54 112 _ (v := ?vz54) rfl rfl (by kernel_rfl) (by kernel_rfl) (by kernel_rfl) (fun _ _ _ h => h) (Or.inl ⟨by rfl, ?hyz54⟩) (by assumption) ?restz54
      case hyz54 =>
        intro wX hSw
        try dsimp only at hSw
        go_simp
        first
        | done
        | (with_reducible rfl)
      try simp only [Act.put, List.setIfInBounds_toArray, List.set_cons_zero, List.set_cons_succ]
      refine wpAnyH_ready (rs := [55]) (by kernel_rfl) (by simp) ?_
      refine AllReadyH.cons rfl (fun K hK => ?_) AllReadyH.nil
      go_simp
      go_at_call 22
      refine (len_none _).mono ?_
      rintro e w' ⟨rfl, rfl⟩
      try go_wp2_with fail
      refine hK.out _ _ ?_ (fun hHeld => ?_)
      · exact HKEEP.out _ HBD.out
      clear hK K
      try simp only [Act.put, List.setIfInBounds_toArray, List.set_cons_zero, List.set_cons_succ]
      refine take_at 56 114 _ (v := ?vz56) rfl rfl (by kernel_rfl) (by kernel_rfl) (by kernel_rfl) (fun _ _ _ h => h) (Or.inl ⟨by rfl, ?hyz56⟩) (by assumption) ?restz56
      case hyz56 =>
        intro wX hSw
        try dsimp only at hSw
        go_simp
        first
        | done
        | (with_reducible rfl)
      try simp only [Act.put, List.setIfInBounds_toArray, List.set_cons_zero, List.set_cons_succ]
      refine take_at 57 115 _ (v := ?vz57) rfl rfl (by kernel_rfl) (by kernel_rfl) (by kernel_rfl) (fun _ _ _ h => h) (Or.inl ⟨by rfl, ?hyz57⟩) (by assumption) ?restz57
      case hyz57 =>
        intro wX hSw
        try dsimp only at hSw
        go_simp
        first
        | done
        | (with_reducible rfl)
      try simp only [Act.put, List.setIfInBounds_toArray, List.set_cons_zero, List.set_cons_succ]
      refine take_at 58 116 _ (v := ?vz58) rfl rfl (by kernel_rfl) (by kernel_rfl) (by kernel_rfl) (fun _ _ _ h => h) (Or.inl ⟨by rfl, ?hyz58⟩) (by assumption) ?restz58
      case hyz58 =>
        intro wX hSw
        try dsimp only at hSw
        go_simp
        first
        | done
        | (with_reducible rfl)
      try simp only [Act.put, List.setIfInBounds_toArray, List.set_cons_zero, List.set_cons_succ]
      refine take_at 59 117 _ (v := ?vz59) rfl rfl (by kernel_rfl) (by kernel_rfl) (by kernel_rfl) (fun _ _ _ h => h) (Or.inl ⟨by rfl, ?hyz59⟩) (by assumption) ?restz59
      case hyz59 =>
        intro wX hSw
        try dsimp only at hSw
        go_simp
        first
        | done
        | (with_reducible rfl)
      try simp only [Act.put, List.setIfInBounds_toArray, List.set_cons_zero, List.set_cons_succ]
      refine wpAnyH_ready (rs := [60]) (by kernel_rfl) (by simp) ?_
      refine AllReadyH.cons rfl (fun K hK => ?_) AllReadyH.nil
      go_simp
      go_at_call 21
      refine (list_none f _).mono ?_
      rintro e w6 ⟨A6, c6, rfl, b6⟩
      have h6 : Below W.heap.size W w6 := HB4.out.trans (Below.mono (below_of_drewN b6) hz4)
      have HB6 := Lib.hid h6
      have e6 : w6.cell? ⟨w.heap.size + 1, 0, none⟩ = some (.bool false) := (Row.below RWR.out h6 (by omega)).cell 0 |>.trans rfl
      have f6 : w6.frozen? ⟨w.heap.size + 1, 0, none⟩ = false := (Row.below RWR.out h6 (by omega)).free 0
      clear h6 b6
      try go_wp2_with fail
      refine hK.out _ _ ?_ (fun hHeld => ?_)
      · exact HKEEP.out _ HB6.out
      clear hK K
      try simp only [Act.put, List.setIfInBounds_toArray, List.set_cons_zero, List.set_cons_succ]
      refine take_at 61 119 _ (v := ?vz61) rfl rfl (by kernel_rfl) (by kernel_rfl) (by kernel_rfl) (fun _ _ _ h => h) (Or.inl ⟨by rfl, ?hyz61⟩) (by assumption) ?restz61
      case hyz61 =>
        intro wX hSw
        try dsimp only at hSw
        go_simp
        first
        | done
        | (with_reducible rfl)
      try simp only [Act.put, List.setIfInBounds_toArray, List.set_cons_zero, List.set_cons_succ]
      refine take_at 62 120 _ (v := ?vz62) rfl rfl (by kernel_rfl) (by kernel_rfl) (by kernel_rfl) (fun _ _ _ h => h) (Or.inl ⟨by rfl, ?hyz62⟩) (by assumption) ?restz62
      case hyz62 =>
        intro wX hSw
        try dsimp only at hSw
        go_simp
        first
        | done
        | (with_reducible rfl)
      try simp only [Act.put, List.setIfInBounds_toArray, List.set_cons_zero, List.set_cons_succ]
      refine take_at 63 121 _ (v := ?vz63) rfl rfl (by kernel_rfl) (by kernel_rfl) (by kernel_rfl) (fun _ _ _ h => h) (Or.inl ⟨by rfl, ?hyz63⟩) (by assumption) ?restz63
      case hyz63 =>
        intro wX hSw
        try dsimp only at hSw
        go_simp
        first
        | done
        | (with_reducible rfl)
      try simp only [Act.put, List.setIfInBounds_toArray, List.set_cons_zero, List.set_cons_succ]
      refine wpAnyH_ready (rs := [64]) (by kernel_rfl) (by simp) ?_
      refine AllReadyH.cons rfl (fun K hK => ?_) AllReadyH.nil
      go_simp
      skip
      try go_wp2_with fail
      refine hK.out _ _ ?_ (fun hHeld => ?_)
      · exact HSTORE.out _ _ (HKEEP.out _ HB6.out)
      clear hK K
      try simp only [Act.put, List.setIfInBounds_toArray, List.set_cons_zero, List.set_cons_succ]
      refine wpAnyH_done (by kernel_rfl) ?_ _
      refine NoPanic.normal ?_
      all_goals (
        have hDW : D < W.heap.size := (Array.getElem?_eq_some_iff.1 HKD.out).1
        have hDw : w.heap.size ≤ D := by have h1 := HD.out; have h2 := hw0.out; omega
        have hK6 : w6.heap[D]? = some (.deferred (some [])) := (HB6.out.block D hDW).trans HKD.out
        have hK7 := (KeepsOthers.setCell w6 ⟨w.heap.size + 1, 0, none⟩ (.bool true)).same D _ hK6 rfl
        have hc7 := cell_kept (World.cell?_setCell_same' w6 ⟨w.heap.size + 1, 0, none⟩ (.bool true) (by rw [e6]; rfl)) (grownBy_putObj' _ D (.deferred none)) (fun r e => by cases e; exact ⟨_, hK7, rfl⟩)
        gi_wp2
        refine ⟨by simp, .inl ⟨_, _, rfl, run_takeDeferred hK7, ?_⟩⟩
        refine ⟨.bool true, ?_, rfl, ((HBW.out.trans (HB6.out.mono (by omega))).setCell (p := ⟨w.heap.size + 1, 0, none⟩) (by simp) _).trans (belowK_b (w := w) (Nat.le_refl _) _ D _ _ hDw hK7 rfl rfl)⟩
        simp [results, Try.f3, go_sem, hc7])
    case stop =>
      rintro D c' pre W hD hpre hL hK
      rcases hL with ⟨rfl, hO⟩ | hno
      · obtain ⟨r, hr⟩ : ∃ r : Nat, bits .and .i64 a 31 = (r : Int) := ⟨(a % 32).toNat, by rw [and31]; omega⟩
        have hr31 : r ≤ 31 := by have := and31 a; omega
        have hbq : Row W w2.heap.size 3 #[.int .i64 ((r : Int) + 1)] := by
          have h1 := hO.bx
          have h2 := hO.le
          rwa [show (pre.length : Int) = (r : Int) + 1 by have := and31 a; omega] at h1
        have hmr : r < m := by
          have h1 := hpre.length_le
          rw [revN_len] at h1
          have h2 := hO.le
          have := and31 a
          omega
        have hmr' : ¬ ((m : Int) < (r : Int) + 1) := by omega
        have hwr : IntKind.i64.wrap ((r : Int) + 1) = (r : Int) + 1 := by rw [IntKind.wrap_i64]; omega
        have hbe := hO.be
        exact absurd HZ0.out (by omega)
      · exact absurd hpre hno
end Go.Proofs.Ytpgacadnmekdhaa.PersT
