/- The walk of the law FifoTells. -/
import Derived.Test.YtenlnnhhmgjapaaFifoD
import Derived.Deep.RegionHeld3
namespace Go.Proofs.Ytenlnnhhmgjapaa.Fifo
open Go.RowKit Go.Proofs.Ytenlnnhhmgjapaa
set_option linter.unusedVariables false
attribute [local go_sem] Oper.semAt_some

set_option maxRecDepth 100000 in
set_option maxHeartbeats 20000000 in
theorem tells_law (A : Option Addr) (n c : Nat) (f : Nat → Int) (ln : n ≤ c) (lc : c ≤ 9223372036854775807) (lb : ∀ k, -9223372036854775808 ≤ f k ∧ f k ≤ 9223372036854775807) {w : World} (ll : Lies w w.heap.size A n (fun k => .int .i64 (f k)))
    (a : Int) (wa : (Lit.int .i64 a).wf = true) :
    Calls Try.prog 3 #[.slice A n c, .int .i64 a] w fun e w' => e = .returned (.bool true) ∧ Below w.heap.size w w' := by
  have HL := Lib.hid ll
  clear ll lb wa
  refine (callsIn_wide (n := 7)).1 ?_
  refine callsIn_of_wp_marks Try.func3 rfl trivial ?_ rfl
  simp only [Try.ntmps3, List.size_toArray, List.length_cons, List.length_nil, Nat.reduceAdd, Nat.reduceSub, Array.replicate_succ, Array.replicate_zero, List.push_toArray, List.append_toArray, List.nil_append, List.cons_append]
  have hF : ∀ k, Fence.wide.fn k := fun _ => trivial
  gi_wp2_with fail
  refine (callsIn_wide.2 (awake_any _)).mono ?_
  rintro e w1 ⟨rfl, hb1⟩
  have hB1 : Below w.heap.size w w1 := Below.trans (by go_grown) (hb1.mono (by simp; omega))
  have r0 : Row w1 w.heap.size 22 #[.slice A n c] := Row.below (((Row.made w _ _).alloc _).alloc _) hb1 (by simp; omega)
  have r1 : Row w1 (w.heap.size + 1) 3 #[.int .i64 a] := Row.below (Row.alloc (by simpa using Row.made (w.alloc (.cells #[.slice A n c] 22)) 3 #[.int .i64 a]) _) hb1 (by simp)
  have r2 : Row w1 (w.heap.size + 2) 4 #[.bool false] := Row.below (by simpa using Row.made ((w.alloc (.cells #[.slice A n c] 22)).alloc (.cells #[.int .i64 a] 3)) 4 #[.bool false]) hb1 (by simp)
  have z1 : w.heap.size + 3 ≤ w1.heap.size := by have := hb1.size; simpa using this
  have HB1 := Lib.hid hB1
  have R0 := Lib.hid r0
  have R1 := Lib.hid r1
  have R2 := Lib.hid r2
  clear hb1 hB1 r0 r1 r2
  gi_wp2_with fail
  refine (callsIn_wide.2 (new_any 40 _ (by decide) (by decide))).mono ?_
  rintro e w2 ⟨rfl, rfl⟩
  rw [show roomV 40 = 40 from by decide]
  have hJ0 : FJ w w1 A n c a 0 (zsI f 0) ((w1.alloc (.cells #[.int .i64 (40 : Nat), .slice none 0 0] 96)).alloc (.cells #[.int .i64 0] 3)) none :=
    ⟨(new_ff w1 40).alloc _, by simpa using Row.made (w1.alloc (.cells #[.int .i64 (40 : Nat), .slice none 0 0] 96)) 3 #[.int .i64 0], (R0.out.alloc _).alloc _, (R1.out.alloc _).alloc _, (R2.out.alloc _).alloc _, (HB1.out.alloc HB1.out.size _).alloc (by simp; omega) _, (fun g e => by cases e), z1⟩
  have HJ0 := Lib.hid hJ0
  clear hJ0
  gi_wp2_with fail
  gi_loopw [7] (fun s wr => ∃ i : Nat, i ≤ n ∧ i ≤ 60 ∧ s = .int .i64 i ∧ Hid (∃ ob, FJ w w1 A n c a (i - 40) (zsI f i) wr ob)) (fun s _ => 60 - (intOf s).toNat)
  case atStart => exact ⟨0, by omega, by omega, rfl, none, HJ0.out⟩
  case round =>
    obtain ⟨i, hi, hi60, rfl, hj⟩ := hrel
    obtain ⟨ob, hJ⟩ := hj.out
    have HJ := Lib.hid hJ
    have q0 : wr.cell? ⟨w.heap.size, 0, none⟩ = some (.slice A n c) := (hJ.r0.cell 0).trans rfl
    have qk : wr.cell? ⟨w1.heap.size + 1, 0, none⟩ = some (.int .i64 ((i - 40 : Nat) : Int)) := (hJ.kr.cell 0).trans rfl
    have fk : wr.frozen? ⟨w1.heap.size + 1, 0, none⟩ = false := hJ.kr.free 0
    clear hj HJ0
    by_cases hlt : i < n ∧ i < 60
    · obtain ⟨hin, hi6⟩ := hlt
      obtain ⟨g, o, rfl, hg, hc⟩ := HL.out i hin
      have hx : wr.cell? ⟨g, o + i, none⟩ = some (.int .i64 (f i)) := (hJ.be.cell (p := ⟨g, o + i, none⟩) hg).trans hc
      have e60 : decide ((i : Int) < 60) = true := by simp; omega
      clear hJ hc
      by_cases h40 : i < 40
      · gi_wp2_with (gi_at_call 15; refine (callsIn_wide.2 (push_yes w1.heap.size 40 (zsI f i) ob (f i) _ HJ.out.ff (by rw [zsI_len]; omega) (by omega))).mono ?_; rintro e w3 ⟨rfl, hleft⟩)
        obtain ⟨ob', hJ'⟩ := HJ.out.left hleft
        go_roundw
        case rel => exact ⟨i + 1, by omega, by omega, by go_num, ob', by rw [show i + 1 - 40 = i - 40 from by omega, zsI_less f i h40]; exact hJ'⟩
        case measure => simp [intOf]; omega
      · obtain ⟨r, hr1, hr2, hr3⟩ := zsI_more f i (by omega)
        have HJr : Hid (FJ w w1 (some ⟨g, o, none⟩) n c a (i - 40) (f (i - 40) :: r) wr ob) := by have := HJ.out; rwa [hr1] at this
        have HR2 := Lib.hid hr2
        have hk1 : ((i - 40 : Nat) : Int) + 1 = ((i + 1 - 40 : Nat) : Int) := by omega
        clear hr1 hr2
        gi_wp2_with fail
        refine (callsIn_wide.2 (push_no w1.heap.size 40 (f (i - 40) :: r) ob (f i) _ HJr.out.ff (by simp [hr3]))).mono ?_
        rintro e w' ⟨rfl, rfl⟩
        gi_wp2_with fail
        refine (callsIn_wide.2 (pop_yes w1.heap.size 40 (f (i - 40)) r ob _ HJr.out.ff (by simp [hr3]))).mono ?_
        rintro e w3 ⟨rfl, hleft⟩
        obtain ⟨ob3, hJ3⟩ := HJr.out.left hleft
        have HJ3 := Lib.hid hJ3
        have q3 : w3.cell? ⟨w.heap.size, 0, none⟩ = some (.slice (some ⟨g, o, none⟩) n c) := (hJ3.r0.cell 0).trans rfl
        have x3 : w3.cell? ⟨g, o + i, none⟩ = some (.int .i64 (f i)) := by
          obtain ⟨g', o', e', hg', hc'⟩ := HL.out i hin
          injection e' with e'
          injection e' with e1 e2
          subst e1 e2
          exact (hJ3.be.cell (p := ⟨g, o + i, none⟩) hg').trans hc'
        clear hJ3 hleft
        gi_wp2_with fail
        refine (callsIn_wide.2 (push_yes w1.heap.size 40 r ob3 (f i) _ HJ3.out.ff (by omega) (by omega))).mono ?_
        rintro e w4 ⟨rfl, hleft⟩
        obtain ⟨ob4, hJ4⟩ := HJ3.out.left hleft
        have k4 : w4.cell? ⟨w1.heap.size + 1, 0, none⟩ = some (.int .i64 ((i - 40 : Nat) : Int)) := (hJ4.kr.cell 0).trans rfl
        have f4 : w4.frozen? ⟨w1.heap.size + 1, 0, none⟩ = false := hJ4.kr.free 0
        have HJ5 := Lib.hid (hJ4.setk (i + 1 - 40) ((i - 39 : Nat) : Int) (by omega))
        clear hJ4 hleft
        gi_wp2
        go_roundw
        case rel => exact ⟨i + 1, by omega, by omega, by go_num, ob4, by rw [HR2.out]; exact HJ5.out⟩
        case measure => simp [intOf]; omega
    · have hzl : (zsI f i).length = i - (i - 40) := zsI_len f i
      have HZL := Lib.hid hzl
      have hR : ∀ j (h : j < (zsI f i).length), (zsI f i)[j] = f (i - 40 + j) := fun j h => zsI_get f i j h
      have HRG := Lib.hid hR
      have hend : (i < n ∧ decide ((i : Int) < 60) = false) ∨ ¬ i < n := by
        by_cases h : i < n
        · exact .inl ⟨h, by simp; omega⟩
        · exact .inr h
      obtain ⟨v, hv⟩ : ∃ v : World, v = wr := ⟨_, rfl⟩
      subst hv
      clear hJ hR hzl
      have hatB : TInv v (zsI f i) a [] ((v.alloc (.cells #[.int .i64 0] 3)).alloc (.cells #[.pointer (some ⟨w1.heap.size, 0, none⟩)] 24)) :=
        ⟨(Row.made v _ _).alloc _, ((Below.refl _ v).alloc (Nat.le_refl _) _).alloc (by simp) _, ⟨_, rfl⟩, by simp; omega⟩
      have HI0 := Lib.hid hatB
      clear hatB
      rcases hend with ⟨hin, h60⟩ | hin
      · gi_wp2_with fail
        refine (all_in Fence.wide 6 trivial rfl (some ⟨w1.heap.size, 0, none⟩) _).mono ?_
        rintro e w3 ⟨rfl, rfl⟩
        gi_wp2
        have hJ0 : FJ w w1 A n c a (i - 40) (zsI f i) ((v.alloc (.cells #[.int .i64 0] 3)).alloc (.cells #[.pointer (some ⟨w1.heap.size, 0, none⟩)] 24)) ob := HJ.out.mono (by go_grown)
        have hbk : ((v.alloc (.cells #[.int .i64 0] 3)).alloc (.cells #[.pointer (some ⟨w1.heap.size, 0, none⟩)] 24)).cell? ⟨v.heap.size + 1, 0, none⟩ = some (.pointer (some ⟨w1.heap.size, 0, none⟩)) := by simp
        have hsz : ((v.alloc (.cells #[.int .i64 0] 3)).alloc (.cells #[.pointer (some ⟨w1.heap.size, 0, none⟩)] 24)).heap.size = v.heap.size + 2 := by simp
        have hw0 : Hid (((v.alloc (.cells #[.int .i64 0] 3)).alloc (.cells #[.pointer (some ⟨w1.heap.size, 0, none⟩)] 24)).heap.size = v.heap.size + 2) := hsz
        have HJ0 := Lib.hid hJ0
        clear hJ0 q0 qk fk
        generalize (v.alloc (.cells #[.int .i64 0] 3)).alloc (.cells #[.pointer (some ⟨w1.heap.size, 0, none⟩)] 24) = w0 at HI0 hbk hsz hw0 HJ0 ⊢
        refine wpIn_rangeFunc_ownF rfl (by omega) (gf := 67) (lb := #[.pointer (some ⟨v.heap.size + 1, 0, none⟩)]) rfl trivial (enters_of Try.func67 (by kernel_rfl) rfl)
          (all_stops 6 (by omega) (v.heap.size + 1) w1.heap.size 40 v.heap.size (zsI f i) ob (by rw [zsI_len]; omega) w0 (by omega) hbk HJ0.out.ff) kpT_t (fun W l o o' _ h hc _ => kpT_b W l o o' h hc) (Below.refl _ _) (fun _ => rfl)
          (TInv v (zsI f i) a) (TLeft v (zsI f i) a) (tinv_own _ _ _ _ (by omega)) (fun c => tleft_own _ _ _ _ (by omega) c) HI0.out ?a11 ?assign1 ?body1 ?done1 ?stop1
        case assign1 =>
          intro l x W K hK
          gi_wp2
          exact hK
        case body1 =>
          rintro l pre x W hI hlen
          have HI := Lib.hid hI
          have HJW := Lib.hid (HJ.out.mono hI.be)
          have hzl := HZL.out
          obtain ⟨q, hq, hqi⟩ : ∃ q : Nat, ((i - 40 : Nat) : Int) + (pre.length : Int) = (q : Int) ∧ q = i - 40 + pre.length := ⟨i - 40 + pre.length, by omega, rfl⟩
          have hqn : q < n := by omega
          have hqn' : (q : Int) < (n : Int) := by omega
          have hst := pre_step (x := x) hI.pr hlen
          rw [HRG.out pre.length hlen, ← hqi] at hst
          have HS := Lib.hid hst
          have hmod := Lib.hid (and63 a)
          obtain ⟨g, o, rfl, hg, hc⟩ := HL.out q hqn
          have c0 : W.cell? ⟨w.heap.size, 0, none⟩ = some (.slice (some ⟨g, o, none⟩) n c) := (HJW.out.r0.cell 0).trans rfl
          have c1 : W.cell? ⟨w1.heap.size + 1, 0, none⟩ = some (.int .i64 ((i - 40 : Nat) : Int)) := (HJW.out.kr.cell 0).trans rfl
          have c2 : W.cell? ⟨w.heap.size + 1, 0, none⟩ = some (.int .i64 a) := (HJW.out.r1.cell 0).trans rfl
          have c3 : W.cell? ⟨v.heap.size, 0, none⟩ = some (.int .i64 pre.length) := (hI.bx.cell 0).trans rfl
          have f3 : W.frozen? ⟨v.heap.size, 0, none⟩ = false := hI.bx.free 0
          have c4 : W.cell? ⟨w.heap.size + 1 + 1, 0, none⟩ = some (.bool false) := (HJW.out.r2.cell 0).trans rfl
          have f4 : W.frozen? ⟨w.heap.size + 1 + 1, 0, none⟩ = false := HJW.out.r2.free 0
          have c5 : W.cell? ⟨g, o + q, none⟩ = some (.int .i64 (f q)) := (HJW.out.be.cell (p := ⟨g, o + q, none⟩) hg).trans hc
          have hvz : w.heap.size + 1 < v.heap.size := by have h1 := HJ.out.ff.lt; have h2 := HJ.out.hz; omega
          have c6 : (W.setCell ⟨v.heap.size, 0, none⟩ (.int .i64 ((pre.length : Int) + 1))).cell? ⟨w.heap.size + 1, 0, none⟩ = some (.int .i64 a) := (World.cell?_setCell_other _ _ _ _ (by first | (simp; done) | (simp; omega))).trans c2
          have hLN := Lib.hid hlen
          clear hI hst hc hzl hqi
          gi_wp2
          · rename_i hx
            exact ⟨KeepsOthers.setCell _ _ _, .inr (fun h => by
              have h2 := HS.out.1 h
              first
              | (simp [h2] at hx; done)
              | (simp [h2] at hx; omega))⟩
          · rename_i hx hb
            have hb' : bits .and .i64 a 63 < (pre.length : Int) + 1 := hb
            rw [hmod.out] at hb'
            exact ⟨KeepsOthers.setCell _ _ _, .inl ⟨rfl, by simpa using Row.put HI.out.bx 0 (.int .i64 ((pre.length : Int) + 1)), HI.out.be.setCell (p := ⟨v.heap.size, 0, none⟩) (Nat.le_refl _) _, by have := HI.out.le; simp; omega⟩⟩
          · rename_i hx hb
            have hb' : (pre.length : Int) + 1 ≤ bits .and .i64 a 63 := hb
            rw [hmod.out] at hb'
            exact ⟨KeepsOthers.setCell _ _ _, kpT_set _ W 0 _, by simpa using Row.put HI.out.bx 0 (.int .i64 ((pre.length : Int) + 1)), HI.out.be.setCell (p := ⟨v.heap.size, 0, none⟩) (Nat.le_refl _) _, HS.out.2 (by have h2 := hx.2; simp at h2; exact h2.symm), by simp; omega⟩
        case done1 =>
          rintro D ys W hD rfl hI hK
          have RWQ := Lib.hid hI.bx
          have HJW := Lib.hid (HJ.out.mono hI.be)
          have hle := hI.le
          obtain ⟨r, hr⟩ : ∃ r : Nat, bits .and .i64 a 63 = (r : Int) := ⟨(a % 64).toNat, by rw [and63]; omega⟩
          have hr63 : r ≤ 63 := by have := and63 a; omega
          have hmr : (zsI f i).length ≤ r := by have := and63 a; omega
          have hmr' : ((zsI f i).length : Int) < (r : Int) + 1 := by omega
          have hwr : IntKind.i64.wrap ((r : Int) + 1) = (r : Int) + 1 := by rw [IntKind.wrap_i64]; omega
          have hsel : (r : Int) + 1 ≤ ((zsI f i).length : Int) → ((zsI f i).length : Int) = (r : Int) + 1 := by omega
          have HKD := Lib.hid hK
          have HD := Lib.hid hD
          clear hle hI hK hD
          have hw00 : IntKind.i64.wrap (0 : Int) = 0 := by rw [IntKind.wrap_i64]; decide
          have k1 : W.cell? ⟨v.heap.size, 0, none⟩ = some (.int .i64 (((zsI f i).length : Nat))) := (RWQ.out.cell 0).trans rfl
          have k2 : W.cell? ⟨w.heap.size + 1, 0, none⟩ = some (.int .i64 a) := (HJW.out.r1.cell 0).trans rfl
          have hkeep : ∀ X, Below W.heap.size W X → X.cell? ⟨v.heap.size, 0, none⟩ = some (.int .i64 (((zsI f i).length : Nat))) ∧ X.cell? ⟨w.heap.size + 1, 0, none⟩ = some (.int .i64 a) := fun X hX => ⟨(hX.cell (p := ⟨v.heap.size, 0, none⟩) RWQ.out.lt).trans k1, (hX.cell (p := ⟨w.heap.size + 1, 0, none⟩) HJW.out.r1.lt).trans k2⟩
          have hz3 : w.heap.size + 3 ≤ w1.heap.size := HJW.out.hz
          have hz4 : w1.heap.size < v.heap.size := HJ.out.ff.lt
          have hstore : ∀ (X : World) (u : Value), (X.cell? ⟨v.heap.size, 0, none⟩ = some (.int .i64 (((zsI f i).length : Nat))) ∧ X.cell? ⟨w.heap.size + 1, 0, none⟩ = some (.int .i64 a)) → ((X.setCell ⟨w.heap.size + 1 + 1, 0, none⟩ u).cell? ⟨v.heap.size, 0, none⟩ = some (.int .i64 (((zsI f i).length : Nat))) ∧ (X.setCell ⟨w.heap.size + 1 + 1, 0, none⟩ u).cell? ⟨w.heap.size + 1, 0, none⟩ = some (.int .i64 a)) := fun X u ⟨q0, q1⟩ => ⟨(World.cell?_setCell_other _ _ _ _ (by first | (simp; done) | (simp; omega))).trans q0, (World.cell?_setCell_other _ _ _ _ (by first | (simp; done) | (simp; omega))).trans q1⟩
          have HKEEP := Lib.hid hkeep
          have HSTORE := Lib.hid hstore
          have HWZ := Lib.hid (show w.heap.size + 2 < W.heap.size from HJW.out.r2.lt)
          clear hkeep hstore hz3 hz4
          gi_wp2_with (gi_at_call 16; (with_reducible refine (callsIn_wide.2 (pop_nil _)).mono ?_); rintro e w' ⟨rfl, rfl⟩)
          refine wpIn_wide.2 ?_
          try simp only [List.append_eq, List.cons_append, List.nil_append]
          first
          | (
          go_region_held3 (fun X => X.cell? ⟨v.heap.size, 0, none⟩ = some (.int .i64 (((zsI f i).length : Nat))) ∧ X.cell? ⟨w.heap.size + 1, 0, none⟩ = some (.int .i64 a))
            (first
              | exact ⟨k1, k2⟩
              | exact HSTORE.out _ _ (HKEEP.out _ HB3.out)
              | exact HKEEP.out _ HB3.out
              | fail)
            ((first
              | (
                  go_at_call 13
                  refine (awake_any _).mono ?_
                  rintro e w3 ⟨rfl, hb3⟩
                  have h3 : Below W.heap.size W w3 := Below.trans (by go_grown) hb3
                  have HB3 := Lib.hid h3
                  have HJ3 := Lib.hid (HJW.out.mono h3)
                  have e6 : w3.cell? ⟨w.heap.size + 1 + 1, 0, none⟩ = some (.bool false) := (HJ3.out.r2.cell 0).trans rfl
                  have f6 : w3.frozen? ⟨w.heap.size + 1 + 1, 0, none⟩ = false := HJ3.out.r2.free 0
                  clear hb3 h3)
              | (
                  go_at_call 18
                  (with_reducible refine (len_nil _).mono ?_)
                  rintro e w' ⟨rfl, rfl⟩)
              | (
                  go_at_call 18
                  refine (len_any w1.heap.size 40 (zsI f i) ob _ HJ3.out.ff).mono ?_
                  rintro e w' ⟨rfl, rfl⟩)
              | (
                  go_at_call 15
                  (with_reducible refine (push_nil _ _).mono ?_)
                  rintro e w' ⟨rfl, rfl⟩)
              | (
                  go_at_call 19
                  (with_reducible refine (full_nil _).mono ?_)
                  rintro e w' ⟨rfl, rfl⟩)
              | (
                  go_at_call 20
                  (with_reducible refine (room_nil _).mono ?_)
                  rintro e w' ⟨rfl, rfl⟩)
              | (
                  go_at_call 21
                  (with_reducible refine (clear_nil _).mono ?_)
                  rintro e w' ⟨rfl, rfl⟩))))
          | fail
          all_goals (
            have hDW : D < W.heap.size := (Array.getElem?_eq_some_iff.1 HKD.out).1
            have hDw : w.heap.size ≤ D := by have h1 := HD.out; have h2 := hw0.out; have h3 := HJ.out.be.size; omega
            have hK6 : w3.heap[D]? = some (.deferred (some [])) := (HB3.out.block D hDW).trans HKD.out
            have hK7 := (KeepsOthers.setCell w3 ⟨w.heap.size + 1 + 1, 0, none⟩ (.bool true)).same D _ hK6 rfl
            have hc7 := cell_kept (World.cell?_setCell_same' w3 ⟨w.heap.size + 1 + 1, 0, none⟩ (.bool true) (by rw [e6]; rfl)) (grownBy_putObj' _ D (.deferred none)) (fun r e => by cases e; exact ⟨_, hK7, rfl⟩)
            gi_wp2
            refine ⟨by simp, .inl ⟨_, _, rfl, run_takeDeferred hK7, ?_⟩⟩
            refine ⟨.bool true, ?_, rfl, ((HJ3.out.be).setCell (p := ⟨w.heap.size + 1 + 1, 0, none⟩) (by simp; omega) _).trans (belowK_b (w := w) (Nat.le_refl _) _ D _ _ hDw hK7 rfl rfl)⟩
            simp [results, Try.f3, go_sem, hc7])
        case stop1 =>
          rintro D c' pre W hD hpre hL hK
          rcases hL with ⟨rfl, hO⟩ | hno
          · obtain ⟨r, hr⟩ : ∃ r : Nat, bits .and .i64 a 63 = (r : Int) := ⟨(a % 64).toNat, by rw [and63]; omega⟩
            have hr63 : r ≤ 63 := by have := and63 a; omega
            have hbq : Row W v.heap.size 3 #[.int .i64 ((r : Int) + 1)] := by
              have h1 := hO.bx
              have h2 := hO.le
              rwa [show (pre.length : Int) = (r : Int) + 1 by have := and63 a; omega] at h1
            have RWQ := Lib.hid hbq
            have HJW := Lib.hid (HJ.out.mono hO.be)
            have hmr : r < (zsI f i).length := by
              have h1 := hpre.length_le
              have h2 := hO.le
              have := and63 a
              omega
            have hmr' : ¬ (((zsI f i).length : Int) < (r : Int) + 1) := by omega
            have hwr : IntKind.i64.wrap ((r : Int) + 1) = (r : Int) + 1 := by rw [IntKind.wrap_i64]; omega
            have hs1 : ¬ ((zsI f i).length ≤ r) := by omega
            have hs5 : (if ((zsI f i).length : Int) < (r : Int) + 1 then ((zsI f i).length : Int) else (r : Int) + 1) = (r : Int) + 1 := if_neg hmr'
            have hs6 : (r : Int) + 1 ≤ ((zsI f i).length : Int) := by omega
            have HKD := Lib.hid hK
            have HD := Lib.hid hD
            clear hO hK hD hbq hpre
            have hw00 : IntKind.i64.wrap (0 : Int) = 0 := by rw [IntKind.wrap_i64]; decide
            have k1 : W.cell? ⟨v.heap.size, 0, none⟩ = some (.int .i64 ((r : Int) + 1)) := (RWQ.out.cell 0).trans rfl
            have k2 : W.cell? ⟨w.heap.size + 1, 0, none⟩ = some (.int .i64 a) := (HJW.out.r1.cell 0).trans rfl
            have hkeep : ∀ X, Below W.heap.size W X → X.cell? ⟨v.heap.size, 0, none⟩ = some (.int .i64 ((r : Int) + 1)) ∧ X.cell? ⟨w.heap.size + 1, 0, none⟩ = some (.int .i64 a) := fun X hX => ⟨(hX.cell (p := ⟨v.heap.size, 0, none⟩) RWQ.out.lt).trans k1, (hX.cell (p := ⟨w.heap.size + 1, 0, none⟩) HJW.out.r1.lt).trans k2⟩
            have hz3 : w.heap.size + 3 ≤ w1.heap.size := HJW.out.hz
            have hz4 : w1.heap.size < v.heap.size := HJ.out.ff.lt
            have hstore : ∀ (X : World) (u : Value), (X.cell? ⟨v.heap.size, 0, none⟩ = some (.int .i64 ((r : Int) + 1)) ∧ X.cell? ⟨w.heap.size + 1, 0, none⟩ = some (.int .i64 a)) → ((X.setCell ⟨w.heap.size + 1 + 1, 0, none⟩ u).cell? ⟨v.heap.size, 0, none⟩ = some (.int .i64 ((r : Int) + 1)) ∧ (X.setCell ⟨w.heap.size + 1 + 1, 0, none⟩ u).cell? ⟨w.heap.size + 1, 0, none⟩ = some (.int .i64 a)) := fun X u ⟨q0, q1⟩ => ⟨(World.cell?_setCell_other _ _ _ _ (by first | (simp; done) | (simp; omega))).trans q0, (World.cell?_setCell_other _ _ _ _ (by first | (simp; done) | (simp; omega))).trans q1⟩
            have HKEEP := Lib.hid hkeep
            have HSTORE := Lib.hid hstore
            have HWZ := Lib.hid (show w.heap.size + 2 < W.heap.size from HJW.out.r2.lt)
            clear hkeep hstore hz3 hz4
            gi_wp2_with (gi_at_call 16; (with_reducible refine (callsIn_wide.2 (pop_nil _)).mono ?_); rintro e w' ⟨rfl, rfl⟩)
            refine wpIn_wide.2 ?_
            try simp only [List.append_eq, List.cons_append, List.nil_append]
            first
            | (
            go_region_held3 (fun X => X.cell? ⟨v.heap.size, 0, none⟩ = some (.int .i64 ((r : Int) + 1)) ∧ X.cell? ⟨w.heap.size + 1, 0, none⟩ = some (.int .i64 a))
              (first
                | exact ⟨k1, k2⟩
                | exact HSTORE.out _ _ (HKEEP.out _ HB3.out)
                | exact HKEEP.out _ HB3.out
                | fail)
              ((first
                | (
                    go_at_call 13
                    refine (awake_any _).mono ?_
                    rintro e w3 ⟨rfl, hb3⟩
                    have h3 : Below W.heap.size W w3 := Below.trans (by go_grown) hb3
                    have HB3 := Lib.hid h3
                    have HJ3 := Lib.hid (HJW.out.mono h3)
                    have e6 : w3.cell? ⟨w.heap.size + 1 + 1, 0, none⟩ = some (.bool false) := (HJ3.out.r2.cell 0).trans rfl
                    have f6 : w3.frozen? ⟨w.heap.size + 1 + 1, 0, none⟩ = false := HJ3.out.r2.free 0
                    clear hb3 h3)
                | (
                    go_at_call 18
                    (with_reducible refine (len_nil _).mono ?_)
                    rintro e w' ⟨rfl, rfl⟩)
                | (
                    go_at_call 18
                    refine (len_any w1.heap.size 40 (zsI f i) ob _ HJ3.out.ff).mono ?_
                    rintro e w' ⟨rfl, rfl⟩)
                | (
                    go_at_call 15
                    (with_reducible refine (push_nil _ _).mono ?_)
                    rintro e w' ⟨rfl, rfl⟩)
                | (
                    go_at_call 19
                    (with_reducible refine (full_nil _).mono ?_)
                    rintro e w' ⟨rfl, rfl⟩)
                | (
                    go_at_call 20
                    (with_reducible refine (room_nil _).mono ?_)
                    rintro e w' ⟨rfl, rfl⟩)
                | (
                    go_at_call 21
                    (with_reducible refine (clear_nil _).mono ?_)
                    rintro e w' ⟨rfl, rfl⟩))))
            | fail
            all_goals (
              have hDW : D < W.heap.size := (Array.getElem?_eq_some_iff.1 HKD.out).1
              have hDw : w.heap.size ≤ D := by have h1 := HD.out; have h2 := hw0.out; have h3 := HJ.out.be.size; omega
              have hK6 : w3.heap[D]? = some (.deferred (some [])) := (HB3.out.block D hDW).trans HKD.out
              have hK7 := (KeepsOthers.setCell w3 ⟨w.heap.size + 1 + 1, 0, none⟩ (.bool true)).same D _ hK6 rfl
              have hc7 := cell_kept (World.cell?_setCell_same' w3 ⟨w.heap.size + 1 + 1, 0, none⟩ (.bool true) (by rw [e6]; rfl)) (grownBy_putObj' _ D (.deferred none)) (fun r e => by cases e; exact ⟨_, hK7, rfl⟩)
              gi_wp2
              refine ⟨by simp, .inl ⟨_, _, rfl, run_takeDeferred hK7, ?_⟩⟩
              refine ⟨.bool true, ?_, rfl, ((HJ3.out.be).setCell (p := ⟨w.heap.size + 1 + 1, 0, none⟩) (by simp; omega) _).trans (belowK_b (w := w) (Nat.le_refl _) _ D _ _ hDw hK7 rfl rfl)⟩
              simp [results, Try.f3, go_sem, hc7])
          · exact absurd hpre hno
      · gi_wp2_with fail
        refine (all_in Fence.wide 6 trivial rfl (some ⟨w1.heap.size, 0, none⟩) _).mono ?_
        rintro e w3 ⟨rfl, rfl⟩
        gi_wp2
        have hJ0 : FJ w w1 A n c a (i - 40) (zsI f i) ((v.alloc (.cells #[.int .i64 0] 3)).alloc (.cells #[.pointer (some ⟨w1.heap.size, 0, none⟩)] 24)) ob := HJ.out.mono (by go_grown)
        have hbk : ((v.alloc (.cells #[.int .i64 0] 3)).alloc (.cells #[.pointer (some ⟨w1.heap.size, 0, none⟩)] 24)).cell? ⟨v.heap.size + 1, 0, none⟩ = some (.pointer (some ⟨w1.heap.size, 0, none⟩)) := by simp
        have hsz : ((v.alloc (.cells #[.int .i64 0] 3)).alloc (.cells #[.pointer (some ⟨w1.heap.size, 0, none⟩)] 24)).heap.size = v.heap.size + 2 := by simp
        have hw0 : Hid (((v.alloc (.cells #[.int .i64 0] 3)).alloc (.cells #[.pointer (some ⟨w1.heap.size, 0, none⟩)] 24)).heap.size = v.heap.size + 2) := hsz
        have HJ0 := Lib.hid hJ0
        clear hJ0 q0 qk fk
        generalize (v.alloc (.cells #[.int .i64 0] 3)).alloc (.cells #[.pointer (some ⟨w1.heap.size, 0, none⟩)] 24) = w0 at HI0 hbk hsz hw0 HJ0 ⊢
        refine wpIn_rangeFunc_ownF rfl (by omega) (gf := 67) (lb := #[.pointer (some ⟨v.heap.size + 1, 0, none⟩)]) rfl trivial (enters_of Try.func67 (by kernel_rfl) rfl)
          (all_stops 6 (by omega) (v.heap.size + 1) w1.heap.size 40 v.heap.size (zsI f i) ob (by rw [zsI_len]; omega) w0 (by omega) hbk HJ0.out.ff) kpT_t (fun W l o o' _ h hc _ => kpT_b W l o o' h hc) (Below.refl _ _) (fun _ => rfl)
          (TInv v (zsI f i) a) (TLeft v (zsI f i) a) (tinv_own _ _ _ _ (by omega)) (fun c => tleft_own _ _ _ _ (by omega) c) HI0.out ?a12 ?assign2 ?body2 ?done2 ?stop2
        case assign2 =>
          intro l x W K hK
          gi_wp2
          exact hK
        case body2 =>
          rintro l pre x W hI hlen
          have HI := Lib.hid hI
          have HJW := Lib.hid (HJ.out.mono hI.be)
          have hzl := HZL.out
          obtain ⟨q, hq, hqi⟩ : ∃ q : Nat, ((i - 40 : Nat) : Int) + (pre.length : Int) = (q : Int) ∧ q = i - 40 + pre.length := ⟨i - 40 + pre.length, by omega, rfl⟩
          have hqn : q < n := by omega
          have hqn' : (q : Int) < (n : Int) := by omega
          have hst := pre_step (x := x) hI.pr hlen
          rw [HRG.out pre.length hlen, ← hqi] at hst
          have HS := Lib.hid hst
          have hmod := Lib.hid (and63 a)
          obtain ⟨g, o, rfl, hg, hc⟩ := HL.out q hqn
          have c0 : W.cell? ⟨w.heap.size, 0, none⟩ = some (.slice (some ⟨g, o, none⟩) n c) := (HJW.out.r0.cell 0).trans rfl
          have c1 : W.cell? ⟨w1.heap.size + 1, 0, none⟩ = some (.int .i64 ((i - 40 : Nat) : Int)) := (HJW.out.kr.cell 0).trans rfl
          have c2 : W.cell? ⟨w.heap.size + 1, 0, none⟩ = some (.int .i64 a) := (HJW.out.r1.cell 0).trans rfl
          have c3 : W.cell? ⟨v.heap.size, 0, none⟩ = some (.int .i64 pre.length) := (hI.bx.cell 0).trans rfl
          have f3 : W.frozen? ⟨v.heap.size, 0, none⟩ = false := hI.bx.free 0
          have c4 : W.cell? ⟨w.heap.size + 1 + 1, 0, none⟩ = some (.bool false) := (HJW.out.r2.cell 0).trans rfl
          have f4 : W.frozen? ⟨w.heap.size + 1 + 1, 0, none⟩ = false := HJW.out.r2.free 0
          have c5 : W.cell? ⟨g, o + q, none⟩ = some (.int .i64 (f q)) := (HJW.out.be.cell (p := ⟨g, o + q, none⟩) hg).trans hc
          have hvz : w.heap.size + 1 < v.heap.size := by have h1 := HJ.out.ff.lt; have h2 := HJ.out.hz; omega
          have c6 : (W.setCell ⟨v.heap.size, 0, none⟩ (.int .i64 ((pre.length : Int) + 1))).cell? ⟨w.heap.size + 1, 0, none⟩ = some (.int .i64 a) := (World.cell?_setCell_other _ _ _ _ (by first | (simp; done) | (simp; omega))).trans c2
          have hLN := Lib.hid hlen
          clear hI hst hc hzl hqi
          gi_wp2
          · rename_i hx
            exact ⟨KeepsOthers.setCell _ _ _, .inr (fun h => by
              have h2 := HS.out.1 h
              first
              | (simp [h2] at hx; done)
              | (simp [h2] at hx; omega))⟩
          · rename_i hx hb
            have hb' : bits .and .i64 a 63 < (pre.length : Int) + 1 := hb
            rw [hmod.out] at hb'
            exact ⟨KeepsOthers.setCell _ _ _, .inl ⟨rfl, by simpa using Row.put HI.out.bx 0 (.int .i64 ((pre.length : Int) + 1)), HI.out.be.setCell (p := ⟨v.heap.size, 0, none⟩) (Nat.le_refl _) _, by have := HI.out.le; simp; omega⟩⟩
          · rename_i hx hb
            have hb' : (pre.length : Int) + 1 ≤ bits .and .i64 a 63 := hb
            rw [hmod.out] at hb'
            exact ⟨KeepsOthers.setCell _ _ _, kpT_set _ W 0 _, by simpa using Row.put HI.out.bx 0 (.int .i64 ((pre.length : Int) + 1)), HI.out.be.setCell (p := ⟨v.heap.size, 0, none⟩) (Nat.le_refl _) _, HS.out.2 (by have h2 := hx.2; simp at h2; exact h2.symm), by simp; omega⟩
        case done2 =>
          rintro D ys W hD rfl hI hK
          have RWQ := Lib.hid hI.bx
          have HJW := Lib.hid (HJ.out.mono hI.be)
          have hle := hI.le
          obtain ⟨r, hr⟩ : ∃ r : Nat, bits .and .i64 a 63 = (r : Int) := ⟨(a % 64).toNat, by rw [and63]; omega⟩
          have hr63 : r ≤ 63 := by have := and63 a; omega
          have hmr : (zsI f i).length ≤ r := by have := and63 a; omega
          have hmr' : ((zsI f i).length : Int) < (r : Int) + 1 := by omega
          have hwr : IntKind.i64.wrap ((r : Int) + 1) = (r : Int) + 1 := by rw [IntKind.wrap_i64]; omega
          have hsel : (r : Int) + 1 ≤ ((zsI f i).length : Int) → ((zsI f i).length : Int) = (r : Int) + 1 := by omega
          have HKD := Lib.hid hK
          have HD := Lib.hid hD
          clear hle hI hK hD
          have hw00 : IntKind.i64.wrap (0 : Int) = 0 := by rw [IntKind.wrap_i64]; decide
          have k1 : W.cell? ⟨v.heap.size, 0, none⟩ = some (.int .i64 (((zsI f i).length : Nat))) := (RWQ.out.cell 0).trans rfl
          have k2 : W.cell? ⟨w.heap.size + 1, 0, none⟩ = some (.int .i64 a) := (HJW.out.r1.cell 0).trans rfl
          have hkeep : ∀ X, Below W.heap.size W X → X.cell? ⟨v.heap.size, 0, none⟩ = some (.int .i64 (((zsI f i).length : Nat))) ∧ X.cell? ⟨w.heap.size + 1, 0, none⟩ = some (.int .i64 a) := fun X hX => ⟨(hX.cell (p := ⟨v.heap.size, 0, none⟩) RWQ.out.lt).trans k1, (hX.cell (p := ⟨w.heap.size + 1, 0, none⟩) HJW.out.r1.lt).trans k2⟩
          have hz3 : w.heap.size + 3 ≤ w1.heap.size := HJW.out.hz
          have hz4 : w1.heap.size < v.heap.size := HJ.out.ff.lt
          have hstore : ∀ (X : World) (u : Value), (X.cell? ⟨v.heap.size, 0, none⟩ = some (.int .i64 (((zsI f i).length : Nat))) ∧ X.cell? ⟨w.heap.size + 1, 0, none⟩ = some (.int .i64 a)) → ((X.setCell ⟨w.heap.size + 1 + 1, 0, none⟩ u).cell? ⟨v.heap.size, 0, none⟩ = some (.int .i64 (((zsI f i).length : Nat))) ∧ (X.setCell ⟨w.heap.size + 1 + 1, 0, none⟩ u).cell? ⟨w.heap.size + 1, 0, none⟩ = some (.int .i64 a)) := fun X u ⟨q0, q1⟩ => ⟨(World.cell?_setCell_other _ _ _ _ (by first | (simp; done) | (simp; omega))).trans q0, (World.cell?_setCell_other _ _ _ _ (by first | (simp; done) | (simp; omega))).trans q1⟩
          have HKEEP := Lib.hid hkeep
          have HSTORE := Lib.hid hstore
          have HWZ := Lib.hid (show w.heap.size + 2 < W.heap.size from HJW.out.r2.lt)
          clear hkeep hstore hz3 hz4
          gi_wp2_with (gi_at_call 16; (with_reducible refine (callsIn_wide.2 (pop_nil _)).mono ?_); rintro e w' ⟨rfl, rfl⟩)
          refine wpIn_wide.2 ?_
          try simp only [List.append_eq, List.cons_append, List.nil_append]
          first
          | (
          go_region_held3 (fun X => X.cell? ⟨v.heap.size, 0, none⟩ = some (.int .i64 (((zsI f i).length : Nat))) ∧ X.cell? ⟨w.heap.size + 1, 0, none⟩ = some (.int .i64 a))
            (first
              | exact ⟨k1, k2⟩
              | exact HSTORE.out _ _ (HKEEP.out _ HB3.out)
              | exact HKEEP.out _ HB3.out
              | fail)
            ((first
              | (
                  go_at_call 13
                  refine (awake_any _).mono ?_
                  rintro e w3 ⟨rfl, hb3⟩
                  have h3 : Below W.heap.size W w3 := Below.trans (by go_grown) hb3
                  have HB3 := Lib.hid h3
                  have HJ3 := Lib.hid (HJW.out.mono h3)
                  have e6 : w3.cell? ⟨w.heap.size + 1 + 1, 0, none⟩ = some (.bool false) := (HJ3.out.r2.cell 0).trans rfl
                  have f6 : w3.frozen? ⟨w.heap.size + 1 + 1, 0, none⟩ = false := HJ3.out.r2.free 0
                  clear hb3 h3)
              | (
                  go_at_call 18
                  (with_reducible refine (len_nil _).mono ?_)
                  rintro e w' ⟨rfl, rfl⟩)
              | (
                  go_at_call 18
                  refine (len_any w1.heap.size 40 (zsI f i) ob _ HJ3.out.ff).mono ?_
                  rintro e w' ⟨rfl, rfl⟩)
              | (
                  go_at_call 15
                  (with_reducible refine (push_nil _ _).mono ?_)
                  rintro e w' ⟨rfl, rfl⟩)
              | (
                  go_at_call 19
                  (with_reducible refine (full_nil _).mono ?_)
                  rintro e w' ⟨rfl, rfl⟩)
              | (
                  go_at_call 20
                  (with_reducible refine (room_nil _).mono ?_)
                  rintro e w' ⟨rfl, rfl⟩)
              | (
                  go_at_call 21
                  (with_reducible refine (clear_nil _).mono ?_)
                  rintro e w' ⟨rfl, rfl⟩))))
          | fail
          all_goals (
            have hDW : D < W.heap.size := (Array.getElem?_eq_some_iff.1 HKD.out).1
            have hDw : w.heap.size ≤ D := by have h1 := HD.out; have h2 := hw0.out; have h3 := HJ.out.be.size; omega
            have hK6 : w3.heap[D]? = some (.deferred (some [])) := (HB3.out.block D hDW).trans HKD.out
            have hK7 := (KeepsOthers.setCell w3 ⟨w.heap.size + 1 + 1, 0, none⟩ (.bool true)).same D _ hK6 rfl
            have hc7 := cell_kept (World.cell?_setCell_same' w3 ⟨w.heap.size + 1 + 1, 0, none⟩ (.bool true) (by rw [e6]; rfl)) (grownBy_putObj' _ D (.deferred none)) (fun r e => by cases e; exact ⟨_, hK7, rfl⟩)
            gi_wp2
            refine ⟨by simp, .inl ⟨_, _, rfl, run_takeDeferred hK7, ?_⟩⟩
            refine ⟨.bool true, ?_, rfl, ((HJ3.out.be).setCell (p := ⟨w.heap.size + 1 + 1, 0, none⟩) (by simp; omega) _).trans (belowK_b (w := w) (Nat.le_refl _) _ D _ _ hDw hK7 rfl rfl)⟩
            simp [results, Try.f3, go_sem, hc7])
        case stop2 =>
          rintro D c' pre W hD hpre hL hK
          rcases hL with ⟨rfl, hO⟩ | hno
          · obtain ⟨r, hr⟩ : ∃ r : Nat, bits .and .i64 a 63 = (r : Int) := ⟨(a % 64).toNat, by rw [and63]; omega⟩
            have hr63 : r ≤ 63 := by have := and63 a; omega
            have hbq : Row W v.heap.size 3 #[.int .i64 ((r : Int) + 1)] := by
              have h1 := hO.bx
              have h2 := hO.le
              rwa [show (pre.length : Int) = (r : Int) + 1 by have := and63 a; omega] at h1
            have RWQ := Lib.hid hbq
            have HJW := Lib.hid (HJ.out.mono hO.be)
            have hmr : r < (zsI f i).length := by
              have h1 := hpre.length_le
              have h2 := hO.le
              have := and63 a
              omega
            have hmr' : ¬ (((zsI f i).length : Int) < (r : Int) + 1) := by omega
            have hwr : IntKind.i64.wrap ((r : Int) + 1) = (r : Int) + 1 := by rw [IntKind.wrap_i64]; omega
            have hs1 : ¬ ((zsI f i).length ≤ r) := by omega
            have hs5 : (if ((zsI f i).length : Int) < (r : Int) + 1 then ((zsI f i).length : Int) else (r : Int) + 1) = (r : Int) + 1 := if_neg hmr'
            have hs6 : (r : Int) + 1 ≤ ((zsI f i).length : Int) := by omega
            have HKD := Lib.hid hK
            have HD := Lib.hid hD
            clear hO hK hD hbq hpre
            have hw00 : IntKind.i64.wrap (0 : Int) = 0 := by rw [IntKind.wrap_i64]; decide
            have k1 : W.cell? ⟨v.heap.size, 0, none⟩ = some (.int .i64 ((r : Int) + 1)) := (RWQ.out.cell 0).trans rfl
            have k2 : W.cell? ⟨w.heap.size + 1, 0, none⟩ = some (.int .i64 a) := (HJW.out.r1.cell 0).trans rfl
            have hkeep : ∀ X, Below W.heap.size W X → X.cell? ⟨v.heap.size, 0, none⟩ = some (.int .i64 ((r : Int) + 1)) ∧ X.cell? ⟨w.heap.size + 1, 0, none⟩ = some (.int .i64 a) := fun X hX => ⟨(hX.cell (p := ⟨v.heap.size, 0, none⟩) RWQ.out.lt).trans k1, (hX.cell (p := ⟨w.heap.size + 1, 0, none⟩) HJW.out.r1.lt).trans k2⟩
            have hz3 : w.heap.size + 3 ≤ w1.heap.size := HJW.out.hz
            have hz4 : w1.heap.size < v.heap.size := HJ.out.ff.lt
            have hstore : ∀ (X : World) (u : Value), (X.cell? ⟨v.heap.size, 0, none⟩ = some (.int .i64 ((r : Int) + 1)) ∧ X.cell? ⟨w.heap.size + 1, 0, none⟩ = some (.int .i64 a)) → ((X.setCell ⟨w.heap.size + 1 + 1, 0, none⟩ u).cell? ⟨v.heap.size, 0, none⟩ = some (.int .i64 ((r : Int) + 1)) ∧ (X.setCell ⟨w.heap.size + 1 + 1, 0, none⟩ u).cell? ⟨w.heap.size + 1, 0, none⟩ = some (.int .i64 a)) := fun X u ⟨q0, q1⟩ => ⟨(World.cell?_setCell_other _ _ _ _ (by first | (simp; done) | (simp; omega))).trans q0, (World.cell?_setCell_other _ _ _ _ (by first | (simp; done) | (simp; omega))).trans q1⟩
            have HKEEP := Lib.hid hkeep
            have HSTORE := Lib.hid hstore
            have HWZ := Lib.hid (show w.heap.size + 2 < W.heap.size from HJW.out.r2.lt)
            clear hkeep hstore hz3 hz4
            gi_wp2_with (gi_at_call 16; (with_reducible refine (callsIn_wide.2 (pop_nil _)).mono ?_); rintro e w' ⟨rfl, rfl⟩)
            refine wpIn_wide.2 ?_
            try simp only [List.append_eq, List.cons_append, List.nil_append]
            first
            | (
            go_region_held3 (fun X => X.cell? ⟨v.heap.size, 0, none⟩ = some (.int .i64 ((r : Int) + 1)) ∧ X.cell? ⟨w.heap.size + 1, 0, none⟩ = some (.int .i64 a))
              (first
                | exact ⟨k1, k2⟩
                | exact HSTORE.out _ _ (HKEEP.out _ HB3.out)
                | exact HKEEP.out _ HB3.out
                | fail)
              ((first
                | (
                    go_at_call 13
                    refine (awake_any _).mono ?_
                    rintro e w3 ⟨rfl, hb3⟩
                    have h3 : Below W.heap.size W w3 := Below.trans (by go_grown) hb3
                    have HB3 := Lib.hid h3
                    have HJ3 := Lib.hid (HJW.out.mono h3)
                    have e6 : w3.cell? ⟨w.heap.size + 1 + 1, 0, none⟩ = some (.bool false) := (HJ3.out.r2.cell 0).trans rfl
                    have f6 : w3.frozen? ⟨w.heap.size + 1 + 1, 0, none⟩ = false := HJ3.out.r2.free 0
                    clear hb3 h3)
                | (
                    go_at_call 18
                    (with_reducible refine (len_nil _).mono ?_)
                    rintro e w' ⟨rfl, rfl⟩)
                | (
                    go_at_call 18
                    refine (len_any w1.heap.size 40 (zsI f i) ob _ HJ3.out.ff).mono ?_
                    rintro e w' ⟨rfl, rfl⟩)
                | (
                    go_at_call 15
                    (with_reducible refine (push_nil _ _).mono ?_)
                    rintro e w' ⟨rfl, rfl⟩)
                | (
                    go_at_call 19
                    (with_reducible refine (full_nil _).mono ?_)
                    rintro e w' ⟨rfl, rfl⟩)
                | (
                    go_at_call 20
                    (with_reducible refine (room_nil _).mono ?_)
                    rintro e w' ⟨rfl, rfl⟩)
                | (
                    go_at_call 21
                    (with_reducible refine (clear_nil _).mono ?_)
                    rintro e w' ⟨rfl, rfl⟩))))
            | fail
            all_goals (
              have hDW : D < W.heap.size := (Array.getElem?_eq_some_iff.1 HKD.out).1
              have hDw : w.heap.size ≤ D := by have h1 := HD.out; have h2 := hw0.out; have h3 := HJ.out.be.size; omega
              have hK6 : w3.heap[D]? = some (.deferred (some [])) := (HB3.out.block D hDW).trans HKD.out
              have hK7 := (KeepsOthers.setCell w3 ⟨w.heap.size + 1 + 1, 0, none⟩ (.bool true)).same D _ hK6 rfl
              have hc7 := cell_kept (World.cell?_setCell_same' w3 ⟨w.heap.size + 1 + 1, 0, none⟩ (.bool true) (by rw [e6]; rfl)) (grownBy_putObj' _ D (.deferred none)) (fun r e => by cases e; exact ⟨_, hK7, rfl⟩)
              gi_wp2
              refine ⟨by simp, .inl ⟨_, _, rfl, run_takeDeferred hK7, ?_⟩⟩
              refine ⟨.bool true, ?_, rfl, ((HJ3.out.be).setCell (p := ⟨w.heap.size + 1 + 1, 0, none⟩) (by simp; omega) _).trans (belowK_b (w := w) (Nat.le_refl _) _ D _ _ hDw hK7 rfl rfl)⟩
              simp [results, Try.f3, go_sem, hc7])
          · exact absurd hpre hno
end Go.Proofs.Ytenlnnhhmgjapaa.Fifo
