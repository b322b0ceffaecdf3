/- The walk of the law GateEnds. -/
import Derived.Test.YtmkofjdmjilpiaaGateB
import Derived.Test.YtmkofjdmjilpiaaOpen
import Derived.Test.YtmkofjdmjilpiaaBits
import Derived.Deep.DeepCutAuto
namespace Go.Proofs.Ytmkofjdmjilpiaa.Gate
open Go.RowKit Go.Proofs.Ytmkofjdmjilpiaa Go.Maps
set_option linter.unusedVariables false

/-- What holds between two rounds: of the first k nobody else is inside. -/
structure Md (w0 w : World) (k : Nat) (S : Nat → Bool) (cl : Bool) : Prop where
  li : ∃ D c, LI w0 w (w0.heap.size + 1) w0.heap.size D c cl ∧ Ins D S ∧ c ≤ 8
  out : ∀ x, k ≤ x → S x = false
theorem sev {x : Nat} {k : Nat} (h : x < k) (hk : k < 8) : x < 8 := by omega
set_option maxRecDepth 100000 in
set_option maxHeartbeats 4000000 in
theorem ends_law (a : Int) (wa : (Lit.int .i64 a).wf = true) (A : Option Addr) (n c : Nat) (f : Nat → Int) (ln : n ≤ c) (lc : c ≤ 9223372036854775807) (lb : ∀ k, -9223372036854775808 ≤ f k ∧ f k ≤ 9223372036854775807)
    (w : World) (lies : Lies w w.heap.size A n (fun k => .int .i64 (f k))) :
    Calls Try.prog 14 #[.int .i64 a, .slice A n c] w fun e w' => e = .returned (.bool true) ∧ Below w.heap.size w w' := by
  clear wa
  have HL := Lib.hid lies
  clear lies lb
  obtain ⟨k, hk, hk8⟩ : ∃ k : Nat, bits .and .i64 a 7 = (k : Int) ∧ k < 8 := ⟨(a % 8).toNat, by rw [and7]; omega, by omega⟩
  go_enter Try.func14, Try.ntmps14
  go_wp2_with fail
  refine (new_any _).mono ?_
  rintro e w1 ⟨rfl, hg, hb⟩
  have L := Lib.hid (li_new hg hb)
  clear hg hb
  go_wp2
  clear hk
  go_loopw [7] (fun i wr => ∃ q : Nat, q ≤ k ∧ i = .int .i64 q ∧ Hid (∃ D, LI w wr (w.heap.size + 1) w.heap.size D q false ∧ Ins D (fun x => decide (x < q)))) (fun i _ => k - (intOf i).toNat)
  case atStart => exact ⟨0, by omega, rfl, _, L.out, Ins.start.congr (fun x _ => by simp)⟩
  case round =>
    obtain ⟨q, hq, rfl, hd⟩ := hrel
    obtain ⟨D, hl, hi⟩ := hd.out
    have HL1 := Lib.hid hl
    have HI := Lib.hid hi
    by_cases hlt : q < k
    · have hno : Maps.has D (Ki (q : Int)) = false := by rw [hi.has q (by omega)]; simp
      have HNO := Lib.hid hno
      clear hl hi hno hd
      go_wp2_with fail
      refine (enter_new _ _ q D false _ HL1.out.gt q (by omega) rfl HNO.out (by omega)).mono ?_
      rintro e w2 ⟨rfl, hg, ht⟩
      have HL2 := Lib.hid (HL1.out.turn hg ht)
      clear hg ht
      go_wp2
      go_roundw
      case measure => simp [intOf]; omega
      case rel => exact ⟨q + 1, by omega, by go_num, _, HL2.out, (HI.out.put (x := q) (by omega) (by simp)).congr (fun x hx => by
        unfold upd
        by_cases e : x = q
        · subst e; simp
        · rw [if_neg e, Bool.eq_iff_iff]; simp; omega)⟩
    · obtain rfl : q = k := by omega
      clear hl hi hd
      go_wp2_with fail
      refine (close_any _ _ _ _ _ _ HL1.out.gt).mono ?_
      rintro e w2 ⟨rfl, hg, ht⟩
      have HM : Hid (Md w w2 q (fun x => decide (x < q)) true) := ⟨⟨_, _, HL1.out.turnB hg ht, HI.out, by omega⟩, fun x hx => by simp; omega⟩
      have HC := Lib.hid (cnt8_first hk8)
      clear hg ht HL1 HI
      go_wp2
      go_loopw [8, 9] (fun l i wr => ∃ (j : Nat) (S : Nat → Bool), j ≤ n ∧ j ≤ 20 ∧ i = .int .i64 j ∧ l = .int .i64 (cnt8 S) ∧ Hid (Md w wr q S true)) (fun _ i _ => n - (intOf i).toNat)
      case atStart => exact ⟨0, _, by omega, by omega, rfl, i64_of (by rw [HC.out]), HM⟩
      case round =>
        clear HM HC
        obtain ⟨j, S, hj, hj20, rfl, rfl, hm⟩ := hrel
        have hc8 := cnt8_le S
        obtain ⟨D, c', hl, hi, hc'⟩ := hm.out.li
        have HL1 := Lib.hid hl
        have HI := Lib.hid hi
        clear hl hi
        by_cases hjn : j < n ∧ j < 20
        · obtain ⟨hjn, h20⟩ := hjn
          have e20 : decide ((j : Int) < 20) = true := by simp; omega
          obtain ⟨g, o, rfl, hg, hcell⟩ := HL.out j hjn
          have hcj := (HL1.out.be.cell (p := ⟨g, o + j, none⟩) hg).trans hcell
          obtain ⟨v, hv, hv8⟩ : ∃ v : Nat, bits .and .i64 (f j) 7 = (v : Int) ∧ v < 8 := ⟨(f j % 8).toNat, by rw [and7]; omega, by omega⟩
          clear hcell
          cases hS : S v with
          | true =>
            have HS := Lib.hid hS
            have HH : Hid (Maps.has D (Ki (v : Int)) = true) := (HI.out.has v hv8).trans hS
            clear hS
            go_wp2_with fail
            refine (leave_yes _ _ _ D true _ HL1.out.gt v (by omega) HH.out).mono ?_
            rintro e w3 ⟨rfl, hg3, ht3⟩
            have HL2 := Lib.hid (HL1.out.turn hg3 ht3)
            have HI2 := Lib.hid (HI.out.del hv8 HS.out)
            have HCN := Lib.hid (cnt8_unset hv8 HS.out)
            have HCE : Hid ((cnt8 S : Int) - 1 = (cnt8 (upd S v false) : Nat)) := by have := HCN.out; show (cnt8 S : Int) - 1 = (cnt8 (upd S v false) : Nat); omega
            have HDN : Hid ((true && decide (Maps.size (D.del (Ki (v : Int))) = 0)) = ((cnt8 (upd S v false) : Int) == 0)) := by
              show (true && decide (Maps.size (D.del (Ki (v : Int))) = 0)) = ((cnt8 (upd S v false) : Int) == 0)
              rw [HI2.out.size, Bool.eq_iff_iff]; simp
            clear hg3 ht3
            have hp1 : 1 ≤ cnt8 S := by have := HCN.out; omega
            go_upto_region 13 with fail
            rw [HCE.out]
            go_wp2_with fail
            refine (done_any _ _ _ _ _ _ HL2.out.gt _ HDN.out).mono ?_
            rintro e w' ⟨rfl, rfl⟩
            go_wp2
            go_roundw
            case measure => simp [intOf]; omega
            case rel => exact ⟨j + 1, upd S v false, by omega, by omega, by go_num, rfl, ⟨_, _, HL2.out, HI2.out, hc'⟩, fun x hx => by
              unfold upd
              by_cases e : x = v
              · rw [if_pos e]
              · rw [if_neg e]; exact hm.out.out x hx⟩
          | false =>
            have HH : Hid (Maps.has D (Ki (v : Int)) = false) := (HI.out.has v hv8).trans hS
            have HDN : Hid ((true && decide (Maps.size D = 0)) = ((cnt8 S : Int) == 0)) := by
              show (true && decide (Maps.size D = 0)) = ((cnt8 S : Int) == 0)
              rw [HI.out.size, Bool.eq_iff_iff]; simp
            clear hS
            go_wp2_with fail
            refine (leave_no _ _ _ D true _ HL1.out.gt v (by omega) HH.out).mono ?_
            rintro e w3 ⟨rfl, hb3⟩
            have HL2 := Lib.hid (HL1.out.call hb3)
            clear hb3
            go_wp2_with fail
            refine (done_any _ _ _ _ _ _ HL2.out.gt _ HDN.out).mono ?_
            rintro e w' ⟨rfl, rfl⟩
            go_wp2
            go_roundw
            case measure => simp [intOf]; omega
            case rel => exact ⟨j + 1, S, by omega, by omega, by go_num, rfl, ⟨_, _, HL2.out, HI.out, hc'⟩, hm.out.out⟩
        · by_cases hjn' : j < n
          all_goals
            try have e20 : decide ((j : Int) < 20) = false := by simp; omega
            clear hjn
            go_wp2
            go_loopw [8, 10] (fun l i wx => ∃ (p : Nat) (S : Nat → Bool), p ≤ q ∧ i = .int .i64 p ∧ l = .int .i64 (cnt8 S) ∧ Hid (Md w wx q S true) ∧ Hid (∀ x, x < p → S x = false)) (fun _ i _ => q - (intOf i).toNat)
            case atStart => exact ⟨0, S, by omega, rfl, rfl, hm, fun _ h => absurd h (by omega)⟩
            case round =>
              clear hm HL1 HI hc8
              obtain ⟨p, T, hp, rfl, rfl, hm, hz⟩ := hrel
              have hc8 := cnt8_le T
              obtain ⟨D, c', hl, hi, hc'⟩ := hm.out.li
              have HL1 := Lib.hid hl
              have HI := Lib.hid hi
              clear hl hi
              by_cases hpq : p < q
              · cases hS : T p with
                | true =>
                  have HS := Lib.hid hS
                  have HH : Hid (Maps.has D (Ki (p : Int)) = true) := (HI.out.has p (by omega)).trans hS
                  clear hS
                  go_wp2_with fail
                  refine (leave_yes _ _ _ D true _ HL1.out.gt p (by omega) HH.out).mono ?_
                  rintro e w3 ⟨rfl, hg3, ht3⟩
                  have HL2 := Lib.hid (HL1.out.turn hg3 ht3)
                  have HI2 := Lib.hid (HI.out.del (x := p) (by omega) HS.out)
                  have HCN := Lib.hid (cnt8_unset (show p < 8 by omega) HS.out)
                  have hp1 : 1 ≤ cnt8 T := by have := HCN.out; omega
                  clear hg3 ht3
                  go_wp2
                  go_roundw
                  case measure => simp [intOf]; omega
                  case rel => exact ⟨p + 1, upd T p false, by omega, by go_num, i64_of (by have := HCN.out; omega), ⟨⟨_, _, HL2.out, HI2.out, hc'⟩, fun x hx => by
                    unfold upd
                    by_cases e : x = p
                    · rw [if_pos e]
                    · rw [if_neg e]; exact hm.out.out x hx⟩, fun x hx => by
                    unfold upd
                    by_cases e : x = p
                    · rw [if_pos e]
                    · rw [if_neg e]; exact hz.out x (by omega)⟩
                | false =>
                  have HS := Lib.hid hS
                  have HH : Hid (Maps.has D (Ki (p : Int)) = false) := (HI.out.has p (by omega)).trans hS
                  clear hS
                  go_wp2_with fail
                  refine (leave_no _ _ _ D true _ HL1.out.gt p (by omega) HH.out).mono ?_
                  rintro e w3 ⟨rfl, hb3⟩
                  have HL2 := Lib.hid (HL1.out.call hb3)
                  clear hb3
                  go_wp2
                  go_roundw
                  case measure => simp [intOf]; omega
                  case rel => exact ⟨p + 1, T, by omega, by go_num, rfl, ⟨⟨_, _, HL2.out, HI.out, hc'⟩, hm.out.out⟩, fun x hx => by
                    by_cases e : x = p
                    · rw [e]; exact HS.out
                    · exact hz.out x (by omega)⟩
              · have h0 : cnt8 T = 0 := cnt8_zero (fun x hx => by
                  by_cases e : x < p
                  · exact hz.out x e
                  · exact hm.out.out x (by omega))
                have HDN : Hid ((true && decide (Maps.size D = 0)) = true) := by
                  show (true && decide (Maps.size D = 0)) = true
                  rw [HI.out.size, h0]; rfl
                rw [h0]
                clear h0 hc8
                go_wp2_with fail
                refine (awake_any _).mono ?_
                rintro e w3 ⟨rfl, hb3⟩
                have HL2 := Lib.hid (HL1.out.call hb3)
                clear hb3
                go_wp2_with fail
                refine (done_any _ _ _ _ _ _ HL2.out.gt _ HDN.out).mono ?_
                rintro e w' ⟨rfl, rfl⟩
                go_wp2
                go_ret
                exact ⟨rfl, HL2.out.be⟩
end Go.Proofs.Ytmkofjdmjilpiaa.Gate
