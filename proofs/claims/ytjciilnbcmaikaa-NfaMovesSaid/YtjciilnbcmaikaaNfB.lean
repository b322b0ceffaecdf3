/- Where beginnings may be: they are made. -/
import Derived.Test.YtjciilnbcmaikaaNfA
namespace Go.Proofs.Ytjciilnbcmaikaa.Nf
open Go.RowKit Go.Proofs.Ytjciilnbcmaikaa Go.Proofs.Ytjciilnbcmaikaa.Pa Go.Proofs.Ytjciilnbcmaikaa.Pc
set_option linter.unusedVariables false
set_option maxRecDepth 100000

/-- Where the making is: the states so far, and the element that is next (-1: none is). -/
def At (E : Nat → ElV) (n : Nat) (a : Int) (L : List (Int × Int)) : Prop := (a = -1 ∧ L = sts E n) ∨ ∃ k : Nat, a = k ∧ k < n ∧ (E k).neg = false ∧ L = sts E k
theorem At.first (E : Nat → ElV) (n : Nat) : At E n (nxt (negs E) (-1) n) (sts E 0) := by
  rcases nxt_spec (negs E) (-1) n with ⟨h, hj⟩ | ⟨r, h, hr, _, hn, hj⟩
  · exact .inl ⟨h, (sts_skip E 0 n (by omega) (fun j _ h2 => hj j h2 (by omega))).symm⟩
  · exact .inr ⟨r, h, hr, hn, (sts_skip E 0 r (by omega) (fun j _ h2 => hj j h2 (by omega))).symm⟩
theorem At.next (E : Nat → ElV) (n k : Nat) (hk : k < n) : At E n (nxt (negs E) k n) (sts E (k + 1)) := by
  rcases nxt_spec (negs E) k n with ⟨h, hj⟩ | ⟨r, h, hr, ha, hn, hj⟩
  · exact .inl ⟨h, (sts_skip E (k + 1) n (by omega) (fun j h1 h2 => hj j h2 (by omega))).symm⟩
  · exact .inr ⟨r, h, hr, hn, (sts_skip E (k + 1) r (by omega) (fun j h1 h2 => hj j h2 (by omega))).symm⟩
def lexM (n : Nat) (a : Int) : Nat := if a < 0 then 0 else (n - a.toNat) + 1
theorem LE.alike {w w0 : World} {g o n g' o' : Nat} {E E' : Nat → ElV} {T N : Nat → Nat → Value} (h : Copied w0 w g o n E E' T N) : ∀ k, k < n → negs E' k = negs E k ∧ (E' k).mn = (E k).mn ∧ (E' k).mx = (E k).mx := fun k hk => ⟨(h.al k hk).2.1, (h.al k hk).2.2.1, (h.al k hk).2.2.2.1⟩
theorem lexM_lt (E : Nat → ElV) (n k : Nat) (hk : k < n) : lexM n (nxt (negs E) k n) < lexM n k := by
  rcases nxt_spec (negs E) k n with ⟨h, _⟩ | ⟨r, h, hr, ha, _, _⟩
  · rw [h]; unfold lexM; simp; split <;> omega
  · rw [h]; unfold lexM; rw [if_neg (by omega), if_neg (by omega)]; omega
theorem NF.base {w w' : World} {x : Obj} {nb g o n c : Nat} {win cap : Int} {E : Nat → ElV} {v : Value} {L : List (Int × Int)} (h : NF (w.alloc x) w' nb g o n c win cap E v L) : NF w w' nb g o n c win cap E v L := by
  obtain ⟨ob, h1, h2⟩ := h.sg
  have hg := h.ge
  simp at hg
  exact ⟨h.row, h.le, ⟨ob, h1, fun b hb => by have := h2 b hb; simp at this; exact ⟨by omega, this.2⟩⟩, ((Below.refl _ w).alloc (Nat.le_refl _) x).trans (h.be.mono (by simp)), by omega, by omega, hg.2.2⟩
set_option maxHeartbeats 8000000 in
theorem new_any (g0 o0 n c0 : Nat) (win cap : Int) (E : Nat → ElV) (T N : Nat → Nat → Value) (w : World) (h : LE w g0 o0 n E) (hc : ∀ k, k < n → Co w (fun _ => True) (E k) (T k) (N k)) (h1 : ∀ k j, (T k j).oneCell' = true ∧ (N k j).oneCell' = true) (hn : 0 < n) (hm : n ≤ 100) (hx : ∀ k, k < n → 1 ≤ (E k).mx ∧ (E k).mx ≤ 4) :
    Calls Try.prog 50 #[.agg #[.slice (some ⟨g0, o0, none⟩) n c0, .int .i64 win, .int .i64 cap]] w fun e w' => ∃ nb g o c E' v, e = .returned (.pointer (some ⟨nb, 0, none⟩)) ∧ NF w w' nb g o n c win cap E' v (sts E n) ∧ ∀ k, k < n → Pc.Alike (E' k) (E k) := by
  have H1 := Lib.hid h1
  have HX := Lib.hid hx
  have hh : ∀ wr, Below (w.alloc (.cells #[.slice (some ⟨g0, o0, none⟩) n c0, .int .i64 win, .int .i64 cap] 43)).heap.size (w.alloc (.cells #[.slice (some ⟨g0, o0, none⟩) n c0, .int .i64 win, .int .i64 cap] 43)) wr → LE wr g0 o0 n E ∧ wr.cell? ⟨w.heap.size, 0, none⟩ = some (.slice (some ⟨g0, o0, none⟩) n c0) ∧ wr.cell? ⟨w.heap.size, 1, none⟩ = some (.int .i64 win) ∧ wr.cell? ⟨w.heap.size, 2, none⟩ = some (.int .i64 cap) ∧ w.heap.size < wr.heap.size := fun wr hb =>
    have r := (Row.made w 43 #[.slice (some ⟨g0, o0, none⟩) n c0, .int .i64 win, .int .i64 cap]).below hb (by simp)
    ⟨(h.alloc _).call hb, r.cell 0, r.cell 1, r.cell 2, r.lt⟩
  have HH := Lib.hid hh
  have HC2 : Hid (∀ k, k < n → Co (w.alloc (.cells #[.slice (some ⟨g0, o0, none⟩) n c0, .int .i64 win, .int .i64 cap] 43)) (fun _ => True) (E k) (T k) (N k)) := fun k hk => (hc k hk).call ((Below.refl _ w).alloc (Nat.le_refl _) _)
  have HL0 := Lib.hid (h.alloc (.cells #[.slice (some ⟨g0, o0, none⟩) n c0, .int .i64 win, .int .i64 cap] 43))
  clear h hc h1 hx hh
  obtain ⟨i0, hi0, hz0, hz1, hz2⟩ := info_parts state_info
  go_enter Try.func50, Try.ntmps50
  go_wp2_with fail
  refine (copy_any g0 o0 n c0 win cap E T N _ HL0.out HC2.out H1.out hn (by omega)).mono ?_
  rintro e w1 ⟨g, o, c, E', rfl, hcp⟩
  have HAL := Lib.hid hcp.al
  have HN : Hid (NF (w.alloc (.cells #[.slice (some ⟨g0, o0, none⟩) n c0, .int .i64 win, .int .i64 cap] 43)) ((w1.alloc (.cells #[.int .i64 0, .int .i64 0] 90)).alloc (.cells #[.slice (some ⟨g, o, none⟩) n c, .int .i64 win, .int .i64 cap, .slice (some ⟨w1.heap.size, 0, none⟩) 1 1] 163)) (w1.heap.size + 1) g o n c win cap E' (.slice (some ⟨w1.heap.size, 0, none⟩) 1 1) (sts E 0)) := by
    have z := hcp.le.lt
    have zg := hcp.ge
    have zs := hcp.be.size
    have zw : w.heap.size + 1 ≤ w1.heap.size := by simpa using zs
    simp at zg
    refine ⟨?_, (hcp.le.alloc _).alloc _, ⟨some w1.heap.size, ⟨rfl, _, 1, rfl, by simp [sts], by unfold maxLen; omega, .inr ⟨w1.heap.size, 0, _, rfl, rfl, (Row.made w1 90 #[.int .i64 0, .int .i64 0]).alloc _, by simp, rfl⟩⟩, fun b hb => ?_⟩, (hcp.be.alloc zs _).alloc (by simp; omega) _, by simp; omega⟩
    · have := Row.made (w1.alloc (.cells #[.int .i64 0, .int .i64 0] 90)) 163 #[.slice (some ⟨g, o, none⟩) n c, .int .i64 win, .int .i64 cap, .slice (some ⟨w1.heap.size, 0, none⟩) 1 1]
      rw [World.size_alloc] at this
      exact this
    · injection hb with hb; simp; omega
  clear hcp HL0 HC2
  go_upto_region 2 with fail
  generalize (w1.alloc (.cells #[.int .i64 0, .int .i64 0] 90)).alloc (.cells #[.slice (some ⟨g, o, none⟩) n c, .int .i64 win, .int .i64 cap, .slice (some ⟨w1.heap.size, 0, none⟩) 1 1] 163) = wa at HN ⊢
  obtain ⟨hl, c00, c01, c02, cl⟩ := HH.out _ HN.out.be
  generalize w1.heap.size + 1 = nb at HN ⊢
  generalize Value.slice (some ⟨w1.heap.size, 0, none⟩) 1 1 = v0 at HN ⊢
  go_wp2_with fail
  refine (next_any g0 o0 n c0 win cap (-1) E _ hl (by omega) (by omega)).mono ?_
  rintro e w2 ⟨rfl, hb⟩
  have HN2 := Lib.hid (HN.out.call hb)
  have HA := Lib.hid (At.first E n)
  clear hl c00 c01 c02 cl hb HN
  obtain ⟨n0, n1⟩ := nxt_lo (negs E) (-1) n
  generalize nxt (negs E) (-1) n = a0 at HA n0 n1 ⊢
  go_wp2
  go_loopw [4] (fun s wr => ∃ a : Int, -1 ≤ a ∧ a < (n : Int) ∧ s = .int .i64 a ∧ Hid (∃ v L, At E n a L ∧ NF (w.alloc (.cells #[.slice (some ⟨g0, o0, none⟩) n c0, .int .i64 win, .int .i64 cap] 43)) wr nb g o n c win cap E' v L)) (fun s _ => lexM n (intOf s))
  case atStart => exact ⟨a0, n0, n1, rfl, _, _, HA.out, HN2.out⟩
  case round =>
    clear HA HN2 n0 n1
    obtain ⟨a, n0, n1, rfl, hA⟩ := hrel
    obtain ⟨v, L, hA, hN⟩ := hA.out
    have HN := Lib.hid hN
    clear hN
    rcases hA with ⟨rfl, rfl⟩ | ⟨k, rfl, hk, hng, rfl⟩
    · go_wp2
      go_ret
      exact ⟨nb, g, o, c, E', v, rfl, HN.out.base, HAL.out⟩
    · obtain ⟨m1, m4⟩ := HX.out k hk
      obtain ⟨m, hmx⟩ : ∃ m : Nat, (E k).mx = (m : Int) := ⟨(E k).mx.toNat, by omega⟩
      have hm1 : 1 ≤ m := by omega
      have hm4 : m ≤ 4 := by omega
      have HMX := Lib.hid hmx
      have HLN := Lib.hid (sts_len E n (fun q hq => (HX.out q hq).2) k (by omega))
      have HNG := Lib.hid hng
      clear m1 m4 hmx hA hng
      have hki : (0 : Int) ≤ (k : Int) := by omega
      obtain ⟨wo, rfl⟩ : ∃ wo : World, wo = wr := ⟨_, rfl⟩
      have HI : Hid (∃ v, NF (w.alloc (.cells #[.slice (some ⟨g0, o0, none⟩) n c0, .int .i64 win, .int .i64 cap] 43)) wo nb g o n c win cap E' v (sts E k ++ elemS E k 0)) := ⟨v, by have := HN.out; simpa [elemS] using this⟩
      clear HN
      go_wp2
      go_loopw [5] (fun s wr => ∃ j : Nat, j ≤ m ∧ s = .int .i64 ((j : Int) + 1) ∧ Hid (∃ v, NF (w.alloc (.cells #[.slice (some ⟨g0, o0, none⟩) n c0, .int .i64 win, .int .i64 cap] 43)) wr nb g o n c win cap E' v (sts E k ++ elemS E k j))) (fun s _ => m + 1 - (intOf s).toNat)
      case atStart => exact ⟨0, by omega, rfl, HI⟩
      case round =>
        clear HI
        obtain ⟨j, hj, rfl, hI⟩ := hrel
        obtain ⟨v, hN⟩ := hI.out
        have HN := Lib.hid hN
        clear hN hI
        obtain ⟨hl, c00, c01, c02, cl⟩ := HH.out _ HN.out.be
        have c4 : wr.cell? ⟨g0, o0 + k * 6 + 4, none⟩ = some (.int .i64 m) := by rw [← HMX.out]; exact hl.cell hk (j := 4) (by omega)
        have ll := hl.lt
        by_cases hjm : j < m
        · have hjm2 : (j : Int) + 1 ≤ (m : Int) := by omega
          obtain ⟨ob, hs, hob⟩ := HN.out.sg
          have d3 : wr.cell? ⟨nb, 3, none⟩ = some v := HN.out.row.cell 3
          have dl := HN.out.row.lt
          have HS := Lib.hid hs
          have HOB := Lib.hid hob
          have hln : (sts E k ++ elemS E k j).length ≤ 500 := by rw [List.length_append, elemS_len]; have := HLN.out; omega
          have HL2 := Lib.hid hl
          obtain ⟨L, hL⟩ : ∃ L, sts E k ++ elemS E k j = L := ⟨_, rfl⟩
          have HNL := HN
          clear hs hob hl HN
          rw [hL] at HS hln HNL
          have HLE := Lib.hid hL
          have HN := HNL
          clear hL HNL
          rcases (show m = 4 ∨ m < 4 from by omega) with h4 | h4
          all_goals
            go_wp2_with (at_builtin; refine wpList_append_seg _ rfl _ _ 93 rfl 90 i0 _ 2 16 Try.underlying93 hi0 hz0 hz1 hz2 rfl (by decide) _ _ _ _ rfl (HS.out.alloc _) ⟨wr.heap.size, 0, none⟩ 1 1 [.int .i64 k, .int .i64 ((j : Int) + 1)] rfl rfl (two_news _ _ _ _ rfl) (by simp [Value.oneCell']) (by decide) (by unfold maxLen; omega) (by omega) ?_; intro v2 w2 ob2 hs2 ht2 ho2; obtain ⟨A2, c2, rfl, _, _⟩ := hs2.form; have q2 := ((HN.out.row).alloc (.cells #[.int .i64 k, .int .i64 ((j : Int) + 1)] 90)).turns ht2 (fun x => (HOB.out _ x).2.1 rfl); have k3 : w2.cell? ⟨nb, 3, none⟩ = some v := q2.cell 3; have kf := q2.free 3; have HS3 := Lib.hid hs2; have HT3 := Lib.hid ht2; have HO3 := Lib.hid ho2; clear hs2 ht2 ho2 q2)
            go_roundw
            case measure => simp [intOf]; omega
            case rel => exact ⟨j + 1, by omega, by go_num, by rw [elemS_succ, ← List.append_assoc, HLE.out]; exact ⟨_, HN.out.more (s := ((k : Int), (j : Int) + 1)) HOB.out ((Below.refl _ wr).alloc (Nat.le_refl _) _) HS3.out HT3.out HO3.out⟩⟩
        · obtain rfl : j = m := by omega
          have HF : Hid (NF (w.alloc (.cells #[.slice (some ⟨g0, o0, none⟩) n c0, .int .i64 win, .int .i64 cap] 43)) wr nb g o n c win cap E' v (sts E (k + 1))) := by
            show NF _ _ _ _ _ _ _ _ _ _ _ _
            have h := HN.out
            simp only [sts, HNG.out, HMX.out, Int.toNat_natCast]
            simpa using h
          have HL2 := Lib.hid hl
          have HA := Lib.hid (At.next E n k hk)
          have HME : Hid (lexM n (intOf (.int .i64 (nxt (negs E) k n))) < lexM n (intOf (.int .i64 k))) := lexM_lt E n k hk
          obtain ⟨q0, q1⟩ := nxt_lo (negs E) k n
          clear hl
          rcases (show j = 4 ∨ j < 4 from by omega) with h4 | h4
          all_goals
            go_wp2_with fail
            refine (next_any g0 o0 n c0 win cap k E _ HL2.out (by omega) (by omega)).mono ?_
            rintro e w3 ⟨rfl, hb⟩
            have HF3 := Lib.hid (HF.out.call hb)
            clear hb
            go_wp2
            go_roundw
            case measure => exact HME.out
            case rel => exact ⟨_, q0, q1, rfl, _, _, HA.out, HF3.out⟩
end Go.Proofs.Ytjciilnbcmaikaa.Nf
