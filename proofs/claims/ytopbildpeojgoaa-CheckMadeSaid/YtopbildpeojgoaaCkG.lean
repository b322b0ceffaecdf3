/- check.Query. -/
import Derived.Test.YtopbildpeojgoaaCkF
namespace Go.Proofs.Ytopbildpeojgoaa.Ck
open Go.RowKit Go.Proofs.Ytopbildpeojgoaa Go.Proofs.Ytopbildpeojgoaa.Sch Go.Proofs.Ytopbildpeojgoaa.Ty
set_option linter.unusedVariables false
set_option maxRecDepth 100000
/-- What is wrong with so many elements, from the k-th on. -/
noncomputable def elemsM (T : List Ty) (es : List Qe) : Nat → Nat → Int
  | 0, _ => 0
  | n + 1, k => match es[k]? with
    | some e => if elemM T es k e = 0 then elemsM T es n (k + 1) else elemM T es k e
    | none => 0
theorem elemsM_ok {T : List Ty} {es : List Qe} {n k : Nat} {e : Qe} (he : es[k]? = some e) (h : elemM T es k e = 0) : elemsM T es (n + 1) k = elemsM T es n (k + 1) := by
  show (match es[k]? with | some e => if elemM T es k e = 0 then elemsM T es n (k + 1) else elemM T es k e | none => 0) = _
  rw [he]
  dsimp only
  rw [if_pos h]
theorem elemsM_no {T : List Ty} {es : List Qe} {n k : Nat} {e : Qe} (he : es[k]? = some e) (h : ¬ elemM T es k e = 0) : elemsM T es (n + 1) k = elemM T es k e := by
  show (match es[k]? with | some e => if elemM T es k e = 0 then elemsM T es n (k + 1) else elemM T es k e | none => 0) = _
  rw [he]
  dsimp only
  rw [if_neg h]
def negAt (es : List Qe) (k : Nat) : Bool := match es[k]? with
  | some e => e.neg
  | none => false
/-- What is wrong with a query first. -/
noncomputable def queryM (T : List Ty) (es : List Qe) (win cap : Int) : Int :=
  if 8 < es.length then 5
  else if es.length = 0 ∨ negAt es 0 = true ∨ negAt es (es.length - 1) = true then 1
  else if elemsM T es es.length 0 ≠ 0 then elemsM T es es.length 0
  else if win < 1 ∨ 4294967296 < win then 13
  else if cap < 1 ∨ 1000 < cap then 5
  else 0
set_option maxHeartbeats 8000000 in
theorem query_any (p : Option Addr) (T : List Ty) (v : Value) (win cap : Int) (es : List Qe) (w : World) (hs : Sc w w.heap.size p T) (hT : ∀ t ∈ T, t.2.length ≤ 1000000) (hq : Qs w w.heap.size v es) :
    Calls Try.prog 46 #[.pointer p, .agg #[v, .int .i64 win, .int .i64 cap]] w fun e w' => e = .returned (.int .i64 (queryM T es win cap)) ∧ Below w.heap.size w w' := by
  have HS := Lib.hid (fun X (h : Below w.heap.size w X) => hs.below h h.size)
  have HQ := Lib.hid (fun X (h : Below w.heap.size w X) => hq.below h h.size)
  obtain ⟨A, c, rfl, hnc, hcm, h3⟩ := hq
  obtain ⟨R, hR⟩ : ∃ R, queryM T es win cap = R := ⟨_, rfl⟩
  have HR := Lib.hid hR
  unfold queryM at HR
  rw [hR]
  obtain ⟨n, hn⟩ : ∃ n, es.length = n := ⟨_, rfl⟩
  have HN := Lib.hid hn
  rw [hn] at HR hnc HQ ⊢
  obtain ⟨W, hW⟩ : ∃ W, w.alloc (.cells #[.slice A n c, .int .i64 win, .int .i64 cap] 67) = W := ⟨_, rfl⟩
  have hX : Below w.heap.size w W := by rw [← hW]; exact (Below.refl _ w).alloc (Nat.le_refl _) _
  have HX := Lib.hid hX
  have R3 : Hid (Row W w.heap.size 67 #[.slice A n c, .int .i64 win, .int .i64 cap]) := Lib.hid (by rw [← hW]; exact Row.made w _ _)
  have d0 : W.cell? ⟨w.heap.size, 0, none⟩ = some (.slice A n c) := (R3.out.cell 0).trans rfl
  have d1 : W.cell? ⟨w.heap.size, 1, none⟩ = some (.int .i64 win) := (R3.out.cell 1).trans rfl
  have d2 : W.cell? ⟨w.heap.size, 2, none⟩ = some (.int .i64 cap) := (R3.out.cell 2).trans rfl
  have HCE := Lib.hid (show ∀ k (h : k < es.length), ∃ g o, A = some ⟨g, o, none⟩ ∧ W.cell? ⟨g, o + k * 6 + 2, none⟩ = some (.bool (negAt es k)) from fun k hk => by
    obtain ⟨g, o, tv, pv, e, hg, _, _, c2, _⟩ := h3 k hk
    refine ⟨g, o, e, ?_⟩
    unfold negAt
    rw [List.getElem?_eq_getElem hk]
    exact (hX.cell (p := ⟨g, _, none⟩) hg).trans c2)
  clear h3 hX hs hR
  by_cases h8 : 8 < n
  · have h8' : (8 : Int) < (n : Int) := by omega
    clear hn
    go_enter Try.func46, Try.ntmps46
    go_wp2
    go_ret
    exact ⟨by rw [← HR.out, if_pos h8]; rfl, HX.out⟩
  · have h8' : ¬ (8 : Int) < (n : Int) := by omega
    have hR1 := HR.out
    rw [if_neg h8] at hR1
    have HR1 := Lib.hid hR1
    clear hR1
    by_cases hz : n = 0
    · subst hz
      clear hn
      go_enter Try.func46, Try.ntmps46
      go_wp2
      go_ret
      exact ⟨by rw [← HR1.out, if_pos (.inl (by trivial))]; rfl, HX.out⟩
    · have hz1 : ((n : Int) == 0) = false := by simp; omega
      have hz2 : (0 : Int) < (n : Int) := by omega
      obtain ⟨m, rfl⟩ : ∃ m, n = m + 1 := ⟨n - 1, by omega⟩
      obtain ⟨g, o, rfl, a2⟩ := HCE.out 0 (by omega)
      obtain ⟨g', o', e', b2⟩ := HCE.out m (by omega)
      injection e' with e'
      injection e' with e1 e2
      subst e1 e2
      obtain ⟨n0, hn0⟩ : ∃ b, negAt es 0 = b := ⟨_, rfl⟩
      obtain ⟨nl, hnl⟩ : ∃ b, negAt es m = b := ⟨_, rfl⟩
      rw [hn0] at a2 HR1
      rw [Nat.add_sub_cancel, hnl] at HR1
      rw [hnl] at b2
      have hwr : IntKind.i64.wrap (((m + 1 : Nat) : Int) - 1) = (m : Int) := by rw [IntKind.wrap_i64]; omega
      have hml : (m : Int) < ((m + 1 : Nat) : Int) := by omega
      have hm8 : m ≤ 7 := by omega
      rw [Nat.zero_mul, Nat.add_zero] at a2
      clear hn hn0 hnl HCE
      cases n0 with
      | true =>
        go_enter Try.func46, Try.ntmps46
        go_wp2
        go_ret
        exact ⟨by rw [← HR1.out, if_pos (.inr (.inl (by trivial)))]; rfl, HX.out⟩
      | false =>
        cases nl with
        | true =>
          go_enter Try.func46, Try.ntmps46
          go_wp2
          go_ret
          exact ⟨by rw [← HR1.out, if_pos (.inr (.inr (by trivial)))]; rfl, HX.out⟩
        | false =>
          have hR2 := HR1.out
          rw [if_neg (by simp)] at hR2
          have HR2 := Lib.hid hR2
          clear hR2
          go_enter Try.func46, Try.ntmps46
          go_wp2
          clear hW a2 b2
          go_loopw [36] (fun s36 wr => ∃ k : Nat, k ≤ m + 1 ∧ s36 = .int .i64 k ∧ Hid (Below W.heap.size W wr) ∧ Hid (elemsM T es (m + 1) 0 = elemsM T es (m + 1 - k) k ∧ ∀ i (h : i < es.length), i < k → 0 < es[i].ts.length ∧ es[i].ts.length ≤ 1000)) (fun s36 _ => m + 1 - (intOf s36).toNat)
          case atStart => exact ⟨0, by omega, rfl, Below.refl _ _, rfl, fun i h x => by omega⟩
          case round =>
            obtain ⟨k, hk, rfl, hb, hinv⟩ := hrel
            have R33 := Lib.hid (Row.below R3.out hb.out R3.out.lt)
            have HB3 := Lib.hid (HX.out.trans (hb.out.mono HX.out.size))
            have d0 : wr.cell? ⟨w.heap.size, 0, none⟩ = some (.slice (some ⟨g, o, none⟩) (m + 1) c) := (R33.out.cell 0).trans rfl
            have d1 : wr.cell? ⟨w.heap.size, 1, none⟩ = some (.int .i64 win) := (R33.out.cell 1).trans rfl
            have d2 : wr.cell? ⟨w.heap.size, 2, none⟩ = some (.int .i64 cap) := (R33.out.cell 2).trans rfl
            by_cases hlt : k < m + 1
            · have hkl : k < es.length := by rw [HN.out]; exact hlt
              have hek : es[k]? = some es[k] := List.getElem?_eq_getElem hkl
              have HEL := elem_any p T (.slice (some ⟨g, o, none⟩) (m + 1) c) win cap es k wr (HS.out _ HB3.out) hT (HQ.out _ HB3.out) (by rw [HN.out]; omega) hkl (fun i hi hik => hinv.out.2 i hi hik)
              obtain ⟨x, hx⟩ : ∃ x, es[k] = x := ⟨_, rfl⟩
              rw [hx] at HEL hek
              obtain ⟨r, hr⟩ : ∃ r, elemM T es k x = r := ⟨_, rfl⟩
              rw [hr] at HEL
              have HEL := Lib.hid HEL
              have HEK := Lib.hid hek
              have HXX := Lib.hid hx
              have HRR := Lib.hid hr
              have hkz : (k : Int) < ((m + 1 : Nat) : Int) := by omega
              clear hx hr hek
              go_wp2_with fail
              refine HEL.out.mono ?_
              rintro e w2 ⟨rfl, hb2⟩
              have HB2 := Lib.hid (hb.out.trans (hb2.mono hb.out.size))
              clear hb2 d0 d1 d2
              by_cases hr0 : r = 0
              · subst hr0
                go_wp2
                go_roundw
                case rel =>
                  refine ⟨k + 1, by omega, by go_num, HB2.out, ?_, fun i hi hik => ?_⟩
                  · rw [hinv.out.1, show m + 1 - k = (m + 1 - (k + 1)) + 1 by omega, elemsM_ok HEK.out HRR.out]
                  · rcases Nat.lt_or_ge i k with h | h
                    · exact hinv.out.2 i hi h
                    · obtain rfl : i = k := by omega
                      rw [HXX.out]
                      exact elemM_ts HRR.out
                case measure => simp [intOf]; omega
              · have hr0' : (r == 0) = false := by simpa using hr0
                go_wp2
                go_ret
                refine ⟨?_, HX.out.trans (HB2.out.mono HX.out.size)⟩
                have hE : elemsM T es (m + 1) 0 = r := by rw [hinv.out.1, show m + 1 - k = (m + 1 - (k + 1)) + 1 by omega, elemsM_no HEK.out (by rw [HRR.out]; exact hr0), HRR.out]
                rw [← HR2.out, hE, if_pos hr0]
                rfl
            · have hk' : k = m + 1 := by omega
              subst hk'
              have hE : elemsM T es (m + 1) 0 = 0 := by rw [hinv.out.1, Nat.sub_self]; rfl
              have hR3 := HR2.out
              rw [hE, if_neg (by decide)] at hR3
              have HR3 := Lib.hid hR3
              clear hlt hE hR3
              by_cases hw1 : win < 1
              · go_wp2
                go_ret
                exact ⟨by rw [← HR3.out, if_pos (.inl hw1)]; rfl, HB3.out⟩
              · by_cases hw2 : 4294967296 < win
                · go_wp2
                  go_ret
                  exact ⟨by rw [← HR3.out, if_pos (.inr hw2)]; rfl, HB3.out⟩
                · have hR4 := HR3.out
                  rw [if_neg (by omega)] at hR4
                  have HR4 := Lib.hid hR4
                  clear hR4
                  by_cases hc1 : cap < 1
                  · go_wp2
                    go_ret
                    exact ⟨by rw [← HR4.out, if_pos (.inl hc1)]; rfl, HB3.out⟩
                  · by_cases hc2 : 1000 < cap
                    · go_wp2
                      go_ret
                      exact ⟨by rw [← HR4.out, if_pos (.inr hc2)]; rfl, HB3.out⟩
                    · have hR5 := HR4.out
                      rw [if_neg (by omega)] at hR5
                      have HR5 := Lib.hid hR5
                      clear hR5
                      go_wp2
                      go_ret
                      exact ⟨by rw [← HR5.out]; rfl, HB3.out⟩
end Go.Proofs.Ytopbildpeojgoaa.Ck
