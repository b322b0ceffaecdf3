/- The law's stamps, all in order. -/
import Derived.Test.YtbjkeclfcccilaaHpQ
import Derived.Test.YtbjkeclfcccilaaHpLe
namespace Go.Proofs.Ytbjkeclfcccilaa.Hp
open Go.RowKit Go.Proofs.Ytbjkeclfcccilaa
set_option linter.unusedVariables false
set_option maxRecDepth 100000
/-- Between two rounds of sorted. -/
structure Srt (w wx : World) (m : List St) (i : Nat) (v3 v4 : Value) (oo oi : Option Nat) : Prop where
  out : Sl wx v3 oo (sel i m)
  rst : Sl wx v4 oi (rest i m)
  own : ∀ g, oo = some g → w.heap.size ≤ g
  dis : ∀ g, oo = some g → oi ≠ some g
  be : Below w.heap.size w wx
theorem Srt.call {w w1 w2 : World} {m : List St} {i : Nat} {v3 v4 : Value} {oo oi : Option Nat} (h : Srt w w1 m i v3 v4 oo oi) (hb : Below w1.heap.size w1 w2) : Srt w w2 m i v3 v4 oo oi :=
  ⟨h.out.turns (Turns.of_below hb) (fun _ _ x => x), h.rst.turns (Turns.of_below hb) (fun _ _ x => x), h.own, h.dis, h.be.trans (hb.mono h.be.size)⟩
set_option maxHeartbeats 4000000 in
theorem sorted_any (v : Value) (ob : Option Nat) (m : List St) (w : World) (h : Sl w v ob m) (h64 : m.length ≤ 65536) :
    Calls Try.prog 6 #[v] w fun e w' => ∃ v' ob', e = .returned v' ∧ Ml w w' v' ob' (sel m.length m) := by
  obtain ⟨n, hn⟩ : ∃ n, m.length = n := ⟨_, rfl⟩
  obtain ⟨A, c, rfl, h1, h2⟩ := h.form
  have h3 : c ≤ 9223372036854775807 := by unfold maxLen at h2; omega
  have hlt := h.lt
  rw [hn] at h h1 h64 ⊢
  have HN := Lib.hid hn
  have H0 : Hid (Srt w (w.alloc (.cells #[] 28)) m 0 (.slice (some ⟨w.heap.size, 0, none⟩) 0 0) (.slice A n c) none ob) := Lib.hid
    ⟨empty_sl _ _, h.alloc _, (fun _ e => by cases e), (fun _ e => by cases e), (Below.refl _ w).alloc (Nat.le_refl _) _⟩
  obtain ⟨i0, hi0, hz0, hz1, hz2⟩ := info_parts stamp_info
  clear h h2 hn hlt
  go_enter Try.func6, Try.ntmps6
  go_wp2
  go_loopw [3, 4, 5] (fun s3 s4 s5 wr => ∃ i : Nat, i ≤ n ∧ s5 = .int .i64 i ∧ Hid (∃ oo oi, Srt w wr m i s3 s4 oo oi)) (fun _ _ s5 _ => n - (intOf s5).toNat)
  case atStart => exact ⟨0, Nat.zero_le _, rfl, Lib.hid ⟨_, _, H0.out⟩⟩
  case round =>
    obtain ⟨i, hin, rfl, hK⟩ := hrel
    obtain ⟨oo, oi, hs⟩ := hK.out
    obtain ⟨V, rfl⟩ : ∃ V, V = wr := ⟨_, rfl⟩
    have hlo : (sel i m).length = i := sel_len i m
    have hlr : (rest i m).length = n - i := by rw [rest_len i m (by rw [HN.out]; exact hin), HN.out]
    obtain ⟨A3, c3, e3, q1, q2⟩ := hs.out.form
    obtain ⟨A4, c4, e4, q3, q4⟩ := hs.rst.form
    rw [hlo] at e3 q1
    rw [hlr] at e4 q3
    subst e3 e4
    have q5 : c3 ≤ 9223372036854775807 := by unfold maxLen at q2; omega
    have q6 : c4 ≤ 9223372036854775807 := by unfold maxLen at q4; omega
    have HS := Lib.hid hs
    have HLR := Lib.hid hlr
    have HLO := Lib.hid hlo
    clear hK hs q2 q4 hlr hlo
    by_cases hlt : i < n
    · have hii : (i : Int) < (n : Int) := by omega
      obtain ⟨k1, k2, k3⟩ := lstI_spec (m := rest i m) (by rw [HLR.out]; omega)
      obtain ⟨k, hk⟩ : ∃ k, lstI (rest i m) = k := ⟨_, rfl⟩
      have hle := least_any _ oi (rest i m) V HS.out.rst (by rw [HLR.out]; omega)
      rw [k2, hk] at hle
      rw [hk, HLR.out] at k1
      have HK := Lib.hid hk
      have HLE := Lib.hid hle
      clear k2 k3 hk hle
      go_wp2_with fail
      refine HLE.out.mono ?_
      rintro e w1 ⟨rfl, hb1⟩
      have HS1 := Lib.hid (HS.out.call hb1)
      obtain ⟨g, o, cap, e, hob, k3, k4, hcl⟩ := HS1.out.rst.at (by rw [HLR.out]; omega)
      rw [HLR.out] at e k3
      injection e with e1 e2 e5
      subst e1 e5
      obtain ⟨x, hx⟩ : ∃ x, gt (rest i m) k = x := ⟨_, rfl⟩
      obtain ⟨x0, x1, x2⟩ := hcl k (by rw [HLR.out]; exact k1)
      rw [hx] at x0 x1 x2
      have HX := Lib.hid hx
      have hki : (k : Int) < ((n - i : Nat) : Int) := by omega
      clear hb1 hcl e2 hx
      go_wp2_with (at_builtin; refine wpList_append_seg _ rfl _ _ 24 rfl 28 i0 _ 3 24 Try.underlying24 hi0 hz0 hz1 hz2 rfl (by decide) _ (sel i m).length (hcells (sel i m)) oo rfl (HS1.out.out.alloc _) ⟨w1.heap.size, 0, none⟩ 1 1 x.cells rfl rfl (news_row (Row.made w1 _ _)) (by simp [St.cells, Value.oneCell']) (by decide) (by rw [HLO.out]; unfold maxLen; omega) (by rw [HLO.out]; omega) ?_; intro v2 w5 ob2 hs2 ht2 ho2; obtain ⟨A2, cap2, rfl, hn5, hm5⟩ := hs2.form; go_frame)
      have hsel : sel i m ++ [x] = sel (i + 1) m := by rw [sel_succ, HK.out, HX.out]
      have hl2 : (sel (i + 1) m).length = (sel i m).length + 1 := by rw [sel_len, sel_len]
      have hout : Sl w5 (.slice A2 ((sel i m).length + 1) cap2) ob2 (sel (i + 1) m) := by
        unfold Sl
        rw [hl2, ← hsel, hcells_append]
        simpa [hcells] using hs2
      have hbs : Below w.heap.size w w1 := HS1.out.be
      have hgl : oi = some g → g < w1.heap.size := fun e => HS1.out.rst.lt g e
      have hb5 : Turns w1 w5 (fun k => oo = some k) := ((Turns.refl w1 (fun k => oo = some k)).alloc _).trans ht2 (fun _ _ e => e)
      have hrst : Sl w5 (.slice (some ⟨g, o, none⟩) (n - i) c4) oi (rest i m) := HS1.out.rst.turns hb5 (fun b hb e => HS1.out.dis b e hb)
      have hob2 : ∀ g, ob2 = some g → w.heap.size ≤ g ∧ oi ≠ some g := fun g' e => by
        rcases ho2 with h | ⟨g2, h, hg2⟩
        · rw [h] at e; exact ⟨HS1.out.own g' e, HS1.out.dis g' e⟩
        · rw [h] at e
          injection e with e
          subst e
          simp at hg2
          have := hbs.size
          exact ⟨by omega, fun e => by have := HS1.out.rst.lt _ e; omega⟩
      have hbe : Below w.heap.size w w5 := hb5.below hbs hbs.size (fun k hk e => by have := HS1.out.own k e; omega)
      have HO := Lib.hid hout
      have HR := Lib.hid hrst
      have HB := Lib.hid hob2
      have HE := Lib.hid hbe
      clear hout hrst hob2 hbe hs2 ht2 ho2 hsel hl2 hb5 hgl hbs
      go_wp2_with fail
      refine (without_any _ oi (rest i m) k w5 HR.out (by rw [HLR.out]; exact k1) (by rw [HLR.out]; omega)).mono ?_
      rintro e w6 ⟨v6, ob6, rfl, hm6⟩
      have HN6 : Hid (Srt w w6 m (i + 1) (.slice A2 ((sel i m).length + 1) cap2) v6 ob2 ob6) := Lib.hid
        ⟨HO.out.turns (Turns.of_below hm6.be) (fun _ _ x => x), by rw [rest_succ, HK.out]; exact hm6.sl, fun g' e => (HB.out g' e).1, fun g' e e' => by have h1 := hm6.own g' e'; have h2 := HO.out.lt g' e; omega, HE.out.trans (hm6.be.mono HE.out.size)⟩
      obtain ⟨A6, c6, rfl, _⟩ := hm6.sl.form
      clear hm6
      go_wp2
      go_roundw
      case rel => exact ⟨i + 1, by omega, by go_num, Lib.hid ⟨_, _, HN6.out⟩⟩
      case measure => simp [intOf]; omega
    · obtain rfl : i = n := by omega
      go_wp2
      go_ret
      exact ⟨_, oo, rfl, HS.out.out, HS.out.own, HS.out.be⟩
end Go.Proofs.Ytbjkeclfcccilaa.Hp
