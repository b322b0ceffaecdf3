/- pat.Scope. -/
import Derived.Test.YtopbildpeojgoaaCkC
namespace Go.Proofs.Ytopbildpeojgoaa.Ck
open Go.RowKit Go.Proofs.Ytopbildpeojgoaa Go.Proofs.Ytopbildpeojgoaa.Sch Go.Proofs.Ytopbildpeojgoaa.Ty
set_option linter.unusedVariables false
set_option maxRecDepth 100000
set_option maxHeartbeats 8000000 in
theorem scope_any (v : Value) (win cap : Int) (es : List Qe) (at' : Nat) (w : World) (hq : Qs w w.heap.size v es) (hn : es.length ≤ 1000) (ha : at' < es.length) (h0 : ∀ i (h : i < es.length), i ≤ at' → 0 < es[i].ts.length ∧ es[i].ts.length ≤ 1000) :
    Calls Try.prog 37 #[.agg #[v, .int .i64 win, .int .i64 cap], .int .i64 (at' : Int)] w fun e w' => ∃ u, e = .returned u ∧ Bs w' w'.heap.size u (scopeM es at') ∧ Below w.heap.size w w' := by
  have hX : Below w.heap.size w (w.alloc (.cells #[v, .int .i64 win, .int .i64 cap] 67)) := (Below.refl _ w).alloc (Nat.le_refl _) _
  have HX := Lib.hid hX
  have HQ := Lib.hid (hq.below hX hX.size)
  have H0 := Lib.hid h0
  obtain ⟨i0, hi0, hz0, hz1, hz2⟩ := info_parts bind_info
  obtain ⟨A, c, rfl, hnc, hcm, _⟩ := hq
  clear hX h0
  go_enter Try.func37, Try.ntmps37
  go_wp2
  generalize hW : w.alloc (.cells #[.slice A es.length c, .int .i64 win, .int .i64 cap] 67) = W at HX HQ ⊢
  clear hW
  have HSTART : Hid (SP W W (.slice none 0 0) []) := Lib.hid ⟨none, seg_zeroK _ _ _ _, fun g e => (by cases e), fun p hp => (by cases hp), Below.refl _ _⟩
  go_loopw [5, 11] (fun s5 s11 wr => ∃ k : Nat, k ≤ es.length ∧ s11 = .int .i64 k ∧ Hid (Below W.heap.size W wr) ∧ Hid (∃ ps, binds ps = scopeK es at' k ∧ SP W wr s5 ps ∧ ps.length ≤ k)) (fun _ s11 _ => es.length - (intOf s11).toNat)
  case atStart => exact ⟨0, by omega, rfl, Below.refl _ _, ⟨[], rfl, HSTART.out, Nat.le_refl _⟩⟩
  case round =>
    obtain ⟨k, hk, rfl, hb, hps⟩ := hrel
    by_cases hlt : k < es.length
    · obtain ⟨A', c', e1, _, _, h3⟩ := HQ.out.below hb.out hb.out.size
      injection e1 with e1 _ e3
      subst e1 e3
      obtain ⟨g, o, tv, pv, rfl, hg, c0, c1, c2, c3, c4, c5, hsl, hns⟩ := h3 k hlt
      have hpos := H0.out k hlt
      have hek : es[k]? = some es[k] := List.getElem?_eq_getElem hlt
      obtain ⟨x, hx⟩ : ∃ x, es[k] = x := ⟨_, rfl⟩
      rw [hx] at c0 c2 c3 c4 hsl hns hpos hek
      obtain ⟨xv, xt, xn, xa, xb, xp⟩ := x
      dsimp only at c0 c2 c3 c4 hsl hns hpos
      have HEK := Lib.hid hek
      have HSL := Lib.hid hsl
      have HPOS := Lib.hid hpos
      obtain ⟨tA, tc, rfl, _, _, _⟩ := hsl
      obtain ⟨pA, pc, rfl, _, _, _⟩ := hns
      obtain ⟨ps, hbs, ⟨ob, hsp⟩, hpl⟩ := hps.out
      have HBS := Lib.hid hbs
      have HSP := Lib.hid hsp
      have HPL := Lib.hid hpl
      have hkz : (k : Int) < (es.length : Int) := by omega
      obtain ⟨tl, htl⟩ : ∃ tl, tl = xt.length := ⟨_, rfl⟩
      obtain ⟨pl, hpl'⟩ : ∃ pl, pl = xp.length := ⟨_, rfl⟩
      rw [← htl] at c1
      rw [← hpl'] at c5
      have HTL := Lib.hid htl
      clear h3 hx hek hpos hps hbs hsp hpl hpl' htl
      by_cases hc : k = at' ∨ (k < at' ∧ xn = false ∧ xb = 1)
      · have HC := Lib.hid hc
        have hea : k ≤ at' := by omega
        obtain ⟨he0, he1⟩ := HPOS.out hea
        have hX2 : Below wr.heap.size wr (wr.alloc (.cells #[.string xv, .slice tA tl tc, .bool xn, .int .i64 xa, .int .i64 xb, .slice pA pl pc] 73)) := (Below.refl _ wr).alloc (Nat.le_refl _) _
        have HX2 := Lib.hid hX2
        have hcl : ∀ X, Below (wr.alloc (.cells #[.string xv, .slice tA tl tc, .bool xn, .int .i64 xa, .int .i64 xb, .slice pA pl pc] 73)).heap.size (wr.alloc (.cells #[.string xv, .slice tA tl tc, .bool xn, .int .i64 xa, .int .i64 xb, .slice pA pl pc] 73)) X → Calls Try.prog 100 #[.slice tA tl tc] X fun e w' => ∃ v', e = .returned v' ∧ SLp w' (fun g => X.heap.size ≤ g) v' xt ∧ Below X.heap.size X w' := fun X h => by
          have h2 := hX2.trans (h.mono hX2.size)
          rw [HTL.out]
          exact clone_any _ xt X (HSL.out.below h2 h2.size) he0 he1
        have HCL := Lib.hid hcl
        have HROW : Hid (Row (wr.alloc (.cells #[.string xv, .slice tA tl tc, .bool xn, .int .i64 xa, .int .i64 xb, .slice pA pl pc] 73)) wr.heap.size 73 #[.string xv, .slice tA tl tc, .bool xn, .int .i64 xa, .int .i64 xb, .slice pA pl pc]) := Lib.hid (Row.made wr _ _)
        clear hX2 hcl he0 he1 hc
        rcases Decidable.em (k = at') with h1 | h1
        · subst h1
          go_upto_region 6 with fail
          generalize hW1 : wr.alloc (.cells _ 73) = W1 at HX2 HCL HROW ⊢
          have e0 : W1.cell? ⟨wr.heap.size, 0, none⟩ = some (.string xv) := (HROW.out.cell 0).trans rfl
          have e1 : W1.cell? ⟨wr.heap.size, 1, none⟩ = some (.slice tA tl tc) := (HROW.out.cell 1).trans rfl
          clear hW1
          go_region_law (first
            | (go_simp
               go_at_call 100
               refine (HCL.out _ (by go_grown)).mono ?_
               rintro e w1 ⟨v', rfl, hsl1, hb1⟩
               have hb2 : Below W1.heap.size W1 w1 := (show Below W1.heap.size W1 _ from by go_grown).trans (hb1.mono (show Below W1.heap.size W1 _ from by go_grown).size)
               have hb3 : Below wr.heap.size wr w1 := HX2.out.trans (hb2.mono HX2.out.size)
               have HSL1 : Hid (SLp w1 (fun g => wr.heap.size ≤ g) v' xt) := Lib.hid (hsl1.turns (Turns.refl w1 (fun _ => False)) (fun g _ x => ⟨fun y => y, Nat.le_trans HX2.out.size (Nat.le_trans (show Below W1.heap.size W1 _ from by go_grown).size x)⟩))
               have HSP1 := Lib.hid (HSP.out.call hb3)
               have HB3 := Lib.hid hb3
               have r0 : w1.cell? ⟨wr.heap.size, 0, none⟩ = some (.string xv) := (hb2.cell (p := ⟨wr.heap.size, 0, none⟩) HROW.out.lt).trans e0
               obtain ⟨A1, c1', rfl, _, _, _⟩ := hsl1
               clear hb1 hb2 hb3)
            | (refine step_append_seg (xs := pcells ps) (n := ps.length) (ob := ob) _ rfl (.tmp 34) (.tmp 41) 69 rfl i0 _ 40 Try.underlying69 hi0 hz0 hz1 hz2 rfl (by decide) rfl (HSP1.out.1.alloc _) ⟨w1.heap.size, 0, none⟩ 1 1 [.string xv, .slice A1 xt.length c1'] rfl rfl (bind_news w1 _ _) (by simp [Value.oneCell']) (by decide) (by have := HPL.out; unfold maxLen; omega) (by have := HPL.out; omega) ?_; intro v5 w5 o5 hs5 ht5 ho5
               have HS5 := Lib.hid hs5
               have HT5 := Lib.hid ht5
               have HO5 := Lib.hid ho5
               clear hs5 ht5 ho5))
          all_goals
            go_wp2
            go_roundw
            case rel => exact ⟨k + 1, by omega, by go_num, SP.be (HSP.out.push HB3.out HSL1.out HS5.out HT5.out HO5.out), ⟨ps ++ [⟨xv, _, xt⟩], by rw [scopeK_yes HEK.out HC.out, ← HBS.out]; simp [binds], HSP.out.push HB3.out HSL1.out HS5.out HT5.out HO5.out, by have := HPL.out; simp; omega⟩⟩
            case measure => simp [intOf]; omega
        · obtain ⟨h2, rfl, rfl⟩ : k < at' ∧ xn = false ∧ xb = 1 := HC.out.resolve_left h1
          have h1' : ((k : Int) == (at' : Int)) = false := by simp; omega
          have h2' : (k : Int) < (at' : Int) := by omega
          go_upto_region 6 with fail
          generalize hW1 : wr.alloc (.cells _ 73) = W1 at HX2 HCL HROW ⊢
          have e0 : W1.cell? ⟨wr.heap.size, 0, none⟩ = some (.string xv) := (HROW.out.cell 0).trans rfl
          have e1 : W1.cell? ⟨wr.heap.size, 1, none⟩ = some (.slice tA tl tc) := (HROW.out.cell 1).trans rfl
          clear hW1
          go_region_law (first
            | (go_simp
               go_at_call 100
               refine (HCL.out _ (by go_grown)).mono ?_
               rintro e w1 ⟨v', rfl, hsl1, hb1⟩
               have hb2 : Below W1.heap.size W1 w1 := (show Below W1.heap.size W1 _ from by go_grown).trans (hb1.mono (show Below W1.heap.size W1 _ from by go_grown).size)
               have hb3 : Below wr.heap.size wr w1 := HX2.out.trans (hb2.mono HX2.out.size)
               have HSL1 : Hid (SLp w1 (fun g => wr.heap.size ≤ g) v' xt) := Lib.hid (hsl1.turns (Turns.refl w1 (fun _ => False)) (fun g _ x => ⟨fun y => y, Nat.le_trans HX2.out.size (Nat.le_trans (show Below W1.heap.size W1 _ from by go_grown).size x)⟩))
               have HSP1 := Lib.hid (HSP.out.call hb3)
               have HB3 := Lib.hid hb3
               have r0 : w1.cell? ⟨wr.heap.size, 0, none⟩ = some (.string xv) := (hb2.cell (p := ⟨wr.heap.size, 0, none⟩) HROW.out.lt).trans e0
               obtain ⟨A1, c1', rfl, _, _, _⟩ := hsl1
               clear hb1 hb2 hb3)
            | (refine step_append_seg (xs := pcells ps) (n := ps.length) (ob := ob) _ rfl (.tmp 34) (.tmp 41) 69 rfl i0 _ 40 Try.underlying69 hi0 hz0 hz1 hz2 rfl (by decide) rfl (HSP1.out.1.alloc _) ⟨w1.heap.size, 0, none⟩ 1 1 [.string xv, .slice A1 xt.length c1'] rfl rfl (bind_news w1 _ _) (by simp [Value.oneCell']) (by decide) (by have := HPL.out; unfold maxLen; omega) (by have := HPL.out; omega) ?_; intro v5 w5 o5 hs5 ht5 ho5
               have HS5 := Lib.hid hs5
               have HT5 := Lib.hid ht5
               have HO5 := Lib.hid ho5
               clear hs5 ht5 ho5))
          all_goals
            go_wp2
            go_roundw
            case rel => exact ⟨k + 1, by omega, by go_num, SP.be (HSP.out.push HB3.out HSL1.out HS5.out HT5.out HO5.out), ⟨ps ++ [⟨xv, _, xt⟩], by rw [scopeK_yes HEK.out HC.out, ← HBS.out]; simp [binds], HSP.out.push HB3.out HSL1.out HS5.out HT5.out HO5.out, by have := HPL.out; simp; omega⟩⟩
            case measure => simp [intOf]; omega
      · have HC := Lib.hid hc
        have hno := scopeK_no HEK.out hc
        have HNO := Lib.hid hno
        have hor : (¬ k = at' ∧ ¬ k < at') ∨ (¬ k = at' ∧ k < at' ∧ xn = true) ∨ (¬ k = at' ∧ k < at' ∧ xn = false ∧ ¬ xb = 1) := by
          cases xn <;> simp at hc ⊢ <;> omega
        clear hc hno
        rcases hor with ⟨h1, h2⟩ | ⟨h1, h2, rfl⟩ | ⟨h1, h2, rfl, h3⟩
        · have h1' : ((k : Int) == (at' : Int)) = false := by simp; omega
          have h2' : ¬ (k : Int) < (at' : Int) := by omega
          go_wp2
          go_roundw
          case rel => exact ⟨k + 1, by omega, by go_num, hb.out.alloc hb.out.size _, ⟨ps, by rw [HNO.out]; exact HBS.out, ⟨ob, HSP.out.call ((Below.refl _ wr).alloc (Nat.le_refl _) _)⟩, by have := HPL.out; omega⟩⟩
          case measure => simp [intOf]; omega
        · have h1' : ((k : Int) == (at' : Int)) = false := by simp; omega
          have h2' : (k : Int) < (at' : Int) := by omega
          go_wp2
          go_roundw
          case rel => exact ⟨k + 1, by omega, by go_num, hb.out.alloc hb.out.size _, ⟨ps, by rw [HNO.out]; exact HBS.out, ⟨ob, HSP.out.call ((Below.refl _ wr).alloc (Nat.le_refl _) _)⟩, by have := HPL.out; omega⟩⟩
          case measure => simp [intOf]; omega
        · have h1' : ((k : Int) == (at' : Int)) = false := by simp; omega
          have h2' : (k : Int) < (at' : Int) := by omega
          have h3' : (xb == 1) = false := by simp; omega
          go_wp2
          go_roundw
          case rel => exact ⟨k + 1, by omega, by go_num, hb.out.alloc hb.out.size _, ⟨ps, by rw [HNO.out]; exact HBS.out, ⟨ob, HSP.out.call ((Below.refl _ wr).alloc (Nat.le_refl _) _)⟩, by have := HPL.out; omega⟩⟩
          case measure => simp [intOf]; omega
    · have hk' : k = es.length := by omega
      subst hk'
      clear hlt
      obtain ⟨ps, hbs, hsp, hpl⟩ := hps.out
      have HSP := Lib.hid hsp
      have HBS := Lib.hid hbs
      obtain ⟨ob, hsp⟩ := hsp
      obtain ⟨vA, vc, rfl, _, _⟩ := hsp.1.form
      clear hps hsp hbs
      go_wp2
      go_ret
      exact ⟨_, rfl, by unfold scopeM; rw [← HBS.out]; exact HSP.out.bs, HX.out.trans (hb.out.mono HX.out.size)⟩
end Go.Proofs.Ytopbildpeojgoaa.Ck
