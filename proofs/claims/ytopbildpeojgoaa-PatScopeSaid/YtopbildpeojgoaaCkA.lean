/- Elements of a query, as they lie in memory; pat.Find. -/
import Derived.Test.YtopbildpeojgoaaTyI
namespace Go.Proofs.Ytopbildpeojgoaa.Ck
open Go.RowKit Go.Proofs.Ytopbildpeojgoaa Go.Proofs.Ytopbildpeojgoaa.Sch Go.Proofs.Ytopbildpeojgoaa.Ty
set_option linter.unusedVariables false
set_option maxRecDepth 100000
/-- An element of a query, by its contents. -/
structure Qe where
  v : ByteArray
  ts : List ByteArray
  neg : Bool
  mn : Int
  mx : Int
  pr : List Nd
/-- Elements, as they lie in memory. -/
def Qs (w : World) (B : Nat) (v : Value) (es : List Qe) : Prop :=
  ∃ A c, v = .slice A es.length c ∧ es.length ≤ c ∧ c ≤ 9223372036854775807 ∧
    ∀ k (h : k < es.length), ∃ g o tv pv, A = some ⟨g, o, none⟩ ∧ g < B ∧ w.cell? ⟨g, o + k * 6, none⟩ = some (.string es[k].v) ∧ w.cell? ⟨g, o + k * 6 + 1, none⟩ = some tv ∧ w.cell? ⟨g, o + k * 6 + 2, none⟩ = some (.bool es[k].neg) ∧ w.cell? ⟨g, o + k * 6 + 3, none⟩ = some (.int .i64 es[k].mn) ∧ w.cell? ⟨g, o + k * 6 + 4, none⟩ = some (.int .i64 es[k].mx) ∧ w.cell? ⟨g, o + k * 6 + 5, none⟩ = some pv ∧ SL w B tv es[k].ts ∧ Ns w B pv es[k].pr
theorem Qs.below {w w' : World} {B B' : Nat} {v : Value} {es : List Qe} (h : Qs w B v es) (hb : Below B w w') (hB : B ≤ B') : Qs w' B' v es := by
  obtain ⟨A, c, rfl, h1, h2, h3⟩ := h
  refine ⟨A, c, rfl, h1, h2, fun k hk => ?_⟩
  obtain ⟨g, o, tv, pv, e, hg, c0, c1, c2, c3, c4, c5, hs, hn⟩ := h3 k hk
  exact ⟨g, o, tv, pv, e, by omega, (hb.cell (p := ⟨g, _, none⟩) hg).trans c0, (hb.cell (p := ⟨g, _, none⟩) hg).trans c1, (hb.cell (p := ⟨g, _, none⟩) hg).trans c2, (hb.cell (p := ⟨g, _, none⟩) hg).trans c3, (hb.cell (p := ⟨g, _, none⟩) hg).trans c4, (hb.cell (p := ⟨g, _, none⟩) hg).trans c5, hs.below hb hB, hn.below hb hB⟩
theorem nameEq_any (n nm : ByteArray) (tv pv : Value) (neg : Bool) (mn mx : Int) (B : Nat) (w : World) (hc : w.cell? ⟨B, 0, none⟩ = some (.string nm)) (r : Bool) (hr : (n.toList == nm.toList) = r) :
    Calls Try.prog 102 #[.agg #[.string n, tv, .bool neg, .int .i64 mn, .int .i64 mx, pv], .pointer (some ⟨B, 0, none⟩)] w fun e w' => e = .returned (.bool r) ∧ Below w.heap.size w w' := by
  have hB : B < w.heap.size := World.block_lt_of_cell? w ⟨B, 0, none⟩ hc
  have hne : B ≠ w.heap.size := by omega
  go_enter Try.func102, Try.ntmps102
  go_wp2
  all_goals
    go_ret
    exact ⟨rfl, (Below.refl _ w).alloc (Nat.le_refl _) _⟩
set_option maxHeartbeats 2000000 in
theorem idxQ_any (v : Value) (fs : List Qe) (nm : ByteArray) (B : Nat) (w : World) (hf : Qs w w.heap.size v fs) (hc : w.cell? ⟨B, 0, none⟩ = some (.string nm)) :
    Calls Try.prog 101 #[v, .func (.func 102) #[] #[.pointer (some ⟨B, 0, none⟩)]] w fun e w' => e = .returned (.int .i64 (idx (fs.map Qe.v) nm)) ∧ Below w.heap.size w w' := by
  have hB : B < w.heap.size := World.block_lt_of_cell? w ⟨B, 0, none⟩ hc
  have HF := Lib.hid hf
  obtain ⟨A, c, rfl, hn, hcm, _⟩ := hf
  have hlen : (fs.map Qe.v).length = fs.length := by simp
  have HLN := Lib.hid hlen
  have HC := Lib.hid hc
  clear hc hlen
  go_enter Try.func101, Try.ntmps101
  go_wp2
  go_loopw [8] (fun s wr => ∃ k : Nat, k ≤ fs.length ∧ s = .int .i64 k ∧ Hid (Below w.heap.size w wr) ∧ Hid (NoF (fs.map Qe.v) nm k)) (fun s _ => fs.length - (intOf s).toNat)
  case atStart => exact ⟨0, by omega, rfl, Below.refl _ _, fun _ _ h => absurd h (by omega)⟩
  case round =>
    obtain ⟨k, hk, rfl, hb, hno⟩ := hrel
    by_cases hlt : k < fs.length
    · obtain ⟨A', c', e1, _, _, h3⟩ := HF.out.below hb.out (Nat.le_refl _)
      injection e1 with e1 _ e3
      subst e1 e3
      obtain ⟨g, o, tv, pv, rfl, hg, c0, c1, c2, c3, c4, c5, hsl, hns⟩ := h3 k hlt
      obtain ⟨tA, tc, rfl, _, _, _⟩ := hsl
      obtain ⟨pA, pc, rfl, _, _, _⟩ := hns
      have hcB : wr.cell? ⟨B, 0, none⟩ = some (.string nm) := (hb.out.cell (p := ⟨B, 0, none⟩) hB).trans HC.out
      have HCB := Lib.hid hcB
      clear hcB h3
      obtain ⟨r, hr⟩ : ∃ r, (fs[k].v.toList == nm.toList) = r := ⟨_, rfl⟩
      have HR := Lib.hid hr
      have hkl : k < (fs.map Qe.v).length := by rw [HLN.out]; exact hlt
      have hget : (fs.map Qe.v)[k]'hkl = fs[k].v := by simp
      have HG := Lib.hid hget
      clear hr hget
      obtain ⟨x, hx⟩ : ∃ x, fs[k] = x := ⟨_, rfl⟩
      rw [hx] at c0 c1 c2 c3 c4 c5 HR HG
      obtain ⟨xv, xt, xn, xa, xb, xp⟩ := x
      dsimp only at c0 c1 c2 c3 c4 c5 HR HG
      obtain ⟨tl, htl⟩ : ∃ tl, tl = xt.length := ⟨_, rfl⟩
      obtain ⟨pl, hpl⟩ : ∃ pl, pl = xp.length := ⟨_, rfl⟩
      rw [← htl] at c1
      rw [← hpl] at c5
      clear hx htl hpl
      cases r with
      | true =>
        go_wp2_with (go_at_call 102; refine (nameEq_any _ nm _ _ _ _ _ B _ HCB.out true HR.out).mono ?_; rintro e w' ⟨rfl, hb'⟩)
        go_ret
        exact ⟨by rw [idx_hit hkl (by rw [HG.out]; simpa using HR.out) hno.out]; rfl, hb.out.trans (hb'.mono hb.out.size)⟩
      | false =>
        go_wp2_with (go_at_call 102; refine (nameEq_any _ nm _ _ _ _ _ B _ HCB.out false HR.out).mono ?_; rintro e w' ⟨rfl, hb'⟩)
        go_roundw
        case rel => exact ⟨k + 1, by omega, by go_num, hb.out.trans (hb'.mono hb.out.size), hno.out.succ hkl (by rw [HG.out]; exact HR.out)⟩
        case measure => simp [intOf]; omega
    · have hk' : k = fs.length := by omega
      subst hk'
      clear hlt
      go_wp2
      go_ret
      exact ⟨by rw [idx_miss (fun j hj => hno.out j hj (by rw [HLN.out] at hj; exact hj))]; rfl, hb.out⟩
set_option maxHeartbeats 1000000 in
theorem find_any (v : Value) (win cap : Int) (fs : List Qe) (nm : ByteArray) (w : World) (hf : Qs w w.heap.size v fs) :
    Calls Try.prog 38 #[.agg #[v, .int .i64 win, .int .i64 cap], .string nm] w fun e w' => e = .returned (.int .i64 (idx (fs.map Qe.v) nm)) ∧ Below w.heap.size w w' := by
  obtain ⟨r, hr⟩ : ∃ r, idx (fs.map Qe.v) nm = r := ⟨_, rfl⟩
  have hX : Below w.heap.size w ((w.alloc (.cells #[v, .int .i64 win, .int .i64 cap] 67)).alloc (.cells #[.string nm] 9)) := ((Below.refl _ w).alloc (Nat.le_refl _) _).alloc (by simp) _
  have hI := idxQ_any v fs nm (w.heap.size + 1) _ (hf.below hX hX.size) ((row_at (w := (w.alloc (.cells #[v, .int .i64 win, .int .i64 cap] 67))) (n := w.heap.size + 1) (by simp) 9 #[.string nm]).cell 0)
  rw [hr] at hI ⊢
  have HI := Lib.hid hI
  have HX := Lib.hid hX
  obtain ⟨A, c, rfl, hn, hcm, _⟩ := hf
  clear hI hX hr
  go_enter Try.func38, Try.ntmps38
  go_wp2_with fail
  refine HI.out.mono ?_
  rintro e w1 ⟨rfl, hb⟩
  go_wp2
  go_ret
  exact ⟨rfl, HX.out.trans (hb.mono HX.out.size)⟩
end Go.Proofs.Ytopbildpeojgoaa.Ck
