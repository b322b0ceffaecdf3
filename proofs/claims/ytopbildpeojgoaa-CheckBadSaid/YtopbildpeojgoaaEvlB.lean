/- Texts put together: EvlA, EvlB. -/
import Derived.Test.YtopbildpeojgoaaTyD
import Derived.Test.YtopbildpeojgoaaEvA
import Derived.Test.YtopbildpeojgoaaTyE
import Derived.Test.YtopbildpeojgoaaNumMul
section
namespace Go.Proofs.Ytopbildpeojgoaa.Evl
open Go.RowKit Go.Proofs.Ytopbildpeojgoaa Go.Proofs.Ytopbildpeojgoaa.Ev Go.Proofs.Ytopbildpeojgoaa.Sch
set_option linter.unusedVariables false
set_option maxRecDepth 100000
def cmpI (a b : Int) : Int := if a < b then -1 else if b < a then 1 else 0
def cmpS (a b : ByteArray) : Int := if Op.bytesLess a.toList b.toList = true then -1 else if (a.toList == b.toList) = true then 0 else 1
def rk (b : Bool) : Int := if b = true then 1 else 0
theorem nan_str (s : ByteArray) (w : World) : Calls Try.prog 238 #[.string s] w fun e w' => e = .returned (.bool false) ∧ w = w' := by
  go_enter Try.func238, Try.ntmps238
  go_wp2
  go_ret
  exact ⟨rfl, rfl⟩
theorem nan_i64 (n : Int) (w : World) : Calls Try.prog 237 #[.int .i64 n] w fun e w' => e = .returned (.bool false) ∧ w = w' := by
  go_enter Try.func237, Try.ntmps237
  go_wp2
  go_ret
  exact ⟨rfl, rfl⟩
theorem nan_int (n : Int) (w : World) : Calls Try.prog 184 #[.int .i64 n] w fun e w' => e = .returned (.bool false) ∧ w = w' := by
  go_enter Try.func184, Try.ntmps184
  go_wp2
  go_ret
  exact ⟨rfl, rfl⟩
theorem cmp_str (a b : ByteArray) (w : World) : Calls Try.prog 224 #[.string a, .string b] w fun e w' => e = .returned (.int .i64 (cmpS a b)) ∧ w = w' := by
  go_enter Try.func224, Try.ntmps224
  go_wp2_with fail
  refine (nan_str _ _).mono ?_
  rintro e w1 ⟨rfl, rfl⟩
  go_wp2_with fail
  refine (nan_str _ _).mono ?_
  rintro e w1 ⟨rfl, rfl⟩
  go_wp2
  all_goals
    go_ret
    refine ⟨ret_int ?_, rfl⟩
    unfold cmpS
    simp_all
theorem cmp_i64 (a b : Int) (w : World) : Calls Try.prog 223 #[.int .i64 a, .int .i64 b] w fun e w' => e = .returned (.int .i64 (cmpI a b)) ∧ w = w' := by
  go_enter Try.func223, Try.ntmps223
  go_wp2_with fail
  refine (nan_i64 _ _).mono ?_
  rintro e w1 ⟨rfl, rfl⟩
  go_wp2_with fail
  refine (nan_i64 _ _).mono ?_
  rintro e w1 ⟨rfl, rfl⟩
  go_wp2
  all_goals
    go_ret
    refine ⟨ret_int ?_, rfl⟩
    unfold cmpI
    first
      | rw [if_pos (by omega)]
      | rw [if_neg (by omega), if_pos (by omega)]
      | rw [if_neg (by omega), if_neg (by omega)]
theorem cmp_int (a b : Int) (w : World) : Calls Try.prog 137 #[.int .i64 a, .int .i64 b] w fun e w' => e = .returned (.int .i64 (cmpI a b)) ∧ w = w' := by
  go_enter Try.func137, Try.ntmps137
  go_wp2_with fail
  refine (nan_int _ _).mono ?_
  rintro e w1 ⟨rfl, rfl⟩
  go_wp2_with fail
  refine (nan_int _ _).mono ?_
  rintro e w1 ⟨rfl, rfl⟩
  go_wp2
  all_goals
    go_ret
    refine ⟨ret_int ?_, rfl⟩
    unfold cmpI
    first
      | rw [if_pos (by omega)]
      | rw [if_neg (by omega), if_pos (by omega)]
      | rw [if_neg (by omega), if_neg (by omega)]
theorem rank_any (b : Bool) (w : World) : Calls Try.prog 225 #[.bool b] w fun e w' => e = .returned (.int .i64 (rk b)) ∧ w = w' := by
  cases b
  all_goals
    go_enter Try.func225, Try.ntmps225
    go_wp2
    go_ret
    exact ⟨rfl, rfl⟩
/-- How two values stand; none: of two kinds, or of none. -/
def ordV (a b : VV) : Option Int := if a.k = b.k then (if a.k = 1 then some (cmpI a.i b.i) else if a.k = 2 then some (cmpS a.s b.s) else if a.k = 3 then some (cmpI (rk a.b) (rk b.b)) else none) else none
def OPost (w : World) (r : Option Int) (e : Ending) (w' : World) : Prop := e = .returned (.tuple #[.int .i64 (r.getD 0), .bool r.isSome]) ∧ Below w.heap.size w w'
theorem opost_yes {w w' : World} {r : Option Int} {n : Int} (h : r = some n) (hb : Below w.heap.size w w') : OPost w r (.returned (.tuple #[.int .i64 n, .bool true])) w' := by subst h; exact ⟨rfl, hb⟩
theorem opost_no {w w' : World} {r : Option Int} (h : r = none) (hb : Below w.heap.size w w') : OPost w r (.returned (.tuple #[.int .i64 0, .bool false])) w' := by subst h; exact ⟨rfl, hb⟩
set_option maxHeartbeats 1000000 in
theorem vcmp_any (a b : VV) (w : World) : Calls Try.prog 198 #[.agg #[.int .i64 a.k, .int .i64 a.i, .string a.s, .bool a.b], .agg #[.int .i64 b.k, .int .i64 b.i, .string b.s, .bool b.b]] w (OPost w (ordV a b)) := by
  obtain ⟨ak, ai, sa, ab⟩ := a
  obtain ⟨bk, bi, sb, bb⟩ := b
  obtain ⟨r, hr⟩ : ∃ r, ordV ⟨ak, ai, sa, ab⟩ ⟨bk, bi, sb, bb⟩ = r := ⟨_, rfl⟩
  rw [hr]
  unfold ordV at hr
  dsimp only at hr ⊢
  by_cases h : ak = bk
  · subst h
    rw [if_pos rfl] at hr
    by_cases h1 : ak = 1
    · subst h1
      rw [if_pos rfl] at hr
      have HR := Lib.hid hr.symm
      clear hr
      go_enter Try.func198, Try.ntmps198
      go_wp2_with fail
      refine (cmp_i64 ai bi _).mono ?_
      rintro e w1 ⟨rfl, rfl⟩
      go_wp2
      go_ret2
      exact opost_yes HR.out (by go_grown)
    · rw [if_neg h1] at hr
      have d1 : (ak == 1) = false := by simpa using h1
      by_cases h2 : ak = 2
      · subst h2
        rw [if_pos rfl] at hr
        have HR := Lib.hid hr.symm
        clear hr h1 d1
        go_enter Try.func198, Try.ntmps198
        go_wp2_with fail
        refine (cmp_str sa sb _).mono ?_
        rintro e w1 ⟨rfl, rfl⟩
        go_wp2
        go_ret2
        exact opost_yes HR.out (by go_grown)
      · rw [if_neg h2] at hr
        have d2 : (ak == 2) = false := by simpa using h2
        by_cases h3 : ak = 3
        · subst h3
          rw [if_pos rfl] at hr
          have HR := Lib.hid hr.symm
          clear hr h1 d1 h2 d2
          go_enter Try.func198, Try.ntmps198
          go_upto_region 9 with fail
          go_quiet (first
            | (go_at_call 225; exact Calls.quiet_of_same (flip2 (rank_any _ _)))
            | (go_at_call 137; exact Calls.quiet_of_same (flip2 (cmp_int _ _ _))))
          go_wp2
          go_ret2
          exact opost_yes HR.out (below_dN (by go_grown) _)
        · rw [if_neg h3] at hr
          have d3 : (ak == 3) = false := by simpa using h3
          have HR := Lib.hid hr.symm
          clear hr h1 h2 h3
          go_enter Try.func198, Try.ntmps198
          go_wp2
          go_ret2
          exact opost_no HR.out (by go_grown)
  · rw [if_neg h] at hr
    have d : (ak == bk) = false := by simpa using h
    have HR := Lib.hid hr.symm
    clear hr h
    go_enter Try.func198, Try.ntmps198
    go_wp2
    go_ret2
    exact opost_no HR.out (by go_grown)
def standM (o r : Int) : Bool := if o = 7 then decide (r = 0) else if o = 8 then !decide (r = 0) else if o = 9 then decide (r < 0) else if o = 10 then decide (r ≤ 0) else if o = 11 then decide (0 < r) else decide (0 ≤ r)
theorem stands_any (o r : Int) (h1 : 7 ≤ o) (h2 : o ≤ 12) (w : World) : Calls Try.prog 199 #[.int .i64 o, .int .i64 r] w fun e w' => e = .returned (.bool (standM o r)) ∧ w = w' := by
  have hcs : o = 7 ∨ o = 8 ∨ o = 9 ∨ o = 10 ∨ o = 11 ∨ o = 12 := by omega
  clear h1 h2
  rcases hcs with rfl | rfl | rfl | rfl | rfl | rfl
  all_goals
    go_enter Try.func199, Try.ntmps199
    go_wp2
    go_ret
    refine ⟨ret_bool ?_, rfl⟩
    simp [standM]
    try rfl
end Go.Proofs.Ytopbildpeojgoaa.Evl
end

section
namespace Go.Proofs.Ytopbildpeojgoaa.Evl
open Go.RowKit Go.Proofs.Ytopbildpeojgoaa Go.Proofs.Ytopbildpeojgoaa.Ev Go.Proofs.Ytopbildpeojgoaa.Sch Go.Proofs.Ytopbildpeojgoaa.Ty
set_option linter.unusedVariables false
set_option maxRecDepth 100000
/-- Values as they lie in memory. -/
def VL (w : World) (B : Nat) (v : Value) (L : List VV) : Prop :=
  ∃ A c, v = .slice A L.length c ∧ L.length ≤ c ∧ c ≤ 9223372036854775807 ∧ ∀ k (h : k < L.length), ∃ g o, A = some ⟨g, o, none⟩ ∧ g < B ∧ ∀ j u, (L[k].cells)[j]? = some u → w.cell? ⟨g, o + k * 4 + j, none⟩ = some u
theorem VL.below {w w' : World} {B B' : Nat} {v : Value} {L : List VV} (h : VL w B v L) (hb : Below B w w') (hB : B ≤ B') : VL w' B' v L := by
  obtain ⟨A, c, rfl, h1, h2, h3⟩ := h
  refine ⟨A, c, rfl, h1, h2, fun k hk => ?_⟩
  obtain ⟨g, o, e, hg, hc⟩ := h3 k hk
  exact ⟨g, o, e, by omega, fun j u hj => (hb.cell (p := ⟨g, o + k * 4 + j, none⟩) hg).trans (hc j u hj)⟩
theorem VL.zero (w : World) (B : Nat) : VL w B (.slice none 0 0) [] := ⟨none, 0, rfl, by simp, by omega, fun k hk => by simp at hk⟩
theorem other_any (k i : Int) (s : ByteArray) (b : Bool) (kd : Int) (B : Nat) (w : World) (hB : w.cell? ⟨B, 0, none⟩ = some (.int .i64 kd)) (r : Bool) (hr : (k != kd) = r) :
    Calls Try.prog 218 #[.agg #[.int .i64 k, .int .i64 i, .string s, .bool b], .pointer (some ⟨B, 0, none⟩)] w fun e w' => e = .returned (.bool r) ∧ Below w.heap.size w w' := by
  have hlt : B < w.heap.size := World.block_lt_of_cell? w ⟨B, 0, none⟩ hB
  have hne : B ≠ w.heap.size := by omega
  go_enter Try.func218, Try.ntmps218
  go_wp2
  all_goals
    go_ret
    exact ⟨rfl, (Below.refl _ w).alloc (Nat.le_refl _) _⟩
set_option maxHeartbeats 1000000 in
theorem idxV_any (v : Value) (L : List VV) (kd : Int) (B : Nat) (w : World) (hf : VL w w.heap.size v L) (hB : w.cell? ⟨B, 0, none⟩ = some (.int .i64 kd)) :
    Calls Try.prog 233 #[v, .func (.func 218) #[] #[.pointer (some ⟨B, 0, none⟩)]] w fun e w' => e = .returned (.int .i64 (fstI (fun x => !(x == kd)) (L.map VV.k))) ∧ Below w.heap.size w w' := by
  have hlt0 : B < w.heap.size := World.block_lt_of_cell? w ⟨B, 0, none⟩ hB
  have HF := Lib.hid hf
  have HC := Lib.hid hB
  obtain ⟨A, c, rfl, hn, hcm, _⟩ := hf
  have HLN := Lib.hid (show (L.map VV.k).length = L.length by simp)
  clear hB
  go_enter Try.func233, Try.ntmps233
  go_wp2
  go_loopw [8] (fun s wr => ∃ k : Nat, k ≤ L.length ∧ s = .int .i64 k ∧ Hid (Below w.heap.size w wr) ∧ Hid (NoneUp (fun x => !(x == kd)) (L.map VV.k) k)) (fun s _ => L.length - (intOf s).toNat)
  case atStart => exact ⟨0, by omega, rfl, Below.refl _ _, fun _ _ h => absurd h (by omega)⟩
  case round =>
    obtain ⟨k, hk, rfl, hb, hno⟩ := hrel
    by_cases hlt : k < L.length
    · obtain ⟨A', c', e1, _, _, h3⟩ := HF.out.below hb.out (Nat.le_refl _)
      injection e1 with e1 _ e3
      subst e1 e3
      obtain ⟨g, o, rfl, hg, hcl⟩ := h3 k hlt
      have HCB := Lib.hid ((hb.out.cell (p := ⟨B, 0, none⟩) hlt0).trans HC.out)
      have hkl : k < (L.map VV.k).length := by rw [HLN.out]; exact hlt
      have HG := Lib.hid (show (L.map VV.k)[k]'hkl = L[k].k by simp)
      obtain ⟨y, hy⟩ : ∃ y, L[k] = y := ⟨_, rfl⟩
      rw [hy] at hcl HG
      obtain ⟨yk, yi, ys, yb⟩ := y
      have c0 := hcl 0 (.int .i64 yk) rfl
      have c1 := hcl 1 (.int .i64 yi) rfl
      have c2 := hcl 2 (.string ys) rfl
      have c3 := hcl 3 (.bool yb) rfl
      simp only [Nat.add_zero] at c0
      clear hcl h3 hy
      obtain ⟨r, hr⟩ : ∃ r, (!(yk == kd)) = r := ⟨_, rfl⟩
      have HR := Lib.hid hr
      clear hr
      cases r with
      | true =>
        go_wp2_with (go_at_call 218; refine (other_any _ _ _ _ kd B _ HCB.out true HR.out).mono ?_; rintro e w' ⟨rfl, hb'⟩)
        go_ret
        exact ⟨by rw [fst_at hkl (by rw [HG.out]; exact HR.out) hno.out]; rfl, hb.out.trans (hb'.mono hb.out.size)⟩
      | false =>
        go_wp2_with (go_at_call 218; refine (other_any _ _ _ _ kd B _ HCB.out false HR.out).mono ?_; rintro e w' ⟨rfl, hb'⟩)
        go_roundw
        case rel => exact ⟨k + 1, by omega, by go_num, hb.out.trans (hb'.mono hb.out.size), noneUp_succ hno.out hkl (by rw [HG.out]; exact HR.out)⟩
        case measure => simp [intOf]; omega
    · have hk' : k = L.length := by omega
      subst hk'
      clear hlt
      go_wp2
      go_ret
      exact ⟨by rw [fst_no (by rw [HLN.out]; exact hno.out)]; rfl, hb.out⟩
theorem hasV_any (v : Value) (L : List VV) (kd : Int) (B : Nat) (w : World) (hf : VL w w.heap.size v L) (hB : w.cell? ⟨B, 0, none⟩ = some (.int .i64 kd)) :
    Calls Try.prog 217 #[v, .func (.func 218) #[] #[.pointer (some ⟨B, 0, none⟩)]] w fun e w' => e = .returned (.bool (!(L.map VV.k).all (fun x => x == kd))) ∧ Below w.heap.size w w' := by
  have HI := Lib.hid (idxV_any v L kd B w hf hB)
  obtain ⟨q, hq⟩ : ∃ q, fstI (fun x => !(x == kd)) (L.map VV.k) = q := ⟨_, rfl⟩
  have HQ := Lib.hid (fst_all (fun x => x == kd) (L.map VV.k))
  rw [hq] at HI HQ
  obtain ⟨r, hr⟩ : ∃ r, (L.map VV.k).all (fun x => x == kd) = r := ⟨_, rfl⟩
  rw [hr] at HQ ⊢
  obtain ⟨A, c, rfl, _⟩ := hf
  clear hq hr hB
  go_enter Try.func217, Try.ntmps217
  go_wp2_with fail
  refine HI.out.mono ?_
  rintro e w1 ⟨rfl, hb1⟩
  have HB := Lib.hid hb1
  clear hb1
  go_wp2
  go_ret
  refine ⟨ret_bool ?_, HB.out⟩
  rw [← HQ.out]
  by_cases h : q < 0
  · rw [decide_eq_true h, decide_eq_false (by omega)]; rfl
  · rw [decide_eq_false h, decide_eq_true (by omega)]; rfl
theorem allOf_any (v : Value) (L : List VV) (kd : Int) (w : World) (hf : VL w w.heap.size v L) (r : Bool) (hr : (L.map VV.k).all (fun x => x == kd) = r) :
    Calls Try.prog 194 #[.int .i64 kd, v] w fun e w' => e = .returned (.bool r) ∧ Below w.heap.size w w' := by
  have hX : Below w.heap.size w (w.alloc (.cells #[.int .i64 kd] 3)) := (Below.refl _ w).alloc (Nat.le_refl _) _
  have HI := Lib.hid (hasV_any v L kd w.heap.size (w.alloc (.cells #[.int .i64 kd] 3)) (hf.below hX hX.size) ((Row.cell (Row.made w _ _) 0).trans rfl))
  have HX := Lib.hid hX
  rw [hr] at HI
  obtain ⟨A, c, rfl, _⟩ := hf
  clear hr hX
  go_enter Try.func194, Try.ntmps194
  go_wp2_with fail
  refine HI.out.mono ?_
  rintro e w1 ⟨rfl, hb1⟩
  have HB := Lib.hid (HX.out.trans (hb1.mono HX.out.size))
  clear hb1 HX
  go_wp2
  go_ret
  exact ⟨ret_bool (by simp), HB.out⟩
end Go.Proofs.Ytopbildpeojgoaa.Evl
end
