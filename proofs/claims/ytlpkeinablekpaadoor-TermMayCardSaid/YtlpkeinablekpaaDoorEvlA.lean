/- How values stand to each other. -/
import Derived.Test.YtlpkeinablekpaaDoorTyD
import Derived.Test.YtlpkeinablekpaaDoorEvA
namespace Go.Proofs.YtlpkeinablekpaaDoor.Evl
open Go.RowKit Go.Proofs.YtlpkeinablekpaaDoor Go.Proofs.YtlpkeinablekpaaDoor.Ev Go.Proofs.YtlpkeinablekpaaDoor.Sch
set_option linter.unusedVariables false
set_option maxRecDepth 100000
def cmpI (a b : Int) : Int := if a < b then -1 else if b < a then 1 else 0
def cmpS (a b : ByteArray) : Int := if Op.bytesLess a.toList b.toList = true then -1 else if (a.toList == b.toList) = true then 0 else 1
def rk (b : Bool) : Int := if b = true then 1 else 0
theorem nan_str (s : ByteArray) (w : World) : Calls Tryd.prog 65 #[.string s] w fun e w' => e = .returned (.bool false) ∧ w = w' := by
  go_enter Tryd.func65, Tryd.ntmps65
  go_wp2
  go_ret
  exact ⟨rfl, rfl⟩
theorem nan_i64 (n : Int) (w : World) : Calls Tryd.prog 64 #[.int .i64 n] w fun e w' => e = .returned (.bool false) ∧ w = w' := by
  go_enter Tryd.func64, Tryd.ntmps64
  go_wp2
  go_ret
  exact ⟨rfl, rfl⟩
theorem nan_int (n : Int) (w : World) : Calls Tryd.prog 66 #[.int .i64 n] w fun e w' => e = .returned (.bool false) ∧ w = w' := by
  go_enter Tryd.func66, Tryd.ntmps66
  go_wp2
  go_ret
  exact ⟨rfl, rfl⟩
theorem cmp_str (a b : ByteArray) (w : World) : Calls Tryd.prog 44 #[.string a, .string b] w fun e w' => e = .returned (.int .i64 (cmpS a b)) ∧ w = w' := by
  go_enter Tryd.func44, Tryd.ntmps44
  go_wp2_with fail
  refine (nan_str _ _).mono ?_
  rintro e w1 ⟨rfl, rfl⟩
  go_wp2_with fail
  refine (nan_str _ _).mono ?_
  rintro e w1 ⟨rfl, rfl⟩
  go_wp2
  all_goals
    go_ret
    refine ⟨ret_int ?_, rfl⟩
    unfold cmpS
    simp_all
theorem cmp_i64 (a b : Int) (w : World) : Calls Tryd.prog 43 #[.int .i64 a, .int .i64 b] w fun e w' => e = .returned (.int .i64 (cmpI a b)) ∧ w = w' := by
  go_enter Tryd.func43, Tryd.ntmps43
  go_wp2_with fail
  refine (nan_i64 _ _).mono ?_
  rintro e w1 ⟨rfl, rfl⟩
  go_wp2_with fail
  refine (nan_i64 _ _).mono ?_
  rintro e w1 ⟨rfl, rfl⟩
  go_wp2
  all_goals
    go_ret
    refine ⟨ret_int ?_, rfl⟩
    unfold cmpI
    first
      | rw [if_pos (by omega)]
      | rw [if_neg (by omega), if_pos (by omega)]
      | rw [if_neg (by omega), if_neg (by omega)]
theorem cmp_int (a b : Int) (w : World) : Calls Tryd.prog 45 #[.int .i64 a, .int .i64 b] w fun e w' => e = .returned (.int .i64 (cmpI a b)) ∧ w = w' := by
  go_enter Tryd.func45, Tryd.ntmps45
  go_wp2_with fail
  refine (nan_int _ _).mono ?_
  rintro e w1 ⟨rfl, rfl⟩
  go_wp2_with fail
  refine (nan_int _ _).mono ?_
  rintro e w1 ⟨rfl, rfl⟩
  go_wp2
  all_goals
    go_ret
    refine ⟨ret_int ?_, rfl⟩
    unfold cmpI
    first
      | rw [if_pos (by omega)]
      | rw [if_neg (by omega), if_pos (by omega)]
      | rw [if_neg (by omega), if_neg (by omega)]
theorem rank_any (b : Bool) (w : World) : Calls Tryd.prog 46 #[.bool b] w fun e w' => e = .returned (.int .i64 (rk b)) ∧ w = w' := by
  cases b
  all_goals
    go_enter Tryd.func46, Tryd.ntmps46
    go_wp2
    go_ret
    exact ⟨rfl, rfl⟩
/-- How two values stand; none: of two kinds, or of none. -/
def ordV (a b : VV) : Option Int := if a.k = b.k then (if a.k = 1 then some (cmpI a.i b.i) else if a.k = 2 then some (cmpS a.s b.s) else if a.k = 3 then some (cmpI (rk a.b) (rk b.b)) else none) else none
def OPost (w : World) (r : Option Int) (e : Ending) (w' : World) : Prop := e = .returned (.tuple #[.int .i64 (r.getD 0), .bool r.isSome]) ∧ Below w.heap.size w w'
theorem opost_yes {w w' : World} {r : Option Int} {n : Int} (h : r = some n) (hb : Below w.heap.size w w') : OPost w r (.returned (.tuple #[.int .i64 n, .bool true])) w' := by subst h; exact ⟨rfl, hb⟩
theorem opost_no {w w' : World} {r : Option Int} (h : r = none) (hb : Below w.heap.size w w') : OPost w r (.returned (.tuple #[.int .i64 0, .bool false])) w' := by subst h; exact ⟨rfl, hb⟩
set_option maxHeartbeats 1000000 in
theorem vcmp_any (a b : VV) (w : World) : Calls Tryd.prog 19 #[.agg #[.int .i64 a.k, .int .i64 a.i, .string a.s, .bool a.b], .agg #[.int .i64 b.k, .int .i64 b.i, .string b.s, .bool b.b]] w (OPost w (ordV a b)) := by
  obtain ⟨ak, ai, sa, ab⟩ := a
  obtain ⟨bk, bi, sb, bb⟩ := b
  obtain ⟨r, hr⟩ : ∃ r, ordV ⟨ak, ai, sa, ab⟩ ⟨bk, bi, sb, bb⟩ = r := ⟨_, rfl⟩
  rw [hr]
  unfold ordV at hr
  dsimp only at hr ⊢
  by_cases h : ak = bk
  · subst h
    rw [if_pos rfl] at hr
    by_cases h1 : ak = 1
    · subst h1
      rw [if_pos rfl] at hr
      have HR := Lib.hid hr.symm
      clear hr
      go_enter Tryd.func19, Tryd.ntmps19
      go_wp2_with fail
      refine (cmp_i64 ai bi _).mono ?_
      rintro e w1 ⟨rfl, rfl⟩
      go_wp2
      go_ret2
      exact opost_yes HR.out (by go_grown)
    · rw [if_neg h1] at hr
      have d1 : (ak == 1) = false := by simpa using h1
      by_cases h2 : ak = 2
      · subst h2
        rw [if_pos rfl] at hr
        have HR := Lib.hid hr.symm
        clear hr h1 d1
        go_enter Tryd.func19, Tryd.ntmps19
        go_wp2_with fail
        refine (cmp_str sa sb _).mono ?_
        rintro e w1 ⟨rfl, rfl⟩
        go_wp2
        go_ret2
        exact opost_yes HR.out (by go_grown)
      · rw [if_neg h2] at hr
        have d2 : (ak == 2) = false := by simpa using h2
        by_cases h3 : ak = 3
        · subst h3
          rw [if_pos rfl] at hr
          have HR := Lib.hid hr.symm
          clear hr h1 d1 h2 d2
          go_enter Tryd.func19, Tryd.ntmps19
          go_upto_region 9 with fail
          go_quiet (first
            | (go_at_call 46; exact Calls.quiet_of_same (flip2 (rank_any _ _)))
            | (go_at_call 45; exact Calls.quiet_of_same (flip2 (cmp_int _ _ _))))
          go_wp2
          go_ret2
          exact opost_yes HR.out (below_dN (by go_grown) _)
        · rw [if_neg h3] at hr
          have d3 : (ak == 3) = false := by simpa using h3
          have HR := Lib.hid hr.symm
          clear hr h1 h2 h3
          go_enter Tryd.func19, Tryd.ntmps19
          go_wp2
          go_ret2
          exact opost_no HR.out (by go_grown)
  · rw [if_neg h] at hr
    have d : (ak == bk) = false := by simpa using h
    have HR := Lib.hid hr.symm
    clear hr h
    go_enter Tryd.func19, Tryd.ntmps19
    go_wp2
    go_ret2
    exact opost_no HR.out (by go_grown)
def standM (o r : Int) : Bool := if o = 7 then decide (r = 0) else if o = 8 then !decide (r = 0) else if o = 9 then decide (r < 0) else if o = 10 then decide (r ≤ 0) else if o = 11 then decide (0 < r) else decide (0 ≤ r)
end Go.Proofs.YtlpkeinablekpaaDoor.Evl
