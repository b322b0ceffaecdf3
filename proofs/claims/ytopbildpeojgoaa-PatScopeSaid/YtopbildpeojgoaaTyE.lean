/- Whether something is so of all kinds. -/
import Derived.Test.YtopbildpeojgoaaTyD
namespace Go.Proofs.Ytopbildpeojgoaa.Ty
open Go.RowKit Go.Proofs.Ytopbildpeojgoaa Go.Proofs.Ytopbildpeojgoaa.Sch
set_option linter.unusedVariables false
set_option maxRecDepth 100000
/-- Numbers as they lie in memory. -/
def IL (w : World) (B : Nat) (v : Value) (L : List Int) : Prop :=
  ∃ A c, v = .slice A L.length c ∧ L.length ≤ c ∧ c ≤ 9223372036854775807 ∧ ∀ k (h : k < L.length), ∃ g o, A = some ⟨g, o, none⟩ ∧ g < B ∧ w.cell? ⟨g, o + k, none⟩ = some (.int .i64 L[k])
theorem IL.below {w w' : World} {B B' : Nat} {v : Value} {L : List Int} (h : IL w B v L) (hb : Below B w w') (hB : B ≤ B') : IL w' B' v L := by
  obtain ⟨A, c, rfl, h1, h2, h3⟩ := h
  refine ⟨A, c, rfl, h1, h2, fun k hk => ?_⟩
  obtain ⟨g, o, e, hg, hc⟩ := h3 k hk
  exact ⟨g, o, e, by omega, (hb.cell (p := ⟨g, o + k, none⟩) hg).trans hc⟩
theorem IL.zero (w : World) (B : Nat) : IL w B (.slice none 0 0) [] := ⟨none, 0, rfl, by simp, by omega, fun k hk => by simp at hk⟩
/-- Where the first thing stands of which something is so; -1: nowhere. -/
def fstI (f : Int → Bool) (L : List Int) : Int := match L.findIdx? f with
  | some k => k
  | none => -1
def NoneUp (f : Int → Bool) (L : List Int) (k : Nat) : Prop := ∀ j (h : j < L.length), j < k → f L[j] = false
theorem fst_at {f : Int → Bool} {L : List Int} {k : Nat} (hk : k < L.length) (h : f L[k] = true) (hn : NoneUp f L k) : fstI f L = k := by
  unfold fstI
  have : L.findIdx? f = some k := by
    rw [List.findIdx?_eq_some_iff_getElem]
    exact ⟨hk, h, fun j hj => by have := hn j (by omega) hj; simp [this]⟩
  rw [this]
theorem fst_no {f : Int → Bool} {L : List Int} (hn : NoneUp f L L.length) : fstI f L = -1 := by
  unfold fstI
  have : L.findIdx? f = none := by
    rw [List.findIdx?_eq_none_iff]
    intro x hx
    obtain ⟨j, hj, rfl⟩ := List.getElem_of_mem hx
    exact hn j hj hj
  rw [this]
theorem noneUp_succ {f : Int → Bool} {L : List Int} {k : Nat} (h : NoneUp f L k) (hk : k < L.length) (g : f L[k] = false) : NoneUp f L (k + 1) := fun j hj h1 => by
  by_cases e : j = k
  · subst e; exact g
  · exact h j hj (by omega)
theorem fst_all (f : Int → Bool) (L : List Int) : decide (fstI (fun x => !f x) L < 0) = L.all f := by
  unfold fstI
  cases h : L.findIdx? (fun x => !f x) with
  | none =>
    rw [List.findIdx?_eq_none_iff] at h
    have : L.all f = true := List.all_eq_true.2 fun x hx => by simpa using h x hx
    rw [this]
    decide
  | some k =>
    rw [List.findIdx?_eq_some_iff_getElem] at h
    obtain ⟨hk, h1, _⟩ := h
    have : L.all f = false := List.all_eq_false.2 ⟨L[k], List.getElem_mem hk, by simpa using h1⟩
    rw [this]
    have : ¬ ((k : Int) < 0) := by omega
    exact decide_eq_false this
theorem so_1 (x : Int) (w : World) (r : Bool) (hr : (x == 1) = r) : Calls Try.prog 242 #[.int .i64 x] w fun e w' => e = .returned (.bool r) ∧ w = w' := by
  go_enter Try.func242, Try.ntmps242
  go_wp2
  go_ret
  exact ⟨rfl, rfl⟩
theorem not_1 (x : Int) (B : Nat) (w : World) (hB : w.cell? ⟨B, 0, none⟩ = some (.func (.func 242) #[] #[])) (r : Bool) (hr : (!(x == 1)) = r) : Calls Try.prog 252 #[.int .i64 x, .pointer (some ⟨B, 0, none⟩)] w fun e w' => e = .returned (.bool r) ∧ w = w' := by
  subst hr
  obtain ⟨q, hq⟩ : ∃ q, (x == 1) = q := ⟨_, rfl⟩
  rw [hq]
  have HQ := Lib.hid hq
  clear hq
  go_enter Try.func252, Try.ntmps252
  go_wp2_with fail
  refine (so_1 x _ q HQ.out).mono ?_
  rintro e w' ⟨rfl, rfl⟩
  go_wp2
  go_ret
  exact ⟨rfl, rfl⟩
set_option maxHeartbeats 1000000 in
theorem idx_1 (v : Value) (L : List Int) (B : Nat) (w : World) (hf : IL w w.heap.size v L) (hB : w.cell? ⟨B, 0, none⟩ = some (.func (.func 242) #[] #[])) :
    Calls Try.prog 255 #[v, .func (.func 252) #[] #[.pointer (some ⟨B, 0, none⟩)]] w fun e w' => e = .returned (.int .i64 (fstI (fun x => !(x == 1)) L)) ∧ w = w' := by
  have HF := Lib.hid hf
  obtain ⟨A, c, rfl, hn, hcm, hx0⟩ := hf
  have HBC := Lib.hid hB
  clear hx0 hB
  go_enter Try.func255, Try.ntmps255
  go_wp2
  go_loop [8, 5] (fun s s5 => ∃ k : Nat, k ≤ L.length ∧ s = .int .i64 k ∧ Hid (NoneUp (fun x => !(x == 1)) L k)) (fun s _ => L.length - (intOf s).toNat)
  case atStart => exact ⟨0, by omega, rfl, Lib.hid (fun _ _ h => absurd h (by omega))⟩
  case round =>
    obtain ⟨k, hk, rfl, hno⟩ := hrel
    by_cases hlt : k < L.length
    · obtain ⟨A', c', e1, hx1, hx2, h3⟩ := HF.out
      injection e1 with e1 e2 e3
      subst e1 e3
      clear hx1 hx2 e2
      obtain ⟨g, o, rfl, hg, c0⟩ := h3 k hlt
      obtain ⟨x, hx⟩ : ∃ x, L[k] = x := ⟨_, rfl⟩
      rw [hx] at c0
      have HX := Lib.hid hx
      obtain ⟨r, hr⟩ : ∃ r, (!(x == 1)) = r := ⟨_, rfl⟩
      have HR := Lib.hid hr
      clear h3 hx hr
      cases r with
      | true =>
        go_wp2_with fail
        refine (not_1 x B _ HBC.out true HR.out).mono ?_
        rintro e w' ⟨rfl, rfl⟩
        go_wp2
        go_ret
        exact ⟨by rw [fst_at hlt (by rw [HX.out]; exact HR.out) hno.out]; rfl, rfl⟩
      | false =>
        go_wp2_with fail
        refine (not_1 x B _ HBC.out false HR.out).mono ?_
        rintro e w' ⟨rfl, rfl⟩
        go_wp2
        go_round
        case rel => exact ⟨k + 1, by omega, by go_num, Lib.hid (noneUp_succ hno.out hlt (by rw [HX.out]; exact HR.out))⟩
        case measure => simp [intOf]; omega
    · have hk' : k = L.length := by omega
      subst hk'
      go_wp2
      go_ret
      exact ⟨by rw [fst_no hno.out]; rfl, rfl⟩
theorem cont_1 (v : Value) (L : List Int) (B : Nat) (w : World) (hf : IL w w.heap.size v L) (hB : w.cell? ⟨B, 0, none⟩ = some (.func (.func 242) #[] #[])) (q : Int) (hq : fstI (fun x => !(x == 1)) L = q) :
    Calls Try.prog 251 #[v, .func (.func 252) #[] #[.pointer (some ⟨B, 0, none⟩)]] w fun e w' => e = .returned (.bool (decide (0 ≤ q))) ∧ w = w' := by
  subst hq
  have HF := Lib.hid hf
  have HBC := Lib.hid hB
  clear hf hB
  go_enter Try.func251, Try.ntmps251
  go_wp2_with fail
  refine (idx_1 v L B _ HF.out HBC.out).mono ?_
  rintro e w' ⟨rfl, rfl⟩
  go_wp2
  go_ret
  exact ⟨rfl, rfl⟩
theorem all_1 (v : Value) (L : List Int) (w : World) (hf : IL w w.heap.size v L) (r : Bool) (hr : L.all (fun x => x == 1) = r) :
    Calls Try.prog 241 #[v, .func (.func 242) #[] #[]] w fun e w' => e = .returned (.bool r) ∧ Below w.heap.size w w' := by
  have HF := Lib.hid hf
  have HR := Lib.hid hr
  clear hf hr
  obtain ⟨q, hq⟩ : ∃ q, fstI (fun x => !(x == 1)) L = q := ⟨_, rfl⟩
  have hqr : decide (q < 0) = r := by rw [← hq, ← HR.out]; exact fst_all _ _
  have HQ := Lib.hid hq
  clear hq
  go_enter Try.func241, Try.ntmps241
  go_wp2_with fail
  refine (cont_1 v L w.heap.size _ (HF.out.below ((Below.refl _ w).alloc (Nat.le_refl _) _) (by simp)) (by simp) q HQ.out).mono ?_
  rintro e w' ⟨rfl, rfl⟩
  cases r
  · have hq0 : ¬ q < 0 := of_decide_eq_false hqr
    have hq1 : decide (0 ≤ q) = true := decide_eq_true (by omega)
    clear hqr
    go_wp2
    go_ret
    exact ⟨rfl, by go_grown⟩
  · have hq0 : q < 0 := of_decide_eq_true hqr
    have hq1 : decide (0 ≤ q) = false := decide_eq_false (by omega)
    clear hqr
    go_wp2
    go_ret
    exact ⟨rfl, by go_grown⟩
theorem so_3 (x : Int) (w : World) (r : Bool) (hr : (x == 3) = r) : Calls Try.prog 243 #[.int .i64 x] w fun e w' => e = .returned (.bool r) ∧ w = w' := by
  go_enter Try.func243, Try.ntmps243
  go_wp2
  go_ret
  exact ⟨rfl, rfl⟩
theorem not_3 (x : Int) (B : Nat) (w : World) (hB : w.cell? ⟨B, 0, none⟩ = some (.func (.func 243) #[] #[])) (r : Bool) (hr : (!(x == 3)) = r) : Calls Try.prog 252 #[.int .i64 x, .pointer (some ⟨B, 0, none⟩)] w fun e w' => e = .returned (.bool r) ∧ w = w' := by
  subst hr
  obtain ⟨q, hq⟩ : ∃ q, (x == 3) = q := ⟨_, rfl⟩
  rw [hq]
  have HQ := Lib.hid hq
  clear hq
  go_enter Try.func252, Try.ntmps252
  go_wp2_with fail
  refine (so_3 x _ q HQ.out).mono ?_
  rintro e w' ⟨rfl, rfl⟩
  go_wp2
  go_ret
  exact ⟨rfl, rfl⟩
set_option maxHeartbeats 1000000 in
theorem idx_3 (v : Value) (L : List Int) (B : Nat) (w : World) (hf : IL w w.heap.size v L) (hB : w.cell? ⟨B, 0, none⟩ = some (.func (.func 243) #[] #[])) :
    Calls Try.prog 255 #[v, .func (.func 252) #[] #[.pointer (some ⟨B, 0, none⟩)]] w fun e w' => e = .returned (.int .i64 (fstI (fun x => !(x == 3)) L)) ∧ w = w' := by
  have HF := Lib.hid hf
  obtain ⟨A, c, rfl, hn, hcm, hx0⟩ := hf
  have HBC := Lib.hid hB
  clear hx0 hB
  go_enter Try.func255, Try.ntmps255
  go_wp2
  go_loop [8, 5] (fun s s5 => ∃ k : Nat, k ≤ L.length ∧ s = .int .i64 k ∧ Hid (NoneUp (fun x => !(x == 3)) L k)) (fun s _ => L.length - (intOf s).toNat)
  case atStart => exact ⟨0, by omega, rfl, Lib.hid (fun _ _ h => absurd h (by omega))⟩
  case round =>
    obtain ⟨k, hk, rfl, hno⟩ := hrel
    by_cases hlt : k < L.length
    · obtain ⟨A', c', e1, hx1, hx2, h3⟩ := HF.out
      injection e1 with e1 e2 e3
      subst e1 e3
      clear hx1 hx2 e2
      obtain ⟨g, o, rfl, hg, c0⟩ := h3 k hlt
      obtain ⟨x, hx⟩ : ∃ x, L[k] = x := ⟨_, rfl⟩
      rw [hx] at c0
      have HX := Lib.hid hx
      obtain ⟨r, hr⟩ : ∃ r, (!(x == 3)) = r := ⟨_, rfl⟩
      have HR := Lib.hid hr
      clear h3 hx hr
      cases r with
      | true =>
        go_wp2_with fail
        refine (not_3 x B _ HBC.out true HR.out).mono ?_
        rintro e w' ⟨rfl, rfl⟩
        go_wp2
        go_ret
        exact ⟨by rw [fst_at hlt (by rw [HX.out]; exact HR.out) hno.out]; rfl, rfl⟩
      | false =>
        go_wp2_with fail
        refine (not_3 x B _ HBC.out false HR.out).mono ?_
        rintro e w' ⟨rfl, rfl⟩
        go_wp2
        go_round
        case rel => exact ⟨k + 1, by omega, by go_num, Lib.hid (noneUp_succ hno.out hlt (by rw [HX.out]; exact HR.out))⟩
        case measure => simp [intOf]; omega
    · have hk' : k = L.length := by omega
      subst hk'
      go_wp2
      go_ret
      exact ⟨by rw [fst_no hno.out]; rfl, rfl⟩
theorem cont_3 (v : Value) (L : List Int) (B : Nat) (w : World) (hf : IL w w.heap.size v L) (hB : w.cell? ⟨B, 0, none⟩ = some (.func (.func 243) #[] #[])) (q : Int) (hq : fstI (fun x => !(x == 3)) L = q) :
    Calls Try.prog 251 #[v, .func (.func 252) #[] #[.pointer (some ⟨B, 0, none⟩)]] w fun e w' => e = .returned (.bool (decide (0 ≤ q))) ∧ w = w' := by
  subst hq
  have HF := Lib.hid hf
  have HBC := Lib.hid hB
  clear hf hB
  go_enter Try.func251, Try.ntmps251
  go_wp2_with fail
  refine (idx_3 v L B _ HF.out HBC.out).mono ?_
  rintro e w' ⟨rfl, rfl⟩
  go_wp2
  go_ret
  exact ⟨rfl, rfl⟩
theorem all_3 (v : Value) (L : List Int) (w : World) (hf : IL w w.heap.size v L) (r : Bool) (hr : L.all (fun x => x == 3) = r) :
    Calls Try.prog 241 #[v, .func (.func 243) #[] #[]] w fun e w' => e = .returned (.bool r) ∧ Below w.heap.size w w' := by
  have HF := Lib.hid hf
  have HR := Lib.hid hr
  clear hf hr
  obtain ⟨q, hq⟩ : ∃ q, fstI (fun x => !(x == 3)) L = q := ⟨_, rfl⟩
  have hqr : decide (q < 0) = r := by rw [← hq, ← HR.out]; exact fst_all _ _
  have HQ := Lib.hid hq
  clear hq
  go_enter Try.func241, Try.ntmps241
  go_wp2_with fail
  refine (cont_3 v L w.heap.size _ (HF.out.below ((Below.refl _ w).alloc (Nat.le_refl _) _) (by simp)) (by simp) q HQ.out).mono ?_
  rintro e w' ⟨rfl, rfl⟩
  cases r
  · have hq0 : ¬ q < 0 := of_decide_eq_false hqr
    have hq1 : decide (0 ≤ q) = true := decide_eq_true (by omega)
    clear hqr
    go_wp2
    go_ret
    exact ⟨rfl, by go_grown⟩
  · have hq0 : q < 0 := of_decide_eq_true hqr
    have hq1 : decide (0 ≤ q) = false := decide_eq_false (by omega)
    clear hqr
    go_wp2
    go_ret
    exact ⟨rfl, by go_grown⟩
theorem so_y (x : Int) (y : Int) (cb yg yo yn yc : Nat) (w : World) (hY : w.cell? ⟨cb, 0, none⟩ = some (.slice (some ⟨yg, yo, none⟩) yn yc) ∧ w.cell? ⟨yg, yo, none⟩ = some (.int .i64 y) ∧ 0 < yn) (r : Bool) (hr : (x == y) = r) : Calls Try.prog 244 #[.int .i64 x, .pointer (some ⟨cb, 0, none⟩)] w fun e w' => e = .returned (.bool r) ∧ w = w' := by
  obtain ⟨hY1, hY2, hY3⟩ := hY
  go_enter Try.func244, Try.ntmps244
  go_wp2
  go_ret
  exact ⟨rfl, rfl⟩
theorem not_y (x : Int) (y : Int) (cb yg yo yn yc : Nat) (B : Nat) (w : World) (hY : w.cell? ⟨cb, 0, none⟩ = some (.slice (some ⟨yg, yo, none⟩) yn yc) ∧ w.cell? ⟨yg, yo, none⟩ = some (.int .i64 y) ∧ 0 < yn) (hB : w.cell? ⟨B, 0, none⟩ = some (.func (.func 244) #[] #[.pointer (some ⟨cb, 0, none⟩)])) (r : Bool) (hr : (!(x == y)) = r) : Calls Try.prog 252 #[.int .i64 x, .pointer (some ⟨B, 0, none⟩)] w fun e w' => e = .returned (.bool r) ∧ w = w' := by
  subst hr
  obtain ⟨q, hq⟩ : ∃ q, (x == y) = q := ⟨_, rfl⟩
  rw [hq]
  have HQ := Lib.hid hq
  clear hq
  have HY := Lib.hid hY
  clear hY
  go_enter Try.func252, Try.ntmps252
  go_wp2_with fail
  refine (so_y x y cb yg yo yn yc _ HY.out q HQ.out).mono ?_
  rintro e w' ⟨rfl, rfl⟩
  go_wp2
  go_ret
  exact ⟨rfl, rfl⟩
set_option maxHeartbeats 1000000 in
theorem idx_y (v : Value) (L : List Int) (y : Int) (cb yg yo yn yc : Nat) (B : Nat) (w : World) (hf : IL w w.heap.size v L) (hY : w.cell? ⟨cb, 0, none⟩ = some (.slice (some ⟨yg, yo, none⟩) yn yc) ∧ w.cell? ⟨yg, yo, none⟩ = some (.int .i64 y) ∧ 0 < yn) (hB : w.cell? ⟨B, 0, none⟩ = some (.func (.func 244) #[] #[.pointer (some ⟨cb, 0, none⟩)])) :
    Calls Try.prog 255 #[v, .func (.func 252) #[] #[.pointer (some ⟨B, 0, none⟩)]] w fun e w' => e = .returned (.int .i64 (fstI (fun x => !(x == y)) L)) ∧ w = w' := by
  have HF := Lib.hid hf
  obtain ⟨A, c, rfl, hn, hcm, hx0⟩ := hf
  have HBC := Lib.hid hB
  have HY := Lib.hid hY
  clear hY
  clear hx0 hB
  go_enter Try.func255, Try.ntmps255
  go_wp2
  go_loop [8, 5] (fun s s5 => ∃ k : Nat, k ≤ L.length ∧ s = .int .i64 k ∧ Hid (NoneUp (fun x => !(x == y)) L k)) (fun s _ => L.length - (intOf s).toNat)
  case atStart => exact ⟨0, by omega, rfl, Lib.hid (fun _ _ h => absurd h (by omega))⟩
  case round =>
    obtain ⟨k, hk, rfl, hno⟩ := hrel
    by_cases hlt : k < L.length
    · obtain ⟨A', c', e1, hx1, hx2, h3⟩ := HF.out
      injection e1 with e1 e2 e3
      subst e1 e3
      clear hx1 hx2 e2
      obtain ⟨g, o, rfl, hg, c0⟩ := h3 k hlt
      obtain ⟨x, hx⟩ : ∃ x, L[k] = x := ⟨_, rfl⟩
      rw [hx] at c0
      have HX := Lib.hid hx
      obtain ⟨r, hr⟩ : ∃ r, (!(x == y)) = r := ⟨_, rfl⟩
      have HR := Lib.hid hr
      clear h3 hx hr
      cases r with
      | true =>
        go_wp2_with fail
        refine (not_y x y cb yg yo yn yc B _ HY.out HBC.out true HR.out).mono ?_
        rintro e w' ⟨rfl, rfl⟩
        go_wp2
        go_ret
        exact ⟨by rw [fst_at hlt (by rw [HX.out]; exact HR.out) hno.out]; rfl, rfl⟩
      | false =>
        go_wp2_with fail
        refine (not_y x y cb yg yo yn yc B _ HY.out HBC.out false HR.out).mono ?_
        rintro e w' ⟨rfl, rfl⟩
        go_wp2
        go_round
        case rel => exact ⟨k + 1, by omega, by go_num, Lib.hid (noneUp_succ hno.out hlt (by rw [HX.out]; exact HR.out))⟩
        case measure => simp [intOf]; omega
    · have hk' : k = L.length := by omega
      subst hk'
      go_wp2
      go_ret
      exact ⟨by rw [fst_no hno.out]; rfl, rfl⟩
theorem cont_y (v : Value) (L : List Int) (y : Int) (cb yg yo yn yc : Nat) (B : Nat) (w : World) (hf : IL w w.heap.size v L) (hY : w.cell? ⟨cb, 0, none⟩ = some (.slice (some ⟨yg, yo, none⟩) yn yc) ∧ w.cell? ⟨yg, yo, none⟩ = some (.int .i64 y) ∧ 0 < yn) (hB : w.cell? ⟨B, 0, none⟩ = some (.func (.func 244) #[] #[.pointer (some ⟨cb, 0, none⟩)])) (q : Int) (hq : fstI (fun x => !(x == y)) L = q) :
    Calls Try.prog 251 #[v, .func (.func 252) #[] #[.pointer (some ⟨B, 0, none⟩)]] w fun e w' => e = .returned (.bool (decide (0 ≤ q))) ∧ w = w' := by
  subst hq
  have HF := Lib.hid hf
  have HBC := Lib.hid hB
  have HY := Lib.hid hY
  clear hY
  clear hf hB
  go_enter Try.func251, Try.ntmps251
  go_wp2_with fail
  refine (idx_y v L y cb yg yo yn yc B _ HF.out HY.out HBC.out).mono ?_
  rintro e w' ⟨rfl, rfl⟩
  go_wp2
  go_ret
  exact ⟨rfl, rfl⟩
theorem all_y (v : Value) (L : List Int) (y : Int) (cb yg yo yn yc : Nat) (w : World) (hf : IL w w.heap.size v L) (hY : w.cell? ⟨cb, 0, none⟩ = some (.slice (some ⟨yg, yo, none⟩) yn yc) ∧ w.cell? ⟨yg, yo, none⟩ = some (.int .i64 y) ∧ 0 < yn) (r : Bool) (hr : L.all (fun x => x == y) = r) :
    Calls Try.prog 241 #[v, .func (.func 244) #[] #[.pointer (some ⟨cb, 0, none⟩)]] w fun e w' => e = .returned (.bool r) ∧ Below w.heap.size w w' := by
  have HF := Lib.hid hf
  have HR := Lib.hid hr
  have HY := Lib.hid hY
  clear hY
  clear hf hr
  obtain ⟨q, hq⟩ : ∃ q, fstI (fun x => !(x == y)) L = q := ⟨_, rfl⟩
  have hqr : decide (q < 0) = r := by rw [← hq, ← HR.out]; exact fst_all _ _
  have HQ := Lib.hid hq
  clear hq
  go_enter Try.func241, Try.ntmps241
  go_wp2_with fail
  refine (cont_y v L y cb yg yo yn yc w.heap.size _ (HF.out.below ((Below.refl _ w).alloc (Nat.le_refl _) _) (by simp)) ⟨(((Below.refl _ w).alloc (Nat.le_refl _) _).cell (p := ⟨cb, 0, none⟩) (World.block_lt_of_cell? w ⟨cb, 0, none⟩ HY.out.1)).trans HY.out.1, (((Below.refl _ w).alloc (Nat.le_refl _) _).cell (p := ⟨yg, yo, none⟩) (World.block_lt_of_cell? w ⟨yg, yo, none⟩ HY.out.2.1)).trans HY.out.2.1, HY.out.2.2⟩ (by simp) q HQ.out).mono ?_
  rintro e w' ⟨rfl, rfl⟩
  cases r
  · have hq0 : ¬ q < 0 := of_decide_eq_false hqr
    have hq1 : decide (0 ≤ q) = true := decide_eq_true (by omega)
    clear hqr
    go_wp2
    go_ret
    exact ⟨rfl, by go_grown⟩
  · have hq0 : q < 0 := of_decide_eq_true hqr
    have hq1 : decide (0 ≤ q) = false := decide_eq_false (by omega)
    clear hqr
    go_wp2
    go_ret
    exact ⟨rfl, by go_grown⟩
end Go.Proofs.Ytopbildpeojgoaa.Ty
