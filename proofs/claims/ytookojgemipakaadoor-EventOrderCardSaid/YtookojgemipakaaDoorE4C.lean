/- What is wrong with an event first. -/
import Derived.Test.YtookojgemipakaaDoorE4A
namespace Go.Proofs.YtookojgemipakaaDoor.E4
open Go.RowKit Go.Proofs.YtookojgemipakaaDoor Go.Proofs.YtookojgemipakaaDoor.Ev Go.Proofs.YtookojgemipakaaDoor.Sch Go.Proofs.YtookojgemipakaaDoor.Ty Go.Proofs.YtookojgemipakaaDoor.Evl
set_option linter.unusedVariables false
set_option maxRecDepth 100000
def TimeB (t : Int) : Bool := decide (0 ≤ t ∧ t ≤ 1099511627776)
theorem time_any (t : Int) (w : World) :
    Calls Tryd.prog 36 #[.int .i64 t] w fun e w' => e = .returned (.bool (TimeB t)) ∧ w = w' := by
  by_cases h0 : 0 ≤ t <;> by_cases h1 : t ≤ 1099511627776
  all_goals
    go_enter Tryd.func36, Tryd.ntmps36
    go_wp2
    go_ret
    exact ⟨by simp [TimeB, *] <;> omega, rfl⟩
/-- What is wrong first. -/
def checkM (r : Bool) (key : ByteArray) (t q : Int) : Int := if r = false then 10 else if keyB key = false then 11 else if TimeB t = false then 12 else if q < 0 then 12 else 0
theorem ck_10 (key : ByteArray) (t q : Int) : checkM false key t q = 10 := rfl
theorem ck_11 {key : ByteArray} (t q : Int) (h : keyB key = false) : checkM true key t q = 11 := by unfold checkM; rw [if_neg (by simp), if_pos h]
theorem ck_12a {key : ByteArray} {t : Int} (q : Int) (h : keyB key = true) (ht : TimeB t = false) : checkM true key t q = 12 := by unfold checkM; rw [if_neg (by simp), if_neg (by simp [h]), if_pos ht]
theorem ck_12b {key : ByteArray} {t q : Int} (h : keyB key = true) (ht : TimeB t = true) (hq : q < 0) : checkM true key t q = 12 := by unfold checkM; rw [if_neg (by simp), if_neg (by simp [h]), if_neg (by simp [ht]), if_pos hq]
theorem ck_0 {key : ByteArray} {t q : Int} (h : keyB key = true) (ht : TimeB t = true) (hq : ¬ q < 0) : checkM true key t q = 0 := by unfold checkM; rw [if_neg (by simp), if_neg (by simp [h]), if_neg (by simp [ht]), if_neg hq]
set_option maxHeartbeats 4000000 in
theorem check_by (pv : Value) (ty key : ByteArray) (t q : Int) (A : Option Addr) (n c : Nat) (w : World) (r : Bool)
    (hT : ∀ X, Below w.heap.size w X → Calls Tryd.prog 35 #[pv, .agg #[.string ty, .string key, .int .i64 t, .int .i64 q, .slice A n c]] X fun e w' => e = .returned (.bool r) ∧ Below X.heap.size X w') :
    Calls Tryd.prog 11 #[pv, .agg #[.string ty, .string key, .int .i64 t, .int .i64 q, .slice A n c]] w fun e w' => e = .returned (.int .i64 (checkM r key t q)) ∧ Below w.heap.size w w' := by
  have hX : Below w.heap.size w (w.alloc (.cells #[.string ty, .string key, .int .i64 t, .int .i64 q, .slice A n c] 24)) := (Below.refl _ w).alloc (Nat.le_refl _) _
  have HX := Lib.hid hX
  have HT := Lib.hid (hT _ hX)
  have HRW : Hid (Row (w.alloc (.cells #[.string ty, .string key, .int .i64 t, .int .i64 q, .slice A n c] 24)) w.heap.size 24 #[.string ty, .string key, .int .i64 t, .int .i64 q, .slice A n c]) := Lib.hid (Row.made w _ _)
  clear hX hT
  go_enter Tryd.func11, Tryd.ntmps11
  go_wp2_with fail
  refine HT.out.mono ?_
  rintro e w1 ⟨rfl, hb1⟩
  have HB1 := Lib.hid (HX.out.trans (hb1.mono HX.out.size))
  have HR1 := Lib.hid (HRW.out.below hb1 HRW.out.lt)
  have c1 : w1.cell? ⟨w.heap.size, 1, none⟩ = some (.string key) := (HR1.out.cell 1).trans rfl
  clear hb1 HT HRW HX
  cases r with
  | false =>
    go_wp2
    go_ret
    exact ⟨by rw [ck_10]; rfl, HB1.out⟩
  | true =>
    go_wp2_with fail
    refine (key_any key _).mono ?_
    obtain ⟨k, hk⟩ : ∃ k, keyB key = k := ⟨_, rfl⟩
    have HK := Lib.hid hk
    rw [hk]
    rintro e w2 ⟨rfl, hb2⟩
    have HB2 := Lib.hid (HB1.out.trans (hb2.mono HB1.out.size))
    have HR2 := Lib.hid (HR1.out.below hb2 HR1.out.lt)
    have d2 : w2.cell? ⟨w.heap.size, 2, none⟩ = some (.int .i64 t) := (HR2.out.cell 2).trans rfl
    have d3 : w2.cell? ⟨w.heap.size, 3, none⟩ = some (.int .i64 q) := (HR2.out.cell 3).trans rfl
    clear hb2 hk c1
    cases k with
    | false =>
      go_wp2
      go_ret
      exact ⟨by rw [ck_11 _ _ HK.out]; rfl, HB2.out⟩
    | true =>
      obtain ⟨b, hb⟩ : ∃ b, TimeB t = b := ⟨_, rfl⟩
      have HT := Lib.hid hb
      have HTA := Lib.hid (time_any t)
      rw [hb] at HTA
      clear hb
      cases b with
      | false =>
        go_wp2_with fail
        refine (HTA.out _).mono ?_
        rintro e w3 ⟨rfl, rfl⟩
        go_wp2
        go_ret
        exact ⟨by rw [ck_12a _ HK.out HT.out]; rfl, HB2.out⟩
      | true =>
        by_cases hq : q < 0
        · have HQ := Lib.hid hq
          have hqd : decide (q < 0) = true := decide_eq_true hq
          clear hq
          go_wp2_with fail
          refine (HTA.out _).mono ?_
          rintro e w3 ⟨rfl, rfl⟩
          go_wp2
          go_ret
          exact ⟨by rw [ck_12b HK.out HT.out HQ.out]; rfl, HB2.out⟩
        · have HQ := Lib.hid hq
          have hqd : decide (q < 0) = false := decide_eq_false hq
          clear hq
          go_wp2_with fail
          refine (HTA.out _).mono ?_
          rintro e w3 ⟨rfl, rfl⟩
          go_wp2
          go_ret
          exact ⟨by rw [ck_0 HK.out HT.out (by have := HQ.out; omega)]; rfl, HB2.out⟩
theorem check_any (p : Option Addr) (ts : List Ty) (ty key : ByteArray) (t q : Int) (A : Option Addr) (n c : Nat) (vs : List VV) (w : World) (hs : Sc w w.heap.size p ts) (hv : VL w w.heap.size (.slice A n c) vs) (hfl : ∀ t ∈ ts, t.2.length ≤ 1000000) (r : Bool) (hr : r = true ↔ TypedP ts ty vs) :
    Calls Tryd.prog 11 #[.pointer p, .agg #[.string ty, .string key, .int .i64 t, .int .i64 q, .slice A n c]] w fun e w' => e = .returned (.int .i64 (checkM r key t q)) ∧ Below w.heap.size w w' :=
  check_by _ ty key t q A n c w r fun X hX => typed_any p ts ty key t q A n c vs X (hs.below hX hX.size) (hv.below hX hX.size) hfl r hr
end Go.Proofs.YtookojgemipakaaDoor.E4
