/- The kind of a variable's field. -/
import Derived.Test.YtopbildpeojgoaaTyG
namespace Go.Proofs.Ytopbildpeojgoaa.Ty
open Go.RowKit Go.Proofs.Ytopbildpeojgoaa Go.Proofs.Ytopbildpeojgoaa.Sch
set_option linter.unusedVariables false
set_option maxRecDepth 100000
/-- Where the first text stands of which something is so; -1: nowhere. -/
def fstS (f : ByteArray → Bool) (L : List ByteArray) : Int := match L.findIdx? f with
  | some k => k
  | none => -1
def NoneUpS (f : ByteArray → Bool) (L : List ByteArray) (k : Nat) : Prop := ∀ j (h : j < L.length), j < k → f L[j] = false
theorem fstS_at {f : ByteArray → Bool} {L : List ByteArray} {k : Nat} (hk : k < L.length) (h : f L[k] = true) (hn : NoneUpS f L k) : fstS f L = k := by
  unfold fstS
  have : L.findIdx? f = some k := by
    rw [List.findIdx?_eq_some_iff_getElem]
    exact ⟨hk, h, fun j hj => by have := hn j (by omega) hj; simp [this]⟩
  rw [this]
theorem fstS_no {f : ByteArray → Bool} {L : List ByteArray} (hn : NoneUpS f L L.length) : fstS f L = -1 := by
  unfold fstS
  have : L.findIdx? f = none := by
    rw [List.findIdx?_eq_none_iff]
    intro x hx
    obtain ⟨j, hj, rfl⟩ := List.getElem_of_mem hx
    exact hn j hj hj
  rw [this]
theorem noneUpS_succ {f : ByteArray → Bool} {L : List ByteArray} {k : Nat} (h : NoneUpS f L k) (hk : k < L.length) (g : f L[k] = false) : NoneUpS f L (k + 1) := fun j hj h1 => by
  by_cases e : j = k
  · subst e; exact g
  · exact h j hj (by omega)
theorem fstS_all (f : ByteArray → Bool) (L : List ByteArray) : decide (fstS (fun x => !f x) L < 0) = L.all f := by
  unfold fstS
  cases h : L.findIdx? (fun x => !f x) with
  | none =>
    rw [List.findIdx?_eq_none_iff] at h
    have : L.all f = true := List.all_eq_true.2 fun x hx => by simpa using h x hx
    rw [this]
    decide
  | some k =>
    rw [List.findIdx?_eq_some_iff_getElem] at h
    obtain ⟨hk, h1, _⟩ := h
    have : L.all f = false := List.all_eq_false.2 ⟨L[k], List.getElem_mem hk, by simpa using h1⟩
    rw [this]
    have : ¬ ((k : Int) < 0) := by omega
    exact decide_eq_false this
/-- What the closure has at hand: the schema, the field's name, the kind. -/
structure Cl (w : World) (b3 b5 b11 : Nat) (p : Option Addr) (ts : List Ty) (f : ByteArray) (kd : Int) : Prop where
  c3 : w.cell? ⟨b3, 0, none⟩ = some (.pointer p)
  c5 : w.cell? ⟨b5, 6, none⟩ = some (.string f)
  c11 : w.cell? ⟨b11, 0, none⟩ = some (.int .i64 kd)
  sc : Sc w w.heap.size p ts
theorem Cl.call {w w' : World} {b3 b5 b11 : Nat} {p : Option Addr} {ts : List Ty} {f : ByteArray} {kd : Int} (h : Cl w b3 b5 b11 p ts f kd) (g : Below w.heap.size w w') : Cl w' b3 b5 b11 p ts f kd :=
  ⟨(g.cell (p := ⟨b3, 0, none⟩) (World.block_lt_of_cell? w ⟨b3, 0, none⟩ h.c3)).trans h.c3, (g.cell (p := ⟨b5, 6, none⟩) (World.block_lt_of_cell? w ⟨b5, 6, none⟩ h.c5)).trans h.c5, (g.cell (p := ⟨b11, 0, none⟩) (World.block_lt_of_cell? w ⟨b11, 0, none⟩ h.c11)).trans h.c11, h.sc.below g g.size⟩
def clF (ts : List Ty) (f : ByteArray) (kd : Int) (nm : ByteArray) : Bool := (fieldS ts nm f).2 == kd
section
variable {p : Option Addr} {ts : List Ty} {f : ByteArray} {kd : Int} {b3 b5 b11 : Nat}
theorem so_s (nm : ByteArray) (w : World) (h : Cl w b3 b5 b11 p ts f kd) (r : Bool) (hr : clF ts f kd nm = r) : Calls Try.prog 250 #[.string nm, .pointer (some ⟨b3, 0, none⟩), .pointer (some ⟨b5, 0, none⟩), .pointer (some ⟨b11, 0, none⟩)] w fun e w' => e = .returned (.bool r) ∧ Below w.heap.size w w' := by
  obtain ⟨x, hx⟩ : ∃ x, (fieldS ts nm f).1 = x := ⟨_, rfl⟩
  obtain ⟨y, hy⟩ : ∃ y, (fieldS ts nm f).2 = y := ⟨_, rfl⟩
  have hr' : (y == kd) = r := by rw [← hr, ← hy]; rfl
  have HA := Lib.hid (fieldS_any p ts nm f w h.sc)
  rw [hx, hy] at HA
  obtain ⟨c3, c5, c11, hsc⟩ := h
  have hb11 : b11 < w.heap.size := World.block_lt_of_cell? w ⟨b11, 0, none⟩ c11
  clear hr hx hy hsc
  go_enter Try.func250, Try.ntmps250
  go_wp2_with fail
  refine HA.out.mono ?_
  rintro e w1 ⟨rfl, hb⟩
  have d11 := (hb.cell (p := ⟨b11, 0, none⟩) hb11).trans c11
  have HB := Lib.hid hb
  clear hb c3 c5 c11
  go_wp2
  go_ret
  exact ⟨rfl, HB.out⟩
theorem not_s (nm : ByteArray) (B : Nat) (w : World) (h : Cl w b3 b5 b11 p ts f kd) (hB : w.cell? ⟨B, 0, none⟩ = some (.func (.func 250) #[] #[.pointer (some ⟨b3, 0, none⟩), .pointer (some ⟨b5, 0, none⟩), .pointer (some ⟨b11, 0, none⟩)])) (r : Bool) (hr : (!(clF ts f kd nm)) = r) :
    Calls Try.prog 254 #[.string nm, .pointer (some ⟨B, 0, none⟩)] w fun e w' => e = .returned (.bool r) ∧ Below w.heap.size w w' := by
  subst hr
  obtain ⟨q, hq⟩ : ∃ q, clF ts f kd nm = q := ⟨_, rfl⟩
  rw [hq]
  have HQ := Lib.hid hq
  have HC := Lib.hid h
  clear hq h
  go_enter Try.func254, Try.ntmps254
  go_wp2_with fail
  refine (so_s nm _ HC.out q HQ.out).mono ?_
  rintro e w' ⟨rfl, hb⟩
  have HB := Lib.hid hb
  clear hb
  go_wp2
  go_ret
  exact ⟨rfl, HB.out⟩
set_option maxHeartbeats 1000000 in
theorem idx_s (v : Value) (L : List ByteArray) (B : Nat) (w : World) (hf : SL w w.heap.size v L) (h : Cl w b3 b5 b11 p ts f kd) (hB : w.cell? ⟨B, 0, none⟩ = some (.func (.func 250) #[] #[.pointer (some ⟨b3, 0, none⟩), .pointer (some ⟨b5, 0, none⟩), .pointer (some ⟨b11, 0, none⟩)])) :
    Calls Try.prog 256 #[v, .func (.func 254) #[] #[.pointer (some ⟨B, 0, none⟩)]] w fun e w' => e = .returned (.int .i64 (fstS (fun x => !(clF ts f kd x)) L)) ∧ Below w.heap.size w w' := by
  have HF := Lib.hid hf
  obtain ⟨A, c, rfl, hn, hcm, hx0⟩ := hf
  have hBl : B < w.heap.size := World.block_lt_of_cell? w ⟨B, 0, none⟩ hB
  have HBC := Lib.hid hB
  have HC := Lib.hid h
  clear hx0 hB h
  go_enter Try.func256, Try.ntmps256
  go_wp2
  go_loopw [8, 5] (fun s s5 wx => ∃ k : Nat, k ≤ L.length ∧ s = .int .i64 k ∧ Hid (Below w.heap.size w wx) ∧ Hid (NoneUpS (fun x => !(clF ts f kd x)) L k)) (fun s _ _ => L.length - (intOf s).toNat)
  case atStart => exact ⟨0, by omega, rfl, Lib.hid (Below.refl _ _), Lib.hid (fun _ _ h => absurd h (by omega))⟩
  case round =>
    obtain ⟨k, hk, rfl, hbw, hno⟩ := hrel
    by_cases hlt : k < L.length
    · obtain ⟨A', c', e1, hx1, hx2, h3⟩ := HF.out.below hbw.out (Nat.le_refl _)
      injection e1 with e1 e2 e3
      subst e1 e3
      clear hx1 hx2 e2
      obtain ⟨g, o, rfl, hg, c0⟩ := h3 k hlt
      obtain ⟨x, hx⟩ : ∃ x, L[k] = x := ⟨_, rfl⟩
      rw [hx] at c0
      have HX := Lib.hid hx
      obtain ⟨r, hr⟩ : ∃ r, (!(clF ts f kd x)) = r := ⟨_, rfl⟩
      have HR := Lib.hid hr
      have HB2 := Lib.hid ((hbw.out.cell (p := ⟨B, 0, none⟩) hBl).trans HBC.out)
      clear h3 hx hr
      cases r with
      | true =>
        go_wp2_with fail
        refine (not_s x B _ (HC.out.call hbw.out) HB2.out true HR.out).mono ?_
        rintro e w' ⟨rfl, hb'⟩
        have HB' := Lib.hid hb'
        clear hb'
        go_wp2
        go_ret
        exact ⟨by rw [fstS_at hlt (by rw [HX.out]; exact HR.out) hno.out]; rfl, hbw.out.trans (HB'.out.mono hbw.out.size)⟩
      | false =>
        go_wp2_with fail
        refine (not_s x B _ (HC.out.call hbw.out) HB2.out false HR.out).mono ?_
        rintro e w' ⟨rfl, hb'⟩
        have HB' := Lib.hid (hbw.out.trans (hb'.mono hbw.out.size))
        clear hb'
        go_wp2
        go_roundw
        case rel => exact ⟨k + 1, by omega, by go_num, HB', Lib.hid (noneUpS_succ hno.out hlt (by rw [HX.out]; exact HR.out))⟩
        case measure => simp [intOf]; omega
    · have hk' : k = L.length := by omega
      subst hk'
      go_wp2
      go_ret
      exact ⟨by rw [fstS_no hno.out]; rfl, hbw.out⟩
theorem cont_s (v : Value) (L : List ByteArray) (B : Nat) (w : World) (hf : SL w w.heap.size v L) (h : Cl w b3 b5 b11 p ts f kd) (hB : w.cell? ⟨B, 0, none⟩ = some (.func (.func 250) #[] #[.pointer (some ⟨b3, 0, none⟩), .pointer (some ⟨b5, 0, none⟩), .pointer (some ⟨b11, 0, none⟩)])) (q : Int) (hq : fstS (fun x => !(clF ts f kd x)) L = q) :
    Calls Try.prog 253 #[v, .func (.func 254) #[] #[.pointer (some ⟨B, 0, none⟩)]] w fun e w' => e = .returned (.bool (decide (0 ≤ q))) ∧ Below w.heap.size w w' := by
  subst hq
  have HF := Lib.hid hf
  have HBC := Lib.hid hB
  have HC := Lib.hid h
  clear hf hB h
  go_enter Try.func253, Try.ntmps253
  go_wp2_with fail
  refine (idx_s v L B _ HF.out HC.out HBC.out).mono ?_
  rintro e w' ⟨rfl, hb⟩
  have HB := Lib.hid hb
  clear hb
  go_wp2
  go_ret
  exact ⟨rfl, HB.out⟩
theorem all_s (v : Value) (L : List ByteArray) (w : World) (hf : SL w w.heap.size v L) (h : Cl w b3 b5 b11 p ts f kd) (r : Bool) (hr : L.all (clF ts f kd) = r) :
    Calls Try.prog 249 #[v, .func (.func 250) #[] #[.pointer (some ⟨b3, 0, none⟩), .pointer (some ⟨b5, 0, none⟩), .pointer (some ⟨b11, 0, none⟩)]] w fun e w' => e = .returned (.bool r) ∧ Below w.heap.size w w' := by
  have HF := Lib.hid hf
  have HR := Lib.hid hr
  have HC := Lib.hid h
  clear hf hr h
  obtain ⟨q, hq⟩ : ∃ q, fstS (fun x => !(clF ts f kd x)) L = q := ⟨_, rfl⟩
  have hqr : decide (q < 0) = r := by rw [← hq, ← HR.out]; exact fstS_all _ _
  have HQ := Lib.hid hq
  clear hq
  go_enter Try.func249, Try.ntmps249
  go_wp2_with fail
  refine (cont_s v L w.heap.size _ (HF.out.below ((Below.refl _ w).alloc (Nat.le_refl _) _) (by simp)) (HC.out.call ((Below.refl _ w).alloc (Nat.le_refl _) _)) (by simp) q HQ.out).mono ?_
  rintro e w' ⟨rfl, hb⟩
  have HB := Lib.hid (((Below.refl _ w).alloc (Nat.le_refl _) _).trans (hb.mono (by simp)))
  clear hb
  cases r
  · have hq0 : ¬ q < 0 := of_decide_eq_false hqr
    have hq1 : decide (0 ≤ q) = true := decide_eq_true (by omega)
    clear hqr
    go_wp2
    go_ret
    exact ⟨rfl, HB.out⟩
  · have hq0 : q < 0 := of_decide_eq_true hqr
    have hq1 : decide (0 ≤ q) = false := decide_eq_false (by omega)
    clear hqr
    go_wp2
    go_ret
    exact ⟨rfl, HB.out⟩
end
end Go.Proofs.Ytopbildpeojgoaa.Ty
