/- Fields and types as they lie in memory; where the one of a name stands. -/
import Derived.Test.YtookojgemipakaaDoorSchB
import Derived.Test.YtookojgemipakaaDoorSeg
namespace Go.Proofs.YtookojgemipakaaDoor.Sch
open Go.RowKit Go.Proofs.YtookojgemipakaaDoor
set_option linter.unusedVariables false

theorem cell_same {w w' : World} {p : Addr} (h : w'.heap[p.block]? = w.heap[p.block]?) : w'.cell? p = w.cell? p := by unfold World.cell?; rw [h]
abbrev Fld := ByteArray × Int
/-- A slice of fields, in blocks of which S speaks. -/
def FsS (w : World) (S : Nat → Prop) (v : Value) (fs : List Fld) : Prop :=
  ∃ A c, v = .slice A fs.length c ∧ fs.length ≤ c ∧ c ≤ 9223372036854775807 ∧
    ∀ k (h : k < fs.length), ∃ g o, A = some ⟨g, o, none⟩ ∧ S g ∧ w.cell? ⟨g, o + k * 2, none⟩ = some (.string fs[k].1) ∧ w.cell? ⟨g, o + k * 2 + 1, none⟩ = some (.int .i64 fs[k].2)
theorem FsS.keep {w w' : World} {S S' : Nat → Prop} {v : Value} {fs : List Fld} (h : FsS w S v fs) (hk : ∀ g, g < w.heap.size → S g → w'.heap[g]? = w.heap[g]? ∧ S' g) : FsS w' S' v fs := by
  obtain ⟨A, c, rfl, h1, h2, h3⟩ := h
  refine ⟨A, c, rfl, h1, h2, fun k hk' => ?_⟩
  obtain ⟨g, o, e, hs, c0, c1⟩ := h3 k hk'
  obtain ⟨q, hs'⟩ := hk g (World.block_lt_of_cell? w _ c0) hs
  exact ⟨g, o, e, hs', (cell_same (p := ⟨g, o + k * 2, none⟩) q).trans c0, (cell_same (p := ⟨g, o + k * 2 + 1, none⟩) q).trans c1⟩
/-- .. in blocks that lie below B. -/
def Fs (w : World) (B : Nat) (v : Value) (fs : List Fld) : Prop := FsS w (· < B) v fs
theorem Fs.below {w w' : World} {B B' : Nat} {v : Value} {fs : List Fld} (h : Fs w B v fs) (hb : Below B w w') (hB : B ≤ B') : Fs w' B' v fs :=
  FsS.keep h fun g _ hs => ⟨hb.block g hs, Nat.lt_of_lt_of_le hs hB⟩
abbrev Ty := ByteArray × List Fld
/-- A slice of types, in blocks that lie below B. -/
def Ts (w : World) (B : Nat) (v : Value) (ts : List Ty) : Prop :=
  ∃ A c, v = .slice A ts.length c ∧ ts.length ≤ c ∧ c ≤ 9223372036854775807 ∧
    ∀ k (h : k < ts.length), ∃ g o fv, A = some ⟨g, o, none⟩ ∧ g < B ∧ w.cell? ⟨g, o + k * 2, none⟩ = some (.string ts[k].1) ∧ w.cell? ⟨g, o + k * 2 + 1, none⟩ = some fv ∧ Fs w B fv ts[k].2
theorem Ts.below {w w' : World} {B B' : Nat} {v : Value} {ts : List Ty} (h : Ts w B v ts) (hb : Below B w w') (hB : B ≤ B') : Ts w' B' v ts := by
  obtain ⟨A, c, rfl, h1, h2, h3⟩ := h
  refine ⟨A, c, rfl, h1, h2, fun k hk' => ?_⟩
  obtain ⟨g, o, fv, e, hs, c0, c1, hf⟩ := h3 k hk'
  exact ⟨g, o, fv, e, by omega, (hb.cell (p := ⟨g, o + k * 2, none⟩) hs).trans c0, (hb.cell (p := ⟨g, o + k * 2 + 1, none⟩) hs).trans c1, hf.below hb hB⟩
/-- The place of a name; -1: it is none's. -/
def idx (l : List ByteArray) (nm : ByteArray) : Int := match l.findIdx? (fun x => x.toList == nm.toList) with
  | some k => k
  | none => -1
theorem idx_hit {l : List ByteArray} {nm : ByteArray} {k : Nat} (hk : k < l.length) (h : l[k].toList = nm.toList) (hn : ∀ j (hj : j < l.length), j < k → l[j].toList ≠ nm.toList) : idx l nm = k := by
  unfold idx
  have : l.findIdx? (fun x => x.toList == nm.toList) = some k := by
    rw [List.findIdx?_eq_some_iff_getElem]
    exact ⟨hk, by simpa using h, fun j hj => by simpa using hn j (by omega) hj⟩
  rw [this]
theorem idx_miss {l : List ByteArray} {nm : ByteArray} (hn : ∀ j (hj : j < l.length), l[j].toList ≠ nm.toList) : idx l nm = -1 := by
  unfold idx
  have : l.findIdx? (fun x => x.toList == nm.toList) = none := by
    rw [List.findIdx?_eq_none_iff]
    intro x hx
    obtain ⟨j, hj, rfl⟩ := List.getElem_of_mem hx
    simpa using hn j hj
  rw [this]
theorem idx_lt {l : List ByteArray} {nm : ByteArray} : idx l nm < l.length ∧ -1 ≤ idx l nm := by
  unfold idx
  cases h : l.findIdx? (fun x => x.toList == nm.toList) with
  | none => simp; omega
  | some k =>
    rw [List.findIdx?_eq_some_iff_getElem] at h
    obtain ⟨hk, _⟩ := h
    simp; omega
set_option maxHeartbeats 800000 in
theorem fieldEq_any (n nm : ByteArray) (k : Int) (B : Nat) (w : World) (hc : w.cell? ⟨B, 0, none⟩ = some (.string nm)) (r : Bool) (hr : (n.toList == nm.toList) = r) :
    Calls Tryd.prog 76 #[.agg #[.string n, .int .i64 k], .pointer (some ⟨B, 0, none⟩)] w fun e w' => e = .returned (.bool r) ∧ Below w.heap.size w w' := by
  have hB : B < w.heap.size := World.block_lt_of_cell? w ⟨B, 0, none⟩ hc
  have hne : B ≠ w.heap.size := by omega
  go_enter Tryd.func76, Tryd.ntmps76
  go_wp2
  all_goals
    go_ret
    exact ⟨rfl, (Below.refl _ w).alloc (Nat.le_refl _) _⟩
set_option maxHeartbeats 800000 in
theorem typeEq_any (n nm : ByteArray) (v : Value) (B : Nat) (w : World) (hc : w.cell? ⟨B, 0, none⟩ = some (.string nm)) (r : Bool) (hr : (n.toList == nm.toList) = r) :
    Calls Tryd.prog 57 #[.agg #[.string n, v], .pointer (some ⟨B, 0, none⟩)] w fun e w' => e = .returned (.bool r) ∧ Below w.heap.size w w' := by
  have hB : B < w.heap.size := World.block_lt_of_cell? w ⟨B, 0, none⟩ hc
  have hne : B ≠ w.heap.size := by omega
  go_enter Tryd.func57, Tryd.ntmps57
  go_wp2
  all_goals
    go_ret
    exact ⟨rfl, (Below.refl _ w).alloc (Nat.le_refl _) _⟩
def NoF (l : List ByteArray) (nm : ByteArray) (k : Nat) : Prop := ∀ j (hj : j < l.length), j < k → l[j].toList ≠ nm.toList
theorem NoF.succ {l : List ByteArray} {nm : ByteArray} {k : Nat} (h : NoF l nm k) (hk : k < l.length) (g : (l[k].toList == nm.toList) = false) : NoF l nm (k + 1) := fun j hj h1 => by
  by_cases e : j = k
  · subst e; simpa using g
  · exact h j hj (by omega)
set_option maxHeartbeats 1600000 in
theorem indexField_any (v : Value) (fs : List Fld) (nm : ByteArray) (B : Nat) (w : World) (hf : Fs w w.heap.size v fs) (hc : w.cell? ⟨B, 0, none⟩ = some (.string nm)) :
    Calls Tryd.prog 75 #[v, .func (.func 76) #[] #[.pointer (some ⟨B, 0, none⟩)]] w fun e w' => e = .returned (.int .i64 (idx (fs.map Prod.fst) nm)) ∧ Below w.heap.size w w' := by
  have hB : B < w.heap.size := World.block_lt_of_cell? w ⟨B, 0, none⟩ hc
  have HF := Lib.hid hf
  obtain ⟨A, c, rfl, hn, hcm, _⟩ := hf
  have hlen : (fs.map Prod.fst).length = fs.length := by simp
  have HLN := Lib.hid hlen
  have HC := Lib.hid hc
  clear hc hlen
  go_enter Tryd.func75, Tryd.ntmps75
  go_wp2
  go_loopw [8] (fun s wr => ∃ k : Nat, k ≤ fs.length ∧ s = .int .i64 k ∧ Hid (Below w.heap.size w wr) ∧ Hid (NoF (fs.map Prod.fst) nm k)) (fun s _ => fs.length - (intOf s).toNat)
  case atStart => exact ⟨0, by omega, rfl, Below.refl _ _, fun _ _ h => absurd h (by omega)⟩
  case round =>
    obtain ⟨k, hk, rfl, hb, hno⟩ := hrel
    by_cases hlt : k < fs.length
    · obtain ⟨A', c', e1, _, _, h3⟩ := HF.out.below hb.out (Nat.le_refl _)
      injection e1 with e1 _ e3
      subst e1 e3
      obtain ⟨g, o, rfl, hg, c0, c1⟩ := h3 k hlt
      have hcB : wr.cell? ⟨B, 0, none⟩ = some (.string nm) := (hb.out.cell (p := ⟨B, 0, none⟩) hB).trans HC.out
      have HCB := Lib.hid hcB
      clear hcB h3
      obtain ⟨r, hr⟩ : ∃ r, (fs[k].1.toList == nm.toList) = r := ⟨_, rfl⟩
      have HR := Lib.hid hr
      have hkl : k < (fs.map Prod.fst).length := by rw [HLN.out]; exact hlt
      have hget : (fs.map Prod.fst)[k]'hkl = fs[k].1 := by simp
      have HG := Lib.hid hget
      clear hr hget
      obtain ⟨x, hx⟩ : ∃ x, x = fs[k].1 := ⟨_, rfl⟩
      obtain ⟨y, hy⟩ : ∃ y, y = fs[k].2 := ⟨_, rfl⟩
      rw [← hx] at c0 HR HG
      rw [← hy] at c1
      clear hx hy
      cases r with
      | true =>
        go_wp2_with (go_at_call 76; refine (fieldEq_any _ nm _ B _ HCB.out true HR.out).mono ?_; rintro e w' ⟨rfl, hb'⟩)
        go_ret
        exact ⟨by rw [idx_hit hkl (by rw [HG.out]; simpa using HR.out) hno.out]; rfl, hb.out.trans (hb'.mono hb.out.size)⟩
      | false =>
        go_wp2_with (go_at_call 76; refine (fieldEq_any _ nm _ B _ HCB.out false HR.out).mono ?_; rintro e w' ⟨rfl, hb'⟩)
        go_roundw
        case rel => exact ⟨k + 1, by omega, by go_num, hb.out.trans (hb'.mono hb.out.size), hno.out.succ hkl (by rw [HG.out]; exact HR.out)⟩
        case measure => simp [intOf]; omega
    · have hk' : k = fs.length := by omega
      subst hk'
      clear hlt
      go_wp2
      go_ret
      exact ⟨by rw [idx_miss (fun j hj => hno.out j hj (by rw [HLN.out] at hj; exact hj))]; rfl, hb.out⟩
set_option maxHeartbeats 1600000 in
theorem indexType_any (v : Value) (fs : List Ty) (nm : ByteArray) (B : Nat) (w : World) (hf : Ts w w.heap.size v fs) (hc : w.cell? ⟨B, 0, none⟩ = some (.string nm)) :
    Calls Tryd.prog 56 #[v, .func (.func 57) #[] #[.pointer (some ⟨B, 0, none⟩)]] w fun e w' => e = .returned (.int .i64 (idx (fs.map Prod.fst) nm)) ∧ Below w.heap.size w w' := by
  have hB : B < w.heap.size := World.block_lt_of_cell? w ⟨B, 0, none⟩ hc
  have HF := Lib.hid hf
  obtain ⟨A, c, rfl, hn, hcm, _⟩ := hf
  have hlen : (fs.map Prod.fst).length = fs.length := by simp
  have HLN := Lib.hid hlen
  have HC := Lib.hid hc
  clear hc hlen
  go_enter Tryd.func56, Tryd.ntmps56
  go_wp2
  go_loopw [8] (fun s wr => ∃ k : Nat, k ≤ fs.length ∧ s = .int .i64 k ∧ Hid (Below w.heap.size w wr) ∧ Hid (NoF (fs.map Prod.fst) nm k)) (fun s _ => fs.length - (intOf s).toNat)
  case atStart => exact ⟨0, by omega, rfl, Below.refl _ _, fun _ _ h => absurd h (by omega)⟩
  case round =>
    obtain ⟨k, hk, rfl, hb, hno⟩ := hrel
    by_cases hlt : k < fs.length
    · obtain ⟨A', c', e1, _, _, h3⟩ := HF.out.below hb.out (Nat.le_refl _)
      injection e1 with e1 _ e3
      subst e1 e3
      obtain ⟨g, o, y, rfl, hg, c0, c1, _⟩ := h3 k hlt
      have hcB : wr.cell? ⟨B, 0, none⟩ = some (.string nm) := (hb.out.cell (p := ⟨B, 0, none⟩) hB).trans HC.out
      have HCB := Lib.hid hcB
      clear hcB h3
      obtain ⟨r, hr⟩ : ∃ r, (fs[k].1.toList == nm.toList) = r := ⟨_, rfl⟩
      have HR := Lib.hid hr
      have hkl : k < (fs.map Prod.fst).length := by rw [HLN.out]; exact hlt
      have hget : (fs.map Prod.fst)[k]'hkl = fs[k].1 := by simp
      have HG := Lib.hid hget
      clear hr hget
      obtain ⟨x, hx⟩ : ∃ x, x = fs[k].1 := ⟨_, rfl⟩
      rw [← hx] at c0 HR HG
      clear hx
      cases r with
      | true =>
        go_wp2_with (go_at_call 57; refine (typeEq_any _ nm _ B _ HCB.out true HR.out).mono ?_; rintro e w' ⟨rfl, hb'⟩)
        go_ret
        exact ⟨by rw [idx_hit hkl (by rw [HG.out]; simpa using HR.out) hno.out]; rfl, hb.out.trans (hb'.mono hb.out.size)⟩
      | false =>
        go_wp2_with (go_at_call 57; refine (typeEq_any _ nm _ B _ HCB.out false HR.out).mono ?_; rintro e w' ⟨rfl, hb'⟩)
        go_roundw
        case rel => exact ⟨k + 1, by omega, by go_num, hb.out.trans (hb'.mono hb.out.size), hno.out.succ hkl (by rw [HG.out]; exact HR.out)⟩
        case measure => simp [intOf]; omega
    · have hk' : k = fs.length := by omega
      subst hk'
      clear hlt
      go_wp2
      go_ret
      exact ⟨by rw [idx_miss (fun j hj => hno.out j hj (by rw [HLN.out] at hj; exact hj))]; rfl, hb.out⟩
end Go.Proofs.YtookojgemipakaaDoor.Sch
