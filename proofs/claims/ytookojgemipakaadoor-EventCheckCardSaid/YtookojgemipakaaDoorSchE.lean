/- Where a type, and a field, of a name stands in a schema. -/
import Derived.Test.YtookojgemipakaaDoorSchD
namespace Go.Proofs.YtookojgemipakaaDoor.Sch
open Go.RowKit Go.Proofs.YtookojgemipakaaDoor
set_option linter.unusedVariables false

theorem fieldPlace_any (v : Value) (fs : List Fld) (nm : ByteArray) (B : Nat) (w : World) (hf : Fs w B v fs) (hB : B ≤ w.heap.size) :
    Calls Tryd.prog 55 #[v, .string nm] w fun e w' => e = .returned (.int .i64 (idx (fs.map Prod.fst) nm)) ∧ Below w.heap.size w w' := by
  have HF := Lib.hid hf
  clear hf
  go_enter Tryd.func55, Tryd.ntmps55
  go_wp2_with fail
  refine (indexField_any v fs nm w.heap.size _ ((HF.out.below ((Below.refl B w).alloc hB _) hB).below (Below.refl _ _) (by simp)) (by simp)).mono ?_
  rintro e w' ⟨rfl, hb⟩
  go_wp2
  go_ret
  exact ⟨rfl, ((Below.refl _ w).alloc (Nat.le_refl _) _).trans (hb.mono (by simp))⟩
/-- A schema: where it lies, and its types. -/
def Sc (w : World) (B : Nat) (p : Option Addr) (ts : List Ty) : Prop := ∃ b v, p = some ⟨b, 0, none⟩ ∧ b < B ∧ w.cell? ⟨b, 0, none⟩ = some v ∧ Ts w B v ts
theorem Sc.below {w w' : World} {B B' : Nat} {p : Option Addr} {ts : List Ty} (h : Sc w B p ts) (hb : Below B w w') (hB : B ≤ B') : Sc w' B' p ts := by
  obtain ⟨b, v, rfl, h1, h2, h3⟩ := h
  exact ⟨b, v, rfl, by omega, (hb.cell (p := ⟨b, 0, none⟩) h1).trans h2, h3.below hb hB⟩
theorem place_any (p : Option Addr) (ts : List Ty) (nm : ByteArray) (B : Nat) (w : World) (hs : Sc w B p ts) (hB : B ≤ w.heap.size) :
    Calls Tryd.prog 32 #[.pointer p, .string nm] w fun e w' => e = .returned (.int .i64 (idx (ts.map Prod.fst) nm)) ∧ Below w.heap.size w w' := by
  obtain ⟨b, v, rfl, hb, hc, hts⟩ := hs
  have HF := Lib.hid hts
  have hbw : b < w.heap.size := World.block_lt_of_cell? w ⟨b, 0, none⟩ hc
  have hne : b ≠ w.heap.size := by omega
  clear hts
  go_enter Tryd.func32, Tryd.ntmps32
  go_wp2_with fail
  refine (indexType_any v ts nm w.heap.size _ ((HF.out.below ((Below.refl B w).alloc hB _) hB).below (Below.refl _ _) (by simp)) (by simp)).mono ?_
  rintro e w' ⟨rfl, hb⟩
  go_wp2
  go_ret
  exact ⟨rfl, ((Below.refl _ w).alloc (Nat.le_refl _) _).trans (hb.mono (by simp))⟩
theorem place_nil (nm : ByteArray) (w : World) :
    Calls Tryd.prog 32 #[.pointer none, .string nm] w fun e w' => e = .returned (.int .i64 (-1)) ∧ Below w.heap.size w w' := by
  go_enter Tryd.func32, Tryd.ntmps32
  go_wp2
  go_ret
  exact ⟨rfl, (Below.refl _ w).alloc (Nat.le_refl _) _⟩
theorem field_nil (n f : ByteArray) (w : World) :
    Calls Tryd.prog 40 #[.pointer none, .string n, .string f] w fun e w' => e = .returned (.tuple #[.int .i64 (-1), .int .i64 0]) ∧ Below w.heap.size w w' := by
  go_enter Tryd.func40, Tryd.ntmps40
  go_wp2_with (go_at_call 32; refine (place_nil _ _).mono ?_; rintro e w' ⟨rfl, hb⟩)
  go_ret2
  exact ⟨rfl, hb⟩
theorem find_nil (n : ByteArray) (w : World) :
    Calls Tryd.prog 63 #[.pointer none, .string n] w fun e w' => (∃ v, e = .returned (.tuple #[v, .bool false])) ∧ Below w.heap.size w w' := by
  go_enter Tryd.func63, Tryd.ntmps63
  go_wp2_with fail
  refine (place_nil _ _).mono ?_
  rintro e w' ⟨rfl, hb⟩
  have R : Row w' w.heap.size 67 #[.string ByteArray.empty, .slice none 0 0] := Row.below (Row.made w _ _) hb (by simp)
  have c0 : w'.cell? ⟨w.heap.size, 0, none⟩ = some (.string ByteArray.empty) := (R.cell 0).trans rfl
  have c1 : w'.cell? ⟨w.heap.size, 1, none⟩ = some (.slice none 0 0) := (R.cell 1).trans rfl
  have f0 := R.free 0
  have f1 := R.free 1
  have HB := Lib.hid (((Below.refl w.heap.size w).alloc (Nat.le_refl _) _).trans (hb.mono (by simp)))
  clear hb R
  go_wp2
  have e0 : (w'.setCell ⟨w.heap.size, 0, none⟩ (.string ⟨#[]⟩)).cell? ⟨w.heap.size, 0, none⟩ = some (.string ⟨#[]⟩) := World.cell?_setCell_same' _ _ _ (by rw [c0]; rfl)
  try simp only [Exit.inBlock, Exit.then]
  refine bodyPost_ret (by simp [results, Tryd.results63, go_sem, e0, c1]; try rfl) rfl ?_
  exact ⟨⟨_, rfl⟩, (HB.out.setCell (Nat.le_refl _) _).setCell (Nat.le_refl _) _⟩
/-- Where a field of a type stands, and its kind. -/
theorem field_yes (p : Option Addr) (ts : List Ty) (n f : ByteArray) (B i j : Nat) (fs : List Fld) (w : World) (hs : Sc w B p ts) (hB : B ≤ w.heap.size) {n' f' : ByteArray} {kd : Int} (hi : idx (ts.map Prod.fst) n = i) (hti : ts[i]? = some (n', fs)) (hj : idx (fs.map Prod.fst) f = j) (hfj : fs[j]? = some (f', kd)) :
    Calls Tryd.prog 40 #[.pointer p, .string n, .string f] w fun e w' => e = .returned (.tuple #[.int .i64 j, .int .i64 kd]) ∧ Below w.heap.size w w' := by
  have HS := Lib.hid hs
  obtain ⟨b, v, rfl, hb, hc, hts⟩ := hs
  obtain ⟨A, c, rfl, hn, hcm, h3⟩ := hts
  obtain ⟨hil, hie⟩ := List.getElem?_eq_some_iff.1 hti
  obtain ⟨g, o, fv, rfl, hg, c0, c1, hfs⟩ := h3 i hil
  rw [hie] at hfs
  have HFS := Lib.hid hfs
  obtain ⟨A2, c2, rfl, hn2, hcm2, h4⟩ := hfs
  obtain ⟨hjl, hje⟩ := List.getElem?_eq_some_iff.1 hfj
  obtain ⟨g2, o2, rfl, hg2, d0, d1⟩ := h4 j hjl
  rw [hje] at d1
  clear h3 h4 c0 d0 hti hie hfj hje
  have HI := Lib.hid hi
  have HJ := Lib.hid hj
  have hi63 : i ≤ 9223372036854775807 := by omega
  clear hi hj
  have c1w := Lib.hid c1
  have d1w := Lib.hid d1
  have hcw := Lib.hid hc
  clear c1 d1 hc
  go_enter Tryd.func40, Tryd.ntmps40
  go_wp2_with fail
  refine (place_any _ ts n B _ HS.out hB).mono ?_
  rintro e w1 ⟨rfl, hb1⟩
  rw [HI.out]
  have e1 : w1.cell? ⟨b, 0, none⟩ = some (.slice (some ⟨g, o, none⟩) ts.length c) := (hb1.cell (p := ⟨b, 0, none⟩) (by simp; omega)).trans hcw.out
  have e2 : w1.cell? ⟨g, o + i * 2 + 1, none⟩ = some (.slice (some ⟨g2, o2, none⟩) fs.length c2) := (hb1.cell (p := ⟨g, o + i * 2 + 1, none⟩) (by simp; omega)).trans c1w.out
  have HFS1 := Lib.hid (HFS.out.below (hb1.mono hB) (Nat.le_refl _))
  go_wp2_with fail
  refine (fieldPlace_any _ fs f B _ HFS1.out (Nat.le_trans hB hb1.size)).mono ?_
  rintro e w2 ⟨rfl, hb2⟩
  rw [HJ.out]
  have e3 : w2.cell? ⟨g2, o2 + j * 2 + 1, none⟩ = some (.int .i64 kd) := (hb2.cell (p := ⟨g2, o2 + j * 2 + 1, none⟩) (by have := hb1.size; simp; omega)).trans ((hb1.cell (p := ⟨g2, o2 + j * 2 + 1, none⟩) (by simp; omega)).trans d1w.out)
  have HB := Lib.hid (hb1.trans (hb2.mono hb1.size))
  clear e1 e2 hb1 hb2
  go_wp2_with fail
  go_quiet (fail)
  go_wp2
  go_ret2
  exact ⟨rfl, HB.out.os, HB.out.tape, HB.out.output, HB.out.size, HB.out.block⟩
end Go.Proofs.YtookojgemipakaaDoor.Sch
