/- Types of few names, made. -/
import Derived.Test.YtookojgemipakaaDoorSfA
import Derived.Deep.RegionLaw
import Derived.Deep.Cut
import Derived.Deep.DeepCutAuto
import Derived.Deep.CutBlock
namespace Go.Proofs.YtookojgemipakaaDoor.Sch
open Go.RowKit Go.Proofs.YtookojgemipakaaDoor
set_option linter.unusedVariables false
set_option maxRecDepth 100000
theorem seg_row {w : World} {e : TypeId} {size n : Nat} {v : Value} {xs : List Value} {g : Nat} (h : Seg w e size v n xs (some g)) : ∃ c, Row w g e c := by
  obtain ⟨_, A, cap, _, _, _, ⟨_, h2, _⟩ | ⟨g', o, cur, _, h2, h3, _⟩⟩ := h
  · cases h2
  · cases h2; exact ⟨_, h3⟩
theorem row_ne {w : World} {b b' : Nat} {t t' : TypeId} {c c' : Array Value} (h : Row w b t c) (g : Row w b' t' c') (hn : t ≠ t') : b ≠ b' := by
  intro e
  subst e
  unfold Row at h g
  rw [h] at g
  cases g
  exact hn rfl
def nmsC : Array Value := #[.string ⟨#[65]⟩, .string ⟨#[66]⟩, .string ⟨#[67]⟩, .string ⟨#[68]⟩, .string ⟨#[69]⟩]
theorem nms_at : ∀ k, k < 5 → ∃ s : ByteArray, nmsC[k]? = some (.string s)
  | 0, _ => ⟨_, rfl⟩
  | 1, _ => ⟨_, rfl⟩
  | 2, _ => ⟨_, rfl⟩
  | 3, _ => ⟨_, rfl⟩
  | 4, _ => ⟨_, rfl⟩
  | k + 5, h => absurd h (by omega)
/-- What near holds between rounds. -/
structure Nr (w wr : World) (v : Value) (nb k : Nat) : Prop where
  tl : ∃ ts, ts.length = k ∧ Tl w wr v ts
  nr : Row wr nb 9 nmsC
section
variable {w wr wr' W : World} {v : Value} {nb k : Nat}
theorem Nr.call (h : Nr w wr v nb k) (g : Below wr.heap.size wr wr') : Nr w wr' v nb k := by
  obtain ⟨ts, h1, h2⟩ := h.tl
  exact ⟨⟨ts, h1, h2.call g⟩, h.nr.below g h.nr.lt⟩
theorem Nr.start (w : World) : Nr w ((w.alloc (.cells #[] 67)).alloc (.cells nmsC 9)) (.slice (some ⟨w.heap.size, 0, none⟩) 0 0) (w.heap.size + 1) 0 :=
  ⟨⟨[], rfl, (Tl.start w).call ((Below.refl _ _).alloc (Nat.le_refl _) _)⟩, made_two w _ _ _⟩
theorem Nr.name (h : Nr w wr v nb k) (j : Nat) (hj : j < 5) : ∃ s : ByteArray, wr.cell? ⟨nb, j, none⟩ = some (.string s) := by
  obtain ⟨s, hs⟩ := nms_at j hj
  exact ⟨s, (h.nr.cell j).trans hs⟩
end
/-- A type is at hand, and what is behind it. -/
structure Nt (w W wr : World) (v : Value) (nb k : Nat) (nm : ByteArray) (fv : Value) (fs : List Fld) : Prop where
  nr : Nr w W v nb k
  tm : Tm W wr nm fv fs
theorem Nt.nb {w W wr : World} {v : Value} {nb k : Nat} {nm : ByteArray} {fv : Value} {fs : List Fld} (h : Nt w W wr v nb k nm fv fs) (j : Nat) (hj : j < 5) : ∃ s : ByteArray, wr.cell? ⟨nb, j, none⟩ = some (.string s) := by
  obtain ⟨s, hs⟩ := h.nr.name j hj
  exact ⟨s, (h.tm.be.cell (p := ⟨nb, j, none⟩) h.nr.nr.lt).trans hs⟩
theorem Nt.name {w W wr : World} {v : Value} {nb k : Nat} {nm : ByteArray} {fv : Value} {fs : List Fld} (h : Nt w W wr v nb k nm fv fs) (nm' : ByteArray) : Nt w W (wr.setCell ⟨W.heap.size, 0, none⟩ (.string nm')) v nb k nm' fv fs := ⟨h.nr, h.tm.name nm'⟩
theorem Nt.call {w W wr wr' : World} {v : Value} {nb k : Nat} {nm : ByteArray} {fv : Value} {fs : List Fld} (h : Nt w W wr v nb k nm fv fs) (g : Below wr.heap.size wr wr') : Nt w W wr' v nb k nm fv fs := ⟨h.nr, h.tm.call g⟩
/-- A field is at hand, too, in the block that W1 has first. -/
structure Nf (w W W1 wx : World) (v : Value) (nb k : Nat) (nm : ByteArray) (fv : Value) (fs : List Fld) (f : Fld) : Prop where
  nt : Nt w W W1 v nb k nm fv fs
  be : Below W1.heap.size W1 wx
  row : Row wx W1.heap.size 72 #[.string f.1, .int .i64 f.2]
section
variable {w W W1 wx wy : World} {v : Value} {nb k : Nat} {nm : ByteArray} {fv : Value} {fs : List Fld} {f : Fld}
theorem Nf.start (h : Nt w W W1 v nb k nm fv fs) (f : Fld) : Nf w W W1 (W1.alloc (.cells #[.string f.1, .int .i64 f.2] 72)) v nb k nm fv fs f := ⟨h, (Below.refl _ W1).alloc (Nat.le_refl _) _, Row.made _ _ _⟩
theorem Nf.call (h : Nf w W W1 wx v nb k nm fv fs f) (g : Below wx.heap.size wx wy) : Nf w W W1 wy v nb k nm fv fs f := ⟨h.nt, h.be.trans (g.mono h.be.size), h.row.below g h.row.lt⟩
theorem Nf.kind (h : Nf w W W1 wx v nb k nm fv fs f) (z : Int) : Nf w W W1 (wx.setCell ⟨W1.heap.size, 1, none⟩ (.int .i64 z)) v nb k nm fv fs (f.1, z) := ⟨h.nt, h.be.setCell (p := ⟨W1.heap.size, 1, none⟩) (Nat.le_refl _) _, by simpa using h.row.put 1 (.int .i64 z)⟩
theorem Nf.name (h : Nf w W W1 wx v nb k nm fv fs f) (s : ByteArray) : Nf w W W1 (wx.setCell ⟨W1.heap.size, 0, none⟩ (.string s)) v nb k nm fv fs (s, f.2) := ⟨h.nt, h.be.setCell (p := ⟨W1.heap.size, 0, none⟩) (Nat.le_refl _) _, by simpa using h.row.put 0 (.string s)⟩
theorem Nf.nw (h : Nf w W W1 wx v nb k nm fv fs f) : Nt w W wx v nb k nm fv fs := h.nt.call h.be
end
theorem mod3 (z : Int) : ∃ q : Nat, ((z % 256).tmod 3 = (q : Int)) ∧ q < 3 := ⟨((z % 256) % 3).toNat, by rw [Int.tmod_eq_emod_of_nonneg (by omega)]; omega, by omega⟩
theorem cells_push (fs : List Fld) (f : Fld) : cellsF (fs ++ [f]) = cellsF fs ++ [.string f.1, .int .i64 f.2] := by simp [cellsF]
def NearPost (w : World) (e : Ending) (w' : World) : Prop := ∃ v ts, e = .returned v ∧ Tl w w' v ts
theorem mod5 (n : Nat) : ∃ q : Nat, ((n : Int).tmod 5 = (q : Int)) ∧ q < 5 := ⟨n % 5, by rw [Int.tmod_eq_emod_of_nonneg (by omega)]; omega, by omega⟩
end Go.Proofs.YtookojgemipakaaDoor.Sch
