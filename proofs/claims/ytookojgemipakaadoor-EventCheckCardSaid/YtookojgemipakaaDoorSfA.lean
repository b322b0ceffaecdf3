/- Types that came in, opened; a list of types that is made. -/
import Derived.Test.YtookojgemipakaaDoorSchH
import Derived.Test.YtookojgemipakaaDoorOpen4
import Derived.Test.YtookojgemipakaaDoorBits
namespace Go.Proofs.YtookojgemipakaaDoor.Sch
open Go.RowKit Go.Proofs.YtookojgemipakaaDoor Go.ChangeShapes Go.WideShapes
set_option linter.unusedVariables false
set_option maxRecDepth 100000
section
variable {H : Type} {enc : TypeId × Value → H} {w : World} {spare : Nat → Bool} {held : Bool} {fuel : Nat} {cs : List Value} {x : DataW H × List MemPlace}
theorem open_field (h : DataW.trod enc Tryd.prog w 0 spare held fuel 72 cs = some x) : ∃ f : Fld, cs = [.string f.1, .int .i64 f.2] ∧ f.1.size ≤ 9223372036854775807 := by
  obtain ⟨a, b, rfl⟩ : ∃ a b, cs = [a, b] := by
    have := trod_struct_len (n := 2) (by kernel_rfl) (by kernel_rfl) h
    match cs, this with
    | [a, b], _ => exact ⟨a, b, rfl⟩
  obtain ⟨_, _, h0⟩ := trod_field (ft := 9) 0 (off := 0) (by kernel_rfl) h
  obtain ⟨_, _, h1⟩ := trod_field (ft := 3) 1 (off := 1) (by kernel_rfl) h
  rw [show Tryd.prog.cellsOf 9 = 1 by kernel_rfl] at h0
  rw [show Tryd.prog.cellsOf 3 = 1 by kernel_rfl] at h1
  obtain ⟨s, rfl, hs⟩ := one_str Tryd.underlying9 h0
  obtain ⟨k, rfl, _⟩ := one_int Tryd.underlying3 h1
  exact ⟨(s, k), rfl, hs⟩
/-- Names that are not too long for this machine. -/
def Short (t : Ty) : Prop := t.1.size ≤ 9223372036854775807 ∧ ∀ f ∈ t.2, f.1.size ≤ 9223372036854775807
theorem open_type (h : DataW.trod enc Tryd.prog w 0 spare held fuel 67 cs = some x) : ∃ (t : Ty) (fv : Value), cs = [.string t.1, fv] ∧ Fs w w.heap.size fv t.2 ∧ Short t := by
  obtain ⟨a, b, rfl⟩ : ∃ a b, cs = [a, b] := by
    have := trod_struct_len (n := 2) (by kernel_rfl) (by kernel_rfl) h
    match cs, this with
    | [a, b], _ => exact ⟨a, b, rfl⟩
  obtain ⟨_, _, h0⟩ := trod_field (ft := 9) 0 (off := 0) (by kernel_rfl) h
  obtain ⟨_, _, h1⟩ := trod_field (ft := 65) 1 (off := 1) (by kernel_rfl) h
  rw [show Tryd.prog.cellsOf 9 = 1 by kernel_rfl] at h0
  rw [show Tryd.prog.cellsOf 65 = 1 by kernel_rfl] at h1
  obtain ⟨s, rfl, hs⟩ := one_str Tryd.underlying9 h0
  obtain ⟨A, n, c, h2, h3, h4, hk⟩ := one_slice (e := 72) Tryd.underlying65 (by rw [show Tryd.prog.cellsOf 72 = 2 by kernel_rfl]; omega) h1
  rw [show Tryd.prog.cellsOf 72 = 2 by kernel_rfl] at hk
  have each : ∀ k, k < n → ∃ f : Fld, (∃ g o, A = some ⟨g, o, none⟩ ∧ g < w.heap.size ∧ w.cell? ⟨g, o + k * 2, none⟩ = some (.string f.1) ∧ w.cell? ⟨g, o + k * 2 + 1, none⟩ = some (.int .i64 f.2)) ∧ f.1.size ≤ 9223372036854775807 := fun k hkn => by
    obtain ⟨g, o, es, m, y, hA, hg, hl, hc, ht⟩ := hk k hkn
    obtain ⟨f, rfl, hf⟩ := open_field ht
    exact ⟨f, ⟨g, o, hA, hg, hc 0 _ rfl, hc 1 _ rfl⟩, hf⟩
  obtain ⟨F, hF⟩ : ∃ F : Nat → Fld, ∀ k, k < n → (∃ g o, A = some ⟨g, o, none⟩ ∧ g < w.heap.size ∧ w.cell? ⟨g, o + k * 2, none⟩ = some (.string (F k).1) ∧ w.cell? ⟨g, o + k * 2 + 1, none⟩ = some (.int .i64 (F k).2)) ∧ (F k).1.size ≤ 9223372036854775807 :=
    ⟨fun k => if h : k < n then Classical.choose (each k h) else (ByteArray.empty, 0), fun k hkn => by simp only [dif_pos hkn]; exact Classical.choose_spec (each k hkn)⟩
  refine ⟨(s, (List.range n).map F), b, rfl, ⟨A, c, ?_, by simpa using h3, h4, fun k hk' => ?_⟩, hs, fun f hf => ?_⟩
  · simpa using h2
  · have hkn : k < n := by simpa using hk'
    obtain ⟨⟨g, o, h5, h6, h7, h8⟩, _⟩ := hF k hkn
    exact ⟨g, o, h5, h6, by simpa using h7, by simpa using h8⟩
  · obtain ⟨k, hkr, rfl⟩ := List.mem_map.1 hf
    exact (hF k (by simpa using hkr)).2
theorem open_types_arg {base : Nat} {v : Value} {d : DataW H} {p : List MemPlace} (hv : Value.okWide Tryd.prog w .any base 29 v) (h : DataW.Trod enc Tryd.prog w 0 (fun _ => true) true 29 v d p) :
    ∃ A n c ts, v = .slice A n c ∧ ts.length = n ∧ Ts w w.heap.size (.slice A n c) ts ∧ ∀ t ∈ ts, Short t := by
  obtain ⟨a, l, c, rfl⟩ := okWide_slice Tryd.underlying29 hv
  obtain ⟨fuel, hf⟩ := h
  obtain ⟨A, n, cc, he, h1, h2, hk⟩ := one_slice (e := 67) Tryd.underlying29 (by rw [show Tryd.prog.cellsOf 67 = 2 by kernel_rfl]; omega) (by simpa [Value.cells] using hf)
  rw [show Tryd.prog.cellsOf 67 = 2 by kernel_rfl] at hk
  have each : ∀ k, k < n → ∃ t : Ty, (∃ g o fv, A = some ⟨g, o, none⟩ ∧ g < w.heap.size ∧ w.cell? ⟨g, o + k * 2, none⟩ = some (.string t.1) ∧ w.cell? ⟨g, o + k * 2 + 1, none⟩ = some fv ∧ Fs w w.heap.size fv t.2) ∧ Short t := fun k hkn => by
    obtain ⟨g, o, es, m, y, hA, hg, hl, hc, ht⟩ := hk k hkn
    obtain ⟨t, fv, rfl, ho, hs⟩ := open_type ht
    exact ⟨t, ⟨g, o, fv, hA, hg, hc 0 _ rfl, hc 1 _ rfl, ho⟩, hs⟩
  obtain ⟨F, hF⟩ : ∃ F : Nat → Ty, ∀ k, k < n → (∃ g o fv, A = some ⟨g, o, none⟩ ∧ g < w.heap.size ∧ w.cell? ⟨g, o + k * 2, none⟩ = some (.string (F k).1) ∧ w.cell? ⟨g, o + k * 2 + 1, none⟩ = some fv ∧ Fs w w.heap.size fv (F k).2) ∧ Short (F k) :=
    ⟨fun k => if h : k < n then Classical.choose (each k h) else (ByteArray.empty, []), fun k hkn => by simp only [dif_pos hkn]; exact Classical.choose_spec (each k hkn)⟩
  have hl : ((List.range n).map F).length = n := by simp
  refine ⟨A, n, cc, (List.range n).map F, he, hl, ⟨A, cc, by rw [hl], by rw [hl]; exact h1, h2, fun k hk' => ?_⟩, fun t ht => ?_⟩
  · have hkn : k < n := by simpa using hk'
    obtain ⟨⟨g, o, fv, h5, h6, h7, h8, h9⟩, _⟩ := hF k hkn
    exact ⟨g, o, fv, h5, h6, by simpa using h7, h8, by simpa using h9⟩
  · obtain ⟨k, hkr, rfl⟩ := List.mem_map.1 ht
    exact (hF k (by simpa using hkr)).2
end
/-- A type that is being made, in the block that W has first: its name, and its fields. -/
structure Tm (W wr : World) (nm : ByteArray) (fv : Value) (fs : List Fld) : Prop where
  be : Below W.heap.size W wr
  row : Row wr W.heap.size 67 #[.string nm, fv]
  sg : ∃ ob, Seg wr 72 2 fv fs.length (cellsF fs) ob ∧ ∀ g, ob = some g → W.heap.size < g
section
variable {w W wr wr' : World} {nm : ByteArray} {fv v : Value} {fs : List Fld} {ts : List Ty}
theorem Tm.start (W : World) (nm : ByteArray) : Tm W (W.alloc (.cells #[.string nm, .slice none 0 0] 67)) nm (.slice none 0 0) [] :=
  ⟨(Below.refl _ W).alloc (Nat.le_refl _) _, Row.made _ _ _, none, Seg.nil _ _ _, fun g h => by cases h⟩
theorem Tm.call (h : Tm W wr nm fv fs) (g : Below wr.heap.size wr wr') : Tm W wr' nm fv fs := by
  obtain ⟨ob, h1, h2⟩ := h.sg
  exact ⟨h.be.trans (g.mono h.be.size), h.row.below g h.row.lt, ob, h1.turns (Turns.of_below g) (fun _ _ x => x), h2⟩
theorem Tm.name (h : Tm W wr nm fv fs) (nm' : ByteArray) : Tm W (wr.setCell ⟨W.heap.size, 0, none⟩ (.string nm')) nm' fv fs := by
  obtain ⟨ob, h1, h2⟩ := h.sg
  exact ⟨h.be.setCell (p := ⟨W.heap.size, 0, none⟩) (Nat.le_refl _) _, by simpa using h.row.put 0 (.string nm'), ob, h1.past (p := ⟨W.heap.size, 0, none⟩) (fun e => by have := h2 _ e; simp at this) _, h2⟩
theorem Tm.push {W2 : World} {v2 : Value} {f : Fld} {ob ob2 : Option Nat} {o : Obj} (h : Tm W wr nm fv fs) (hs1 : Seg wr 72 2 fv fs.length (cellsF fs) ob) (ho1 : ∀ g, ob = some g → W.heap.size < g)
    (hs2 : Seg W2 72 2 v2 (fs.length + 1) (cellsF fs ++ [.string f.1, .int .i64 f.2]) ob2) (ht2 : Turns (wr.alloc o) W2 (fun g => ob = some g)) (ho2 : ob2 = ob ∨ ∃ g, ob2 = some g ∧ (wr.alloc o).heap.size ≤ g) :
    Tm W (W2.setCell ⟨W.heap.size, 1, none⟩ v2) nm v2 (fs ++ [f]) := by
  have hz := h.row.lt
  have ho : ∀ g, ob2 = some g → W.heap.size < g := fun g hg => by
    rcases ho2 with e | ⟨g', e, hg'⟩
    · exact ho1 g (by rw [← e, hg])
    · rw [e] at hg; injection hg with hg; simp at hg'; omega
  refine ⟨(ht2.below (h.be.alloc h.be.size o) (by simp; omega) (fun j hj e => by have := ho1 _ e; omega)).setCell (p := ⟨W.heap.size, 1, none⟩) (Nat.le_refl _) _, ?_, ob2, ?_, ho⟩
  · have := Row.put (Row.turns (h.row.alloc o) ht2 (fun e => by have := ho1 _ e; omega)) 1 v2
    simpa using this
  · have hc : cellsF (fs ++ [f]) = cellsF fs ++ [.string f.1, .int .i64 f.2] := by simp [cellsF]
    rw [hc, List.length_append]
    exact hs2.past (p := ⟨W.heap.size, 1, none⟩) (fun e => by have := ho _ e; simp at this) _
/-- A list of types that a call has made. -/
structure Tl (w wr : World) (v : Value) (ts : List Ty) : Prop where
  be : Below w.heap.size w wr
  st : ∃ ob xs, Seg wr 67 2 v ts.length xs ob ∧ (∀ g, ob = some g → w.heap.size ≤ g) ∧
    ∀ j (hj : j < ts.length), ∃ fv, xs[j * 2]? = some (.string ts[j].1) ∧ xs[j * 2 + 1]? = some fv ∧ FsS wr (fun g => w.heap.size ≤ g ∧ ob ≠ some g) fv ts[j].2
  sh : ts.length ≤ 5 ∧ ∀ t ∈ ts, t.2.length ≤ 4
theorem Tl.call (h : Tl w wr v ts) (g : Below wr.heap.size wr wr') : Tl w wr' v ts := by
  obtain ⟨ob, xs, h1, h2, h3⟩ := h.st
  refine ⟨h.be.trans (g.mono h.be.size), ⟨ob, xs, h1.turns (Turns.of_below g) (fun _ _ x => x), h2, fun j hj => ?_⟩, h.sh⟩
  obtain ⟨fv, a, b, c⟩ := h3 j hj
  exact ⟨fv, a, b, c.keep fun q hq hs => ⟨g.block q hq, hs⟩⟩
theorem Tl.start (w : World) : Tl w (w.alloc (.cells #[] 67)) (.slice (some ⟨w.heap.size, 0, none⟩) 0 0) [] :=
  ⟨(Below.refl _ w).alloc (Nat.le_refl _) _, ⟨none, [], seg_zero _ _ _ _, fun g h => (by cases h), fun j hj => (by simp at hj)⟩, by simp, fun t ht => by simp at ht⟩
theorem Tl.push {W2 : World} {v2 : Value} {ob ob2 : Option Nat} {xs : List Value} {o : Obj} (h : Tl w W v ts) (hs1 : Seg W 67 2 v ts.length xs ob) (ho1 : ∀ g, ob = some g → w.heap.size ≤ g)
    (hx : ∀ j (hj : j < ts.length), ∃ fv, xs[j * 2]? = some (.string ts[j].1) ∧ xs[j * 2 + 1]? = some fv ∧ FsS W (fun g => w.heap.size ≤ g ∧ ob ≠ some g) fv ts[j].2)
    (ht : Tm W wr nm fv fs) (hfs : fs.length ≤ 4) (hts : ts.length < 5)
    (hs2 : Seg W2 67 2 v2 (ts.length + 1) (xs ++ [.string nm, fv]) ob2) (ht2 : Turns (wr.alloc o) W2 (fun g => ob = some g)) (ho2 : ob2 = ob ∨ ∃ g, ob2 = some g ∧ (wr.alloc o).heap.size ≤ g) :
    Tl w W2 v2 (ts ++ [(nm, fs)]) := by
  have hz := h.be.size
  have hz2 := ht.be.size
  have hW := h.call ht.be
  have hxl : xs.length = ts.length * 2 := hs1.1
  have hob : ∀ g, ob = some g → g < W.heap.size := hs1.lt
  have hob2 : ∀ g, ob2 = some g → w.heap.size ≤ g := fun g hg => by
    rcases ho2 with e | ⟨g', e, hg'⟩
    · exact ho1 g (by rw [← e, hg])
    · rw [e] at hg; injection hg with hg; simp at hg'; omega
  have keep : ∀ g, g < wr.heap.size → (w.heap.size ≤ g ∧ ob ≠ some g) → W2.heap[g]? = wr.heap[g]? ∧ (w.heap.size ≤ g ∧ ob2 ≠ some g) := fun g hg hs =>
    ⟨(ht2.block g (by simp; omega) (fun e => hs.2 e)).trans (Below.heap_alloc wr o g hg), hs.1, by
      rcases ho2 with e | ⟨g', e, hg'⟩
      · rw [e]; exact hs.2
      · rw [e]; intro e'; injection e' with e'; simp at hg'; omega⟩
  refine ⟨ht2.below (hW.be.alloc hW.be.size o) (by simp; omega) (fun j hj e => by have := ho1 _ e; omega), ⟨ob2, xs ++ [.string nm, fv], by rw [List.length_append]; exact hs2, hob2, fun j hj => ?_⟩, by rw [List.length_append]; simp; omega, fun t htm => ?_⟩
  · by_cases e : j < ts.length
    · obtain ⟨fv', a, b, c⟩ := hx j e
      refine ⟨fv', ?_, ?_, ?_⟩
      · rw [List.getElem?_append_left (by omega), List.getElem_append_left e]; exact a
      · rw [List.getElem?_append_left (by omega)]; exact b
      · rw [List.getElem_append_left e]
        have c1 : FsS wr (fun g => w.heap.size ≤ g ∧ ob ≠ some g) fv' ts[j].2 := c.keep fun q hq hs => ⟨ht.be.block q hq, hs⟩
        exact c1.keep keep
    · have he : j = ts.length := by rw [List.length_append] at hj; simp at hj; omega
      subst he
      obtain ⟨o3, h4, h5⟩ := ht.sg
      refine ⟨fv, ?_, ?_, ?_⟩
      · rw [List.getElem?_append_right (by omega)]; simp [hxl]
      · rw [List.getElem?_append_right (by omega)]; simp [hxl]
      · simp only [List.getElem_append_right (Nat.le_refl _), Nat.sub_self, List.getElem_cons_zero]
        exact (fs_of_seg (S := fun g => w.heap.size ≤ g ∧ ob ≠ some g) h4 (fun g hg => ⟨by have := h5 g hg; omega, fun e => by have := h5 g hg; have := hob g e; omega⟩)).keep keep
  · rcases List.mem_append.1 htm with h6 | h6
    · exact h.sh.2 t h6
    · simp at h6; subst h6; exact hfs
end
end Go.Proofs.YtookojgemipakaaDoor.Sch
