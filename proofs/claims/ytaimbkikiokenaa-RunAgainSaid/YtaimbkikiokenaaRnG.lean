/- The list of a chain of one bound. -/
import Derived.Test.YtaimbkikiokenaaRnF
import Derived.Test.YtaimbkikiokenaaTab
namespace Go.Proofs.Ytaimbkikiokenaa.Rn
open Go.RowKit Go.Proofs.Ytaimbkikiokenaa
set_option linter.unusedVariables false
attribute [local go_sem] Oper.semAt_some
structure Bd where
  v : ByteArray
  a : ByteArray
  b : ByteArray
  t : Int
  q : Int
  A : Option Addr
  n : Nat
  c : Nat
def Bd.cells (x : Bd) : List Value := [.string x.v, .string x.a, .string x.b, .int .i64 x.t, .int .i64 x.q, .slice x.A x.n x.c]
theorem row_kept {W W' : World} {row : Option Nat} {b : Nat} {t : TypeId} {cs : Array Value} (h : Row W b t cs) (hg : W.grownBy W' row) (hr : ∀ r, row = some r → ∃ o : Obj, W.heap[r]? = some o ∧ o.isCells = false) : Row W' b t cs :=
  h.grown hg (fun e => by
    obtain ⟨o, ho, hc⟩ := hr b e.symm
    unfold Row at h
    rw [h] at ho
    cases ho
    cases hc)
def zero6 : List Value := [.string ⟨#[]⟩, .string ⟨#[]⟩, .string ⟨#[]⟩, .int .i64 0, .int .i64 0, .slice none 0 0]
def top : List Bd → List Value
  | [] => zero6
  | x :: _ => x.cells
theorem bound_info : (Try.prog.info? 124).map (fun i => (i.zero, i.size, i.bytes)) = some (some (.agg #[.string ⟨#[]⟩, .string ⟨#[]⟩, .string ⟨#[]⟩, .int .i64 0, .int .i64 0, .slice none 0 0]), 6, 88) := by kernel_rfl
theorem run_make1 (w : World) : (Instr.makeSlice 120 (.int .i64 1) (.int .i64 1)).run Try.prog w = .ok (.slice (some ⟨w.heap.size, 0, none⟩) 1 1) (w.alloc (.cells #[.string ⟨#[]⟩, .string ⟨#[]⟩, .string ⟨#[]⟩, .int .i64 0, .int .i64 0, .slice none 0 0] 124)) := by
  obtain ⟨i, hi, hz, hs, hb⟩ := info_parts bound_info
  have hr := run_make (P := Try.prog) w 120 124 i _ Try.underlying120 hi hz .i64 .i64 1 1 (by omega) (Int.le_refl _) (by rw [hb]; omega) (by omega)
  rw [hs] at hr
  have e : madeCells (Value.agg #[.string ⟨#[]⟩, .string ⟨#[]⟩, .string ⟨#[]⟩, .int .i64 0, .int .i64 0, .slice none 0 0]).cells (Int.toNat 1 * 6) = #[.string ⟨#[]⟩, .string ⟨#[]⟩, .string ⟨#[]⟩, .int .i64 0, .int .i64 0, .slice none 0 0] := by kernel_rfl
  rw [e] at hr
  exact hr
theorem blen1_in (F : Fence) (n : Nat) (hF : F.fn 105) (hro : F.round = none) (p : Option Addr) (x : List Value) (B : Nat) (w : World) (h : Ch 6 w B p [x]) :
    CallsIn F n Try.prog 105 #[.pointer p] w fun e w' => e = .returned (.int .i64 1) ∧ w = w' := (blen_in F n hF hro p [x] B w h).mono (fun e w' h => h)
structure Inv (w W : World) (pre : List Bd) : Prop where
  row : Row W w.heap.size 124 (top pre).toArray
  bl : Row W (w.heap.size + 1) 120 #[.slice (some ⟨w.heap.size, 0, none⟩) 1 1]
  bp : Row W (w.heap.size + 2) 3 #[.int .i64 (1 - (pre.length : Int))]
  le : pre.length ≤ 1
  be : Below w.heap.size w W
  sz : w.heap.size + 4 ≤ W.heap.size
theorem inv_own (w : World) (B : Nat) (hB : w.heap.size ≤ B) : OwnFrom B (fun pre W => Inv w W pre) := fun pre W W' row h hg hr =>
  ⟨row_kept h.row hg (fun r e => (hr r e).2), row_kept h.bl hg (fun r e => (hr r e).2), row_kept h.bp hg (fun r e => (hr r e).2), h.le, h.be.grown hg h.be.size (fun k e => Nat.le_trans hB (hr k e).1), Nat.le_trans h.sz hg.size⟩
theorem Inv.alloc {w W : World} {pre : List Bd} (h : Inv w W pre) (o : Obj) : Inv w (W.alloc o) pre :=
  ⟨h.row.alloc o, h.bl.alloc o, h.bp.alloc o, h.le, h.be.alloc h.be.size o, by have := h.sz; simp; omega⟩
/-- What a call of List leaves. -/
def List1 (w : World) (x : Bd) (e : Ending) (w' : World) : Prop := ∃ g, e = .returned (.slice (some ⟨g, 0, none⟩) 1 1) ∧ Row w' g 124 x.cells.toArray ∧ w.heap.size ≤ g ∧ Below w.heap.size w w'
def AxP (w : World) (p0 : Option Addr) (x : Bd) (a' : Act) (W : World) : Prop := ∃ gb, w.heap.size + 4 ≤ gb ∧ Row W gb 124 x.cells.toArray ∧ a' = { tmps := #[.pointer p0, undef, .slice none 0 0, .pointer (some ⟨w.heap.size + 1, 0, none⟩), .pointer (some ⟨w.heap.size + 1 + 1, 0, none⟩), .pointer (some ⟨gb, 0, none⟩), .pointer p0, .int .i64 1, .slice (some ⟨w.heap.size, 0, none⟩) 1 1, .slice (some ⟨w.heap.size, 0, none⟩) 1 1, .int .i64 1, .pointer p0, .func (.func 130) #[] #[.pointer (some ⟨w.heap.size + 1 + 1 + 1, 0, none⟩)], .agg x.cells.toArray, undef, undef, undef, undef, undef, undef, undef], defers := [] }
set_option maxRecDepth 100000 in
set_option maxHeartbeats 2000000 in
theorem list1_in (F : Fence) (n : Nat) (hF : ∀ k, F.fn k) (hro : F.round = none) (hn : 3 ≤ n) (p0 : Option Addr) (x0 : Bd) (w : World) (hL : Ch 6 w w.heap.size p0 [x0.cells]) :
    CallsIn F n Try.prog 104 #[.pointer p0] w (List1 w x0) := by
  have h1 : 1 ≤ n := by omega
  have HL := Lib.hid hL
  clear hL
  refine callsIn_of_wp_marks Try.func104 rfl (hF _) ?_ hro
  simp only [Try.ntmps104, List.size_toArray, List.length_cons, List.length_nil, Nat.reduceAdd, Nat.reduceSub, Array.replicate_succ, Array.replicate_zero, List.push_toArray, List.append_toArray, List.nil_append, List.cons_append]
  have hmk := run_make1
  gi_wp2_with (first
    | (gi_at_call 105; refine (blen1_in F (n - 1) (hF _) hro p0 x0.cells _ _ HL.out).mono ?_; rintro e w' ⟨rfl, rfl⟩)
    | (gi_at_call 121; refine (bback_in F (n - 1) (hF _) hro _ _).mono ?_; rintro e w' ⟨rfl, rfl⟩))
  have hI0 : Inv w ((((w.alloc (.cells #[.string ⟨#[]⟩, .string ⟨#[]⟩, .string ⟨#[]⟩, .int .i64 0, .int .i64 0, .slice none 0 0] 124)).alloc (.cells #[.slice (some ⟨w.heap.size, 0, none⟩) 1 1] 120)).alloc (.cells #[.int .i64 1] 3)).alloc (.cells #[.pointer p0] 48)) [] := by
    refine ⟨(((Row.made w _ _).alloc _).alloc _).alloc _, ?_, ?_, by simp, (((((Below.refl _ w).alloc (Nat.le_refl _) _).alloc (by simp) _).alloc (by simp; omega) _).alloc (by simp; omega) _), by simp⟩
    · have := ((Row.made (w.alloc (.cells #[.string ⟨#[]⟩, .string ⟨#[]⟩, .string ⟨#[]⟩, .int .i64 0, .int .i64 0, .slice none 0 0] 124)) 120 #[.slice (some ⟨w.heap.size, 0, none⟩) 1 1]).alloc (.cells #[.int .i64 1] 3)).alloc (.cells #[.pointer p0] 48)
      simpa using this
    · have := (Row.made ((w.alloc (.cells #[.string ⟨#[]⟩, .string ⟨#[]⟩, .string ⟨#[]⟩, .int .i64 0, .int .i64 0, .slice none 0 0] 124)).alloc (.cells #[.slice (some ⟨w.heap.size, 0, none⟩) 1 1] 120)) 3 #[.int .i64 1]).alloc (.cells #[.pointer p0] 48)
      simpa using this
  have hbk : ((((w.alloc (.cells #[.string ⟨#[]⟩, .string ⟨#[]⟩, .string ⟨#[]⟩, .int .i64 0, .int .i64 0, .slice none 0 0] 124)).alloc (.cells #[.slice (some ⟨w.heap.size, 0, none⟩) 1 1] 120)).alloc (.cells #[.int .i64 1] 3)).alloc (.cells #[.pointer p0] 48)).cell? ⟨w.heap.size + 1 + 1 + 1, 0, none⟩ = some (.pointer p0) := by
    have := (Row.made (((w.alloc (.cells #[.string ⟨#[]⟩, .string ⟨#[]⟩, .string ⟨#[]⟩, .int .i64 0, .int .i64 0, .slice none 0 0] 124)).alloc (.cells #[.slice (some ⟨w.heap.size, 0, none⟩) 1 1] 120)).alloc (.cells #[.int .i64 1] 3)) 48 #[.pointer p0]).cell 0
    simpa using this
  have hsz : ((((w.alloc (.cells #[.string ⟨#[]⟩, .string ⟨#[]⟩, .string ⟨#[]⟩, .int .i64 0, .int .i64 0, .slice none 0 0] 124)).alloc (.cells #[.slice (some ⟨w.heap.size, 0, none⟩) 1 1] 120)).alloc (.cells #[.int .i64 1] 3)).alloc (.cells #[.pointer p0] 48)).heap.size = w.heap.size + 4 := by simp
  generalize (((w.alloc (.cells #[.string ⟨#[]⟩, .string ⟨#[]⟩, .string ⟨#[]⟩, .int .i64 0, .int .i64 0, .slice none 0 0] 124)).alloc (.cells #[.slice (some ⟨w.heap.size, 0, none⟩) 1 1] 120)).alloc (.cells #[.int .i64 1] 3)).alloc (.cells #[.pointer p0] 48) = w0 at hI0 hbk hsz ⊢
  refine wpIn_rangeFunc_ownH hro h1 (gf := 130) (lb := #[.pointer (some ⟨w.heap.size + 1 + 1 + 1, 0, none⟩)]) rfl (hF _) (enters_of Try.func130 (by kernel_rfl) rfl)
    (bback_stops F (n - 1) (hF _) (hF _) hro (by omega) (w.heap.size + 1 + 1 + 1) w.heap.size p0 Bd.cells [x0] w0 (by omega) (by omega) hbk (HL.out.below hI0.be (Nat.le_refl _))) belowK_t (belowK_b (by omega)) (Below.refl _ _) (fun _ => rfl)
    (fun pre W => Inv w W pre) (fun _ _ _ => False)
    (inv_own w w0.heap.size (by omega)) (fun _ _ _ _ _ hs _ _ => hs) hI0 (AxP w p0)
    (fun x a' _ W W' row h hg hr => by
      obtain ⟨gb, h1, h2, h3⟩ := h
      exact ⟨gb, h1, row_kept h2 hg (fun r e => (hr r e).2), h3⟩) ?assign ?body ?done ?stop
  case assign =>
    intro l pre x W K hI hK
    obtain ⟨v, a, b, t, q, A, n', c⟩ := x
    have HK := Lib.hid hK
    have HI := Lib.hid hI
    clear hK hI
    simp only [Bd.cells]
    gi_wp2
    exact HK.out _ _ ⟨by simp, fun k o _ hk ho => (Below.heap_alloc W _ k (Array.getElem?_eq_some_iff.1 hk).1).trans hk⟩ ((Below.refl _ W).alloc (by have := HI.out.sz; omega) _) (HI.out.alloc _) ⟨W.heap.size, HI.out.sz, Row.made _ _ _, rfl⟩
  case body =>
    rintro l pre x a' W _ _ hI ⟨gb, hgb, hrow, rfl⟩ hlen
    obtain ⟨v, a, b, t, q, A, n', c⟩ := x
    obtain rfl : pre = [] := List.length_eq_zero_iff.1 (by simpa using hlen)
    have HI := Lib.hid hI
    have c1 : W.cell? ⟨w.heap.size + 1, 0, none⟩ = some (.slice (some ⟨w.heap.size, 0, none⟩) 1 1) := (hI.bl.cell 0).trans rfl
    have c2 : W.cell? ⟨w.heap.size + 1 + 1, 0, none⟩ = some (.int .i64 1) := (hI.bp.cell 0).trans rfl
    have f2 : W.frozen? ⟨w.heap.size + 1 + 1, 0, none⟩ = false := hI.bp.free 0
    have x0 : W.cell? ⟨gb, 0, none⟩ = some (.string v) := (hrow.cell 0).trans rfl
    have x1 : W.cell? ⟨gb, 1, none⟩ = some (.string a) := (hrow.cell 1).trans rfl
    have x2 : W.cell? ⟨gb, 2, none⟩ = some (.string b) := (hrow.cell 2).trans rfl
    have x3 : W.cell? ⟨gb, 3, none⟩ = some (.int .i64 t) := (hrow.cell 3).trans rfl
    have x4 : W.cell? ⟨gb, 4, none⟩ = some (.int .i64 q) := (hrow.cell 4).trans rfl
    have x5 : W.cell? ⟨gb, 5, none⟩ = some (.slice A n' c) := (hrow.cell 5).trans rfl
    have y0 : W.cell? ⟨w.heap.size, 0, none⟩ = some (.string ⟨#[]⟩) := (hI.row.cell 0).trans rfl
    have y1 : W.cell? ⟨w.heap.size, 1, none⟩ = some (.string ⟨#[]⟩) := (hI.row.cell 1).trans rfl
    have y2 : W.cell? ⟨w.heap.size, 2, none⟩ = some (.string ⟨#[]⟩) := (hI.row.cell 2).trans rfl
    have y3 : W.cell? ⟨w.heap.size, 3, none⟩ = some (.int .i64 0) := (hI.row.cell 3).trans rfl
    have y4 : W.cell? ⟨w.heap.size, 4, none⟩ = some (.int .i64 0) := (hI.row.cell 4).trans rfl
    have y5 : W.cell? ⟨w.heap.size, 5, none⟩ = some (.slice none 0 0) := (hI.row.cell 5).trans rfl
    have z0 := hI.row.free 0
    have z1 := hI.row.free 1
    have z2 := hI.row.free 2
    have z3 := hI.row.free 3
    have z4 := hI.row.free 4
    have z5 := hI.row.free 5
    have n1 : gb ≠ w.heap.size + 1 + 1 := by omega
    have n2 : gb ≠ w.heap.size := by omega
    simp only [Bd.cells]
    clear hI hrow hlen hgb
    gi_wp2
    refine ⟨(((((((KeepsOthers.setCell _ _ _).trans (KeepsOthers.setCell _ _ _)).trans (KeepsOthers.setCell _ _ _)).trans (KeepsOthers.setCell _ _ _)).trans (KeepsOthers.setCell _ _ _)).trans (KeepsOthers.setCell _ _ _)).trans (KeepsOthers.setCell _ _ _)).from _, ((((((((Below.refl w.heap.size W).setCell (p := ⟨w.heap.size + 1 + 1, 0, none⟩) (show w.heap.size ≤ w.heap.size + 1 + 1 by omega) _).setCell (p := ⟨w.heap.size, 0, none⟩) (Nat.le_refl _) _).setCell (p := ⟨w.heap.size, 1, none⟩) (Nat.le_refl _) _).setCell (p := ⟨w.heap.size, 2, none⟩) (Nat.le_refl _) _).setCell (p := ⟨w.heap.size, 3, none⟩) (Nat.le_refl _) _).setCell (p := ⟨w.heap.size, 4, none⟩) (Nat.le_refl _) _).setCell (p := ⟨w.heap.size, 5, none⟩) (Nat.le_refl _) _), ?_, ?_, ?_, by simp, (((((((HI.out.be.setCell (p := ⟨w.heap.size + 1 + 1, 0, none⟩) (show w.heap.size ≤ w.heap.size + 1 + 1 by omega) _).setCell (p := ⟨w.heap.size, 0, none⟩) (Nat.le_refl _) _).setCell (p := ⟨w.heap.size, 1, none⟩) (Nat.le_refl _) _).setCell (p := ⟨w.heap.size, 2, none⟩) (Nat.le_refl _) _).setCell (p := ⟨w.heap.size, 3, none⟩) (Nat.le_refl _) _).setCell (p := ⟨w.heap.size, 4, none⟩) (Nat.le_refl _) _).setCell (p := ⟨w.heap.size, 5, none⟩) (Nat.le_refl _) _), by have := HI.out.sz; simpa using this⟩
    · have h := (((((((HI.out.row.past (p := ⟨w.heap.size + 1 + 1, 0, none⟩) (by show w.heap.size ≠ w.heap.size + 1 + 1; omega) (.int .i64 0)).put 0 (.string v)).put 1 (.string a)).put 2 (.string b)).put 3 (.int .i64 t)).put 4 (.int .i64 q)).put 5 (.slice A n' c))
      exact h
    · exact (((((((HI.out.bl.past (p := ⟨w.heap.size + 1 + 1, 0, none⟩) (by show w.heap.size + 1 ≠ w.heap.size + 1 + 1; omega) (.int .i64 0)).past (p := ⟨w.heap.size, 0, none⟩) (by show w.heap.size + 1 ≠ w.heap.size; omega) (.string v)).past (p := ⟨w.heap.size, 1, none⟩) (by show w.heap.size + 1 ≠ w.heap.size; omega) (.string a)).past (p := ⟨w.heap.size, 2, none⟩) (by show w.heap.size + 1 ≠ w.heap.size; omega) (.string b)).past (p := ⟨w.heap.size, 3, none⟩) (by show w.heap.size + 1 ≠ w.heap.size; omega) (.int .i64 t)).past (p := ⟨w.heap.size, 4, none⟩) (by show w.heap.size + 1 ≠ w.heap.size; omega) (.int .i64 q)).past (p := ⟨w.heap.size, 5, none⟩) (by show w.heap.size + 1 ≠ w.heap.size; omega) (.slice A n' c))
    · have h := (((((((HI.out.bp.put 0 (.int .i64 0)).past (p := ⟨w.heap.size, 0, none⟩) (by show w.heap.size + 2 ≠ w.heap.size; omega) (.string v)).past (p := ⟨w.heap.size, 1, none⟩) (by show w.heap.size + 2 ≠ w.heap.size; omega) (.string a)).past (p := ⟨w.heap.size, 2, none⟩) (by show w.heap.size + 2 ≠ w.heap.size; omega) (.string b)).past (p := ⟨w.heap.size, 3, none⟩) (by show w.heap.size + 2 ≠ w.heap.size; omega) (.int .i64 t)).past (p := ⟨w.heap.size, 4, none⟩) (by show w.heap.size + 2 ≠ w.heap.size; omega) (.int .i64 q)).past (p := ⟨w.heap.size, 5, none⟩) (by show w.heap.size + 2 ≠ w.heap.size; omega) (.slice A n' c))
      exact h
  case done =>
    rintro D ys W hD rfl hI hK
    have c1 : W.cell? ⟨w.heap.size + 1, 0, none⟩ = some (.slice (some ⟨w.heap.size, 0, none⟩) 1 1) := (hI.bl.cell 0).trans rfl
    have HI := Lib.hid hI
    clear hI
    gi_wp2
    refine ⟨by simp, .inl ⟨_, _, rfl, run_takeDeferred hK, ?_⟩⟩
    have hg := grownBy_putObj' W D (.deferred none)
    have hr : ∀ r, some D = some r → ∃ o : Obj, W.heap[r]? = some o ∧ o.isCells = false := fun r e => by cases e; exact ⟨_, hK, rfl⟩
    have hrow := row_kept HI.out.row hg hr
    exact ⟨_, results_tmp rfl _ _ _, w.heap.size, rfl, hrow, Nat.le_refl _, HI.out.be.trans (belowK_b (w := w) (Nat.le_refl _) W D _ _ (by omega) hK rfl rfl)⟩
  case stop =>
    rintro D c pre W _ _ h _
    exact h.elim
end Go.Proofs.Ytaimbkikiokenaa.Rn
