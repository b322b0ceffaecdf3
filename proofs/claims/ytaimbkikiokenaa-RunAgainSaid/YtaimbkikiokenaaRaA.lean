/- The list of a chain of pairs, of any length. -/
import Derived.Test.YtaimbkikiokenaaRnF
import Derived.Test.YtaimbkikiokenaaRnG
import Derived.Test.YtaimbkikiokenaaTab
namespace Go.Proofs.Ytaimbkikiokenaa.Rn
open Go.RowKit Go.Proofs.Ytaimbkikiokenaa
set_option linter.unusedVariables false
attribute [local go_sem] Oper.semAt_some
structure Pr where
  k : Int
  q : Int
def Pr.cells (x : Pr) : List Value := [.int .i64 x.k, .int .i64 x.q]
/-- What the list holds when some things have come: the places behind are filled, from the end on. -/
def pfill (n : Nat) (pre : List Pr) : List Value := List.replicate ((n - pre.length) * 2) (.int .i64 0) ++ pre.reverse.flatMap Pr.cells
theorem flat2_len (l : List Pr) : (l.flatMap Pr.cells).length = l.length * 2 := by
  induction l with
  | nil => rfl
  | cons x r ih => rw [List.flatMap_cons, List.length_append, ih]; simp [Pr.cells]; omega
theorem pfill_len (n : Nat) (pre : List Pr) (h : pre.length ≤ n) : (pfill n pre).length = n * 2 := by
  unfold pfill
  rw [List.length_append, flat2_len, List.length_replicate, List.length_reverse]
  omega
theorem pfill_step (n k : Nat) (pre : List Pr) (x : Pr) (h : n - pre.length = k + 1) : ((pfill n pre).toArray.setIfInBounds (k * 2) (.int .i64 x.k)).setIfInBounds (k * 2 + 1) (.int .i64 x.q) = (pfill n (pre ++ [x])).toArray := by
  rw [List.setIfInBounds_toArray, List.setIfInBounds_toArray]
  congr 1
  unfold pfill
  rw [h, show n - (pre ++ [x]).length = k from by simp; omega]
  have e : List.replicate ((k + 1) * 2) (Value.int .i64 0) = List.replicate (k * 2) (Value.int .i64 0) ++ [Value.int .i64 0, Value.int .i64 0] := by
    rw [show (k + 1) * 2 = k * 2 + 2 by omega, ← List.replicate_append_replicate]; rfl
  rw [e, List.append_assoc, List.set_append_right _ _ (by simp), List.length_replicate, List.set_append_right _ _ (by simp)]
  simp [Pr.cells]
theorem pfill_all (xs : List Pr) : pfill xs.length xs = xs.reverse.flatMap Pr.cells := by unfold pfill; simp
theorem pair_info : (Try.prog.info? 68).map (fun i => (i.zero, i.size, i.bytes)) = some (some (.agg #[.int .i64 0, .int .i64 0]), 2, 16) := by kernel_rfl
theorem pmade (n : Nat) : madeCells #[Value.int .i64 0, .int .i64 0] (n * 2) = (pfill n []).toArray := by
  unfold pfill madeCells
  apply Array.ext
  · simp
  · intro i h1 h2
    have h : i % 2 = 0 ∨ i % 2 = 1 := by omega
    rcases h with h | h <;> simp [h]
theorem run_makeP (n : Nat) (hn : n ≤ 1000000) (w : World) : (Instr.makeSlice 65 (.int .i64 n) (.int .i64 n)).run Try.prog w = .ok (.slice (some ⟨w.heap.size, 0, none⟩) n n) (w.alloc (.cells (pfill n []).toArray 68)) := by
  obtain ⟨i, hi, hz, hs, hb⟩ := info_parts pair_info
  have hr := run_make (P := Try.prog) w 65 68 i _ Try.underlying65 hi hz .i64 .i64 n n (by omega) (Int.le_refl _) (by rw [hb]; omega) (by omega)
  rw [hs] at hr
  have e : (Value.agg #[.int .i64 0, .int .i64 0]).cells = #[.int .i64 0, .int .i64 0] := rfl
  rw [e, Int.toNat_natCast, pmade] at hr
  exact hr
structure InvP (w W : World) (n : Nat) (pre : List Pr) : Prop where
  row : Row W w.heap.size 68 (pfill n pre).toArray
  bl : Row W (w.heap.size + 1) 65 #[.slice (some ⟨w.heap.size, 0, none⟩) n n]
  bp : Row W (w.heap.size + 2) 3 #[.int .i64 ((n : Int) - (pre.length : Int))]
  le : pre.length ≤ n
  be : Below w.heap.size w W
  sz : w.heap.size + 4 ≤ W.heap.size
theorem invp_own (w : World) (n B : Nat) (hB : w.heap.size ≤ B) : OwnFrom B (fun pre W => InvP w W n pre) := fun pre W W' row h hg hr =>
  ⟨row_kept h.row hg (fun r e => (hr r e).2), row_kept h.bl hg (fun r e => (hr r e).2), row_kept h.bp hg (fun r e => (hr r e).2), h.le, h.be.grown hg h.be.size (fun k e => Nat.le_trans hB (hr k e).1), Nat.le_trans h.sz hg.size⟩
theorem InvP.alloc {w W : World} {n : Nat} {pre : List Pr} (h : InvP w W n pre) (o : Obj) : InvP w (W.alloc o) n pre :=
  ⟨h.row.alloc o, h.bl.alloc o, h.bp.alloc o, h.le, h.be.alloc h.be.size o, by have := h.sz; simp; omega⟩
/-- What a call of List leaves. -/
def ListP (w : World) (xs : List Pr) (e : Ending) (w' : World) : Prop :=
  ∃ g, e = .returned (.slice (some ⟨g, 0, none⟩) xs.length xs.length) ∧ Row w' g 68 (xs.reverse.flatMap Pr.cells).toArray ∧ w.heap.size ≤ g ∧ Below w.heap.size w w'
def AxQ (w : World) (p0 : Option Addr) (n : Nat) (x : Pr) (a' : Act) (W : World) : Prop := ∃ gb, w.heap.size + 4 ≤ gb ∧ Row W gb 68 x.cells.toArray ∧ a' = { tmps := #[.pointer p0, undef, .slice none 0 0, .pointer (some ⟨w.heap.size + 1, 0, none⟩), .pointer (some ⟨w.heap.size + 1 + 1, 0, none⟩), .pointer (some ⟨gb, 0, none⟩), .pointer p0, .int .i64 n, .slice (some ⟨w.heap.size, 0, none⟩) n n, .slice (some ⟨w.heap.size, 0, none⟩) n n, .int .i64 n, .pointer p0, .func (.func 122) #[] #[.pointer (some ⟨w.heap.size + 1 + 1 + 1, 0, none⟩)], .agg x.cells.toArray, undef, undef, undef, undef, undef, undef, undef], defers := [] }
set_option maxRecDepth 100000 in
set_option maxHeartbeats 2000000 in
theorem listp_in (F : Fence) (n : Nat) (hF : ∀ k, F.fn k) (hro : F.round = none) (hn : 3 ≤ n) (p0 : Option Addr) (xs : List Pr) (w : World) (hL : Ch 2 w w.heap.size p0 (xs.map Pr.cells)) (hl : xs.length ≤ 1000000) :
    CallsIn F n Try.prog 79 #[.pointer p0] w (ListP w xs) := by
  have h1 : 1 ≤ n := by omega
  have HL := Lib.hid hL
  clear hL
  obtain ⟨m, hm⟩ : ∃ m, xs.length = m := ⟨_, rfl⟩
  have HX := Lib.hid hm
  have hlm : (xs.map Pr.cells).length = m := by simpa using hm
  rw [hm] at hl
  have HPL := Lib.hid (fun (W : World) (h : Ch 2 W w.heap.size p0 (xs.map Pr.cells)) => plen_in F (n - 1) (hF _) hro p0 (xs.map Pr.cells) w.heap.size W h)
  rw [hlm] at HPL
  clear hm hlm
  refine callsIn_of_wp_marks Try.func79 rfl (hF _) ?_ hro
  simp only [Try.ntmps79, List.size_toArray, List.length_cons, List.length_nil, Nat.reduceAdd, Nat.reduceSub, Array.replicate_succ, Array.replicate_zero, List.push_toArray, List.append_toArray, List.nil_append, List.cons_append]
  have hmk := run_makeP m hl
  gi_wp2_with (first
    | (gi_at_call 100; refine (HPL.out _ HL.out).mono ?_; rintro e w' ⟨rfl, rfl⟩)
    | (gi_at_call 107; refine (pback_in F (n - 1) (hF _) hro _ _).mono ?_; rintro e w' ⟨rfl, rfl⟩))
  have hI0 : InvP w ((((w.alloc (.cells (pfill m []).toArray 68)).alloc (.cells #[.slice (some ⟨w.heap.size, 0, none⟩) m m] 65)).alloc (.cells #[.int .i64 m] 3)).alloc (.cells #[.pointer p0] 47)) m [] := by
    refine ⟨(((Row.made w _ _).alloc _).alloc _).alloc _, ?_, ?_, by simp, (((((Below.refl _ w).alloc (Nat.le_refl _) _).alloc (by simp) _).alloc (by simp; omega) _).alloc (by simp; omega) _), by simp⟩
    · have := ((Row.made (w.alloc (.cells (pfill m []).toArray 68)) 65 #[.slice (some ⟨w.heap.size, 0, none⟩) m m]).alloc (.cells #[.int .i64 m] 3)).alloc (.cells #[.pointer p0] 47)
      simpa using this
    · have := (Row.made ((w.alloc (.cells (pfill m []).toArray 68)).alloc (.cells #[.slice (some ⟨w.heap.size, 0, none⟩) m m] 65)) 3 #[.int .i64 m]).alloc (.cells #[.pointer p0] 47)
      simpa using this
  have hbk : ((((w.alloc (.cells (pfill m []).toArray 68)).alloc (.cells #[.slice (some ⟨w.heap.size, 0, none⟩) m m] 65)).alloc (.cells #[.int .i64 m] 3)).alloc (.cells #[.pointer p0] 47)).cell? ⟨w.heap.size + 1 + 1 + 1, 0, none⟩ = some (.pointer p0) := by
    have := (Row.made (((w.alloc (.cells (pfill m []).toArray 68)).alloc (.cells #[.slice (some ⟨w.heap.size, 0, none⟩) m m] 65)).alloc (.cells #[.int .i64 m] 3)) 47 #[.pointer p0]).cell 0
    simpa using this
  have hsz : ((((w.alloc (.cells (pfill m []).toArray 68)).alloc (.cells #[.slice (some ⟨w.heap.size, 0, none⟩) m m] 65)).alloc (.cells #[.int .i64 m] 3)).alloc (.cells #[.pointer p0] 47)).heap.size = w.heap.size + 4 := by simp
  generalize (((w.alloc (.cells (pfill m []).toArray 68)).alloc (.cells #[.slice (some ⟨w.heap.size, 0, none⟩) m m] 65)).alloc (.cells #[.int .i64 m] 3)).alloc (.cells #[.pointer p0] 47) = w0 at hI0 hbk hsz ⊢
  refine wpIn_rangeFunc_ownH hro h1 (gf := 122) (lb := #[.pointer (some ⟨w.heap.size + 1 + 1 + 1, 0, none⟩)]) rfl (hF _) (enters_of Try.func122 (by kernel_rfl) rfl)
    (pback_stops F (n - 1) (hF _) (hF _) hro (by omega) (w.heap.size + 1 + 1 + 1) w.heap.size p0 Pr.cells xs w0 (by omega) (by omega) hbk (HL.out.below hI0.be (Nat.le_refl _))) belowK_t (belowK_b (by omega)) (Below.refl _ _) (fun _ => rfl)
    (fun pre W => InvP w W m pre) (fun _ _ _ => False)
    (invp_own w m w0.heap.size (by omega)) (fun _ _ _ _ _ hs _ _ => hs) hI0 (AxQ w p0 m)
    (fun x a' _ W W' row h hg hr => by
      obtain ⟨gb, h1, h2, h3⟩ := h
      exact ⟨gb, h1, row_kept h2 hg (fun r e => (hr r e).2), h3⟩) ?assign ?body ?done ?stop
  case assign =>
    intro l pre x W K hI hK
    obtain ⟨k, q⟩ := x
    have HK := Lib.hid hK
    have HI := Lib.hid hI
    clear hK hI
    simp only [Pr.cells]
    gi_wp2
    exact HK.out _ _ ⟨by simp, fun k o _ hk ho => (Below.heap_alloc W _ k (Array.getElem?_eq_some_iff.1 hk).1).trans hk⟩ ((Below.refl _ W).alloc (by have := HI.out.sz; omega) _) (HI.out.alloc _) ⟨W.heap.size, HI.out.sz, Row.made _ _ _, rfl⟩
  case body =>
    rintro l pre x a' W _ _ hI ⟨gb, hgb, hrow, rfl⟩ hlen
    obtain ⟨kk, q⟩ := x
    rw [HX.out] at hlen
    have HI := Lib.hid hI
    have c1 : W.cell? ⟨w.heap.size + 1, 0, none⟩ = some (.slice (some ⟨w.heap.size, 0, none⟩) m m) := (hI.bl.cell 0).trans rfl
    have c2 : W.cell? ⟨w.heap.size + 1 + 1, 0, none⟩ = some (.int .i64 ((m : Int) - pre.length)) := (hI.bp.cell 0).trans rfl
    have f2 : W.frozen? ⟨w.heap.size + 1 + 1, 0, none⟩ = false := hI.bp.free 0
    obtain ⟨k, hk⟩ : ∃ k, m - pre.length = k + 1 := ⟨m - pre.length - 1, by omega⟩
    have ek : ((m : Int) - pre.length) = (k : Int) + 1 := by omega
    rw [ek] at c2
    have hpl := pfill_len m pre (by omega)
    have hk1 : k * 2 < (pfill m pre).length := by omega
    have hk2 : k * 2 + 1 < (pfill m pre).length := by omega
    obtain ⟨u, c3⟩ : ∃ u, W.cell? ⟨w.heap.size, k * 2, none⟩ = some u := by
      rw [hI.row.cell (k * 2)]
      exact ⟨_, Array.getElem?_eq_getElem (by simpa using hk1)⟩
    obtain ⟨u', c4⟩ : ∃ u, W.cell? ⟨w.heap.size, k * 2 + 1, none⟩ = some u := by
      rw [hI.row.cell (k * 2 + 1)]
      exact ⟨_, Array.getElem?_eq_getElem (by simpa using hk2)⟩
    have f3 : W.frozen? ⟨w.heap.size, k * 2, none⟩ = false := hI.row.free (k * 2)
    have f4 : W.frozen? ⟨w.heap.size, k * 2 + 1, none⟩ = false := hI.row.free (k * 2 + 1)
    have x0 : W.cell? ⟨gb, 0, none⟩ = some (.int .i64 kk) := (hrow.cell 0).trans rfl
    have x1 : W.cell? ⟨gb, 1, none⟩ = some (.int .i64 q) := (hrow.cell 1).trans rfl
    have HK := Lib.hid hk
    have HE := Lib.hid ek
    have HLEN := Lib.hid hlen
    have hkl : k < m := by omega
    have hki : (k : Int) < (m : Int) := by omega
    have n1 : gb ≠ w.heap.size + 1 + 1 := by omega
    have n2 : gb ≠ w.heap.size := by omega
    simp only [Pr.cells]
    clear hI hrow hlen hgb ek hk hpl hk1 hk2
    gi_wp2
    refine ⟨((KeepsOthers.setCell _ _ _).trans (KeepsOthers.setCell _ _ _)).trans (KeepsOthers.setCell _ _ _) |>.from _, ((((Below.refl w.heap.size W).setCell (p := ⟨w.heap.size + 1 + 1, 0, none⟩) (show w.heap.size ≤ w.heap.size + 1 + 1 by omega) _).setCell (p := ⟨w.heap.size, k * 2, none⟩) (Nat.le_refl _) _).setCell (p := ⟨w.heap.size, k * 2 + 1, none⟩) (Nat.le_refl _) _), ?_, ?_, ?_, by have := HLEN.out; simp; omega, (((HI.out.be.setCell (p := ⟨w.heap.size + 1 + 1, 0, none⟩) (show w.heap.size ≤ w.heap.size + 1 + 1 by omega) _).setCell (p := ⟨w.heap.size, k * 2, none⟩) (Nat.le_refl _) _).setCell (p := ⟨w.heap.size, k * 2 + 1, none⟩) (Nat.le_refl _) _), by have := HI.out.sz; simpa using this⟩
    · have h2 := ((Row.past HI.out.row (p := ⟨w.heap.size + 1 + 1, 0, none⟩) (by show w.heap.size ≠ w.heap.size + 1 + 1; omega) (.int .i64 k)).put (k * 2) (.int .i64 kk)).put (k * 2 + 1) (.int .i64 q)
      rw [← pfill_step m k pre ⟨kk, q⟩ HK.out]
      exact h2
    · exact ((HI.out.bl.past (p := ⟨w.heap.size + 1 + 1, 0, none⟩) (by show w.heap.size + 1 ≠ w.heap.size + 1 + 1; omega) (.int .i64 k)).past (p := ⟨w.heap.size, k * 2, none⟩) (by show w.heap.size + 1 ≠ w.heap.size; omega) (.int .i64 kk)).past (p := ⟨w.heap.size, k * 2 + 1, none⟩) (by show w.heap.size + 1 ≠ w.heap.size; omega) (.int .i64 q)
    · have h2 := ((HI.out.bp.put 0 (.int .i64 k)).past (p := ⟨w.heap.size, k * 2, none⟩) (by show w.heap.size + 2 ≠ w.heap.size; omega) (.int .i64 kk)).past (p := ⟨w.heap.size, k * 2 + 1, none⟩) (by show w.heap.size + 2 ≠ w.heap.size; omega) (.int .i64 q)
      have h3 : ((m : Int) - ((pre ++ [(⟨kk, q⟩ : Pr)]).length : Int)) = k := by have := HE.out; simp; omega
      rw [h3]
      simpa using h2
  case done =>
    rintro D ys W hD rfl hI hK
    have c1 : W.cell? ⟨w.heap.size + 1, 0, none⟩ = some (.slice (some ⟨w.heap.size, 0, none⟩) m m) := (hI.bl.cell 0).trans rfl
    have HI := Lib.hid hI
    clear hI
    gi_wp2
    refine ⟨by simp, .inl ⟨_, _, rfl, run_takeDeferred hK, ?_⟩⟩
    have hg := grownBy_putObj' W D (.deferred none)
    have hr : ∀ r, some D = some r → ∃ o : Obj, W.heap[r]? = some o ∧ o.isCells = false := fun r e => by cases e; exact ⟨_, hK, rfl⟩
    have hrow := row_kept HI.out.row hg hr
    have hpa := pfill_all ys
    rw [HX.out] at hpa
    rw [hpa] at hrow
    exact ⟨_, results_tmp rfl _ _ _, w.heap.size, by rw [HX.out]; rfl, hrow, Nat.le_refl _, HI.out.be.trans (belowK_b (w := w) (Nat.le_refl _) W D _ _ (by omega) hK rfl rfl)⟩
  case stop =>
    rintro D c pre W _ _ h _
    exact h.elim
theorem listp_any (p0 : Option Addr) (xs : List Pr) (w : World) (hL : Ch 2 w w.heap.size p0 (xs.map Pr.cells)) (hl : xs.length ≤ 1000000) :
    Calls Try.prog 79 #[.pointer p0] w (ListP w xs) :=
  callsIn_wide.1 (listp_in Fence.wide 3 (fun _ => trivial) rfl (by omega) p0 xs w hL hl)
end Go.Proofs.Ytaimbkikiokenaa.Rn
