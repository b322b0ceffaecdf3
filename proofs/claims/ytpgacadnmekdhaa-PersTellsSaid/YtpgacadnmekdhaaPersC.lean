/- Chains as lists. -/
import Derived.Test.YtpgacadnmekdhaaPersB
namespace Go.Proofs.Ytpgacadnmekdhaa.Pers
open Go.RowKit Go.Proofs.Ytpgacadnmekdhaa
set_option linter.unusedVariables false
attribute [local go_sem] Oper.semAt_some

theorem row_kept {W W' : World} {row : Option Nat} {b : Nat} {t : TypeId} {cs : Array Value} (h : Row W b t cs) (hg : W.grownBy W' row) (hr : ∀ r, row = some r → ∃ o : Obj, W.heap[r]? = some o ∧ o.isCells = false) : Row W' b t cs :=
  h.grown hg (fun e => by
    obtain ⟨o, ho, hc⟩ := hr b e.symm
    unfold Row at h
    rw [h] at ho
    cases ho
    cases hc)
/-- What the list holds when some things have come: the places behind are filled, from the end on. -/
def fill (n : Nat) (pre : List Int) : List Value := List.replicate (n - pre.length) (.int .i64 0) ++ (pre.reverse.map (Value.int .i64))
theorem fill_len (n : Nat) (pre : List Int) (h : pre.length ≤ n) : (fill n pre).length = n := by unfold fill; simp; omega
theorem fill_step (n : Nat) (pre : List Int) (x : Int) (h : pre.length < n) : (fill n pre).toArray.setIfInBounds (n - pre.length - 1) (.int .i64 x) = (fill n (pre ++ [x])).toArray := by
  rw [List.setIfInBounds_toArray]
  congr 1
  unfold fill
  obtain ⟨k, hk⟩ : ∃ k, n - pre.length = k + 1 := ⟨n - pre.length - 1, by omega⟩
  rw [hk, show n - (pre ++ [x]).length = k from by simp; omega, Nat.add_sub_cancel]
  rw [List.replicate_succ', List.append_assoc, List.set_append_right _ _ (by simp)]
  simp
theorem fill_all (xs : List Int) : fill xs.length xs = xs.reverse.map (Value.int .i64) := by unfold fill; simp

/-- What a call of List leaves. -/
def ListOf (w : World) (xs : List Int) (e : Ending) (w' : World) : Prop :=
  ∃ v ob, e = .returned v ∧ Seg w' 3 1 v xs.length (xs.reverse.map (Value.int .i64)) ob ∧ Below w.heap.size w w' ∧ ∀ g, ob = some g → w.heap.size ≤ g
structure Inv (w W : World) (n : Nat) (pre : List Int) : Prop where
  row : Row W w.heap.size 3 (fill n pre).toArray
  bl : Row W (w.heap.size + 1) 22 #[.slice (some ⟨w.heap.size, 0, none⟩) n n]
  bp : Row W (w.heap.size + 2) 3 #[.int .i64 ((n : Int) - pre.length)]
  le : pre.length ≤ n
  be : Below w.heap.size w W
theorem inv_own (w : World) (n : Nat) (B : Nat) (hB : w.heap.size ≤ B) : OwnFrom B (fun pre W => Inv w W n pre) := fun pre W W' row h hg hr =>
  ⟨row_kept h.row hg (fun r e => (hr r e).2), row_kept h.bl hg (fun r e => (hr r e).2), row_kept h.bp hg (fun r e => (hr r e).2), h.le, h.be.grown hg h.be.size (fun k e => Nat.le_trans hB (hr k e).1)⟩
theorem int_info3 : (Try.prog.info? 3).map (fun i => (i.zero, i.size, i.bytes)) = some (some (.int .i64 0), 1, 8) := by kernel_rfl
theorem made_fill (n : Nat) : madeCells #[Value.int .i64 0] n = (fill n []).toArray := by
  unfold fill madeCells
  apply Array.ext
  · simp
  · intro i h1 h2
    simp [Nat.mod_one]
set_option maxRecDepth 100000 in
set_option maxHeartbeats 2000000 in
theorem list_in (F : Fence) (n : Nat) (hF : ∀ k, F.fn k) (hro : F.round = none) (hn : 3 ≤ n) (p0 : Option Addr) (xs : List Int) (w : World) (hL : Ch w w.heap.size p0 xs) (hl : xs.length ≤ 1000000) :
    CallsIn F n Try.prog 21 #[.pointer p0] w (ListOf w xs) := by
  have h1 : 1 ≤ n := by omega
  have HL := Lib.hid hL
  clear hL
  refine callsIn_of_wp_marks Try.func21 rfl (hF _) ?_ hro
  simp only [Try.ntmps21, List.size_toArray, List.length_cons, List.length_nil, Nat.reduceAdd, Nat.reduceSub, Array.replicate_succ, Array.replicate_zero, List.push_toArray, List.append_toArray, List.nil_append, List.cons_append]
  have hmk := run_make_row' (P := Try.prog) 22 3 (.int .i64 0) 8 Try.underlying22 int_info3 rfl .i64 .i64 xs.length (by omega) (by omega)
  gi_wp2_with (first
    | (gi_at_call 22; refine (len_in F (n - 1) (hF _) hro p0 xs _ _ HL.out).mono ?_; rintro e w' ⟨rfl, rfl⟩)
    | (gi_at_call 17; refine (back_in F (n - 1) (hF _) hro _ _).mono ?_; rintro e w' ⟨rfl, rfl⟩))
  have hI0 : Inv w ((((w.alloc (.cells (madeCells #[.int .i64 0] xs.length) 3)).alloc (.cells #[.slice (some ⟨w.heap.size, 0, none⟩) xs.length xs.length] 22)).alloc (.cells #[.int .i64 xs.length] 3)).alloc (.cells #[.pointer p0] 24)) xs.length [] := by
    refine ⟨?_, ?_, ?_, by simp, (((((Below.refl _ w).alloc (Nat.le_refl _) _).alloc (by simp) _).alloc (by simp; omega) _).alloc (by simp; omega) _)⟩
    · rw [← made_fill]
      exact (((Row.made w _ _).alloc _).alloc _).alloc _
    · have := ((Row.made (w.alloc (.cells (madeCells #[.int .i64 0] xs.length) 3)) 22 #[.slice (some ⟨w.heap.size, 0, none⟩) xs.length xs.length]).alloc (.cells #[.int .i64 xs.length] 3)).alloc (.cells #[.pointer p0] 24)
      simpa using this
    · have := (Row.made ((w.alloc (.cells (madeCells #[.int .i64 0] xs.length) 3)).alloc (.cells #[.slice (some ⟨w.heap.size, 0, none⟩) xs.length xs.length] 22)) 3 #[.int .i64 xs.length]).alloc (.cells #[.pointer p0] 24)
      simpa using this
  have hbk : ((((w.alloc (.cells (madeCells #[.int .i64 0] xs.length) 3)).alloc (.cells #[.slice (some ⟨w.heap.size, 0, none⟩) xs.length xs.length] 22)).alloc (.cells #[.int .i64 xs.length] 3)).alloc (.cells #[.pointer p0] 24)).cell? ⟨w.heap.size + 1 + 1 + 1, 0, none⟩ = some (.pointer p0) := by
    have := (Row.made (((w.alloc (.cells (madeCells #[.int .i64 0] xs.length) 3)).alloc (.cells #[.slice (some ⟨w.heap.size, 0, none⟩) xs.length xs.length] 22)).alloc (.cells #[.int .i64 xs.length] 3)) 24 #[.pointer p0]).cell 0
    simpa using this
  have hsz : ((((w.alloc (.cells (madeCells #[.int .i64 0] xs.length) 3)).alloc (.cells #[.slice (some ⟨w.heap.size, 0, none⟩) xs.length xs.length] 22)).alloc (.cells #[.int .i64 xs.length] 3)).alloc (.cells #[.pointer p0] 24)).heap.size = w.heap.size + 4 := by simp
  generalize (((w.alloc (.cells (madeCells #[.int .i64 0] xs.length) 3)).alloc (.cells #[.slice (some ⟨w.heap.size, 0, none⟩) xs.length xs.length] 22)).alloc (.cells #[.int .i64 xs.length] 3)).alloc (.cells #[.pointer p0] 24) = w0 at hI0 hbk hsz ⊢
  refine wpIn_rangeFunc_ownF hro h1 (gf := 91) (lb := #[.pointer (some ⟨w.heap.size + 1 + 1 + 1, 0, none⟩)]) rfl (hF _) (enters_of Try.func91 (by kernel_rfl) rfl)
    (back_stops F (n - 1) (hF _) (hF _) hro (by omega) (w.heap.size + 1 + 1 + 1) w.heap.size p0 xs w0 (by omega) (by omega) hbk (HL.out.below hI0.be (Nat.le_refl _))) belowK_t (belowK_b (by omega)) (Below.refl _ _) (fun _ => rfl)
    (fun pre W => Inv w W xs.length pre) (fun _ _ _ => False)
    (inv_own w xs.length w0.heap.size (by omega)) (fun _ _ _ _ _ hs _ _ => hs) hI0
    (fun x => { tmps := #[.pointer p0, undef, .slice none 0 0, .pointer (some ⟨w.heap.size + 1, 0, none⟩), .pointer (some ⟨w.heap.size + 1 + 1, 0, none⟩), .int .i64 x, .pointer p0, .int .i64 xs.length, .slice (some ⟨w.heap.size, 0, none⟩) xs.length xs.length,
      .slice (some ⟨w.heap.size, 0, none⟩) xs.length xs.length, .int .i64 xs.length, .pointer p0, .func (.func 91) #[] #[.pointer (some ⟨w.heap.size + 1 + 1 + 1, 0, none⟩)], .int .i64 x, undef, undef, undef, undef, undef, undef, undef], defers := [] }) ?assign ?body ?done ?stop
  case assign =>
    intro l x W K hK
    gi_wp2
    exact hK
  case body =>
    rintro l pre x W hI hlen
    have HI := Lib.hid hI
    have c1 : W.cell? ⟨w.heap.size + 1, 0, none⟩ = some (.slice (some ⟨w.heap.size, 0, none⟩) xs.length xs.length) := (hI.bl.cell 0).trans rfl
    have c2 : W.cell? ⟨w.heap.size + 1 + 1, 0, none⟩ = some (.int .i64 ((xs.length : Int) - pre.length)) := (hI.bp.cell 0).trans rfl
    have f2 : W.frozen? ⟨w.heap.size + 1 + 1, 0, none⟩ = false := hI.bp.free 0
    obtain ⟨k, hk⟩ : ∃ k, xs.length - pre.length = k + 1 := ⟨xs.length - pre.length - 1, by omega⟩
    have ek : ((xs.length : Int) - pre.length) = (k : Int) + 1 := by omega
    rw [ek] at c2
    obtain ⟨u, c3⟩ : ∃ u, W.cell? ⟨w.heap.size, k, none⟩ = some u := by
      rw [hI.row.cell k]
      exact ⟨_, Array.getElem?_eq_getElem (by have := fill_len xs.length pre (by omega); simp; omega)⟩
    have f3 : W.frozen? ⟨w.heap.size, k, none⟩ = false := hI.row.free k
    have HK := Lib.hid hk
    have HE := Lib.hid ek
    have hkl : k < xs.length := by omega
    clear hI ek hk
    gi_wp2
    refine ⟨(KeepsOthers.setCell _ _ _).trans (KeepsOthers.setCell _ _ _), ((Below.refl w.heap.size W).setCell (p := ⟨w.heap.size + 1 + 1, 0, none⟩) (show w.heap.size ≤ w.heap.size + 1 + 1 by omega) _).setCell (p := ⟨w.heap.size, k, none⟩) (by simp) _, ?_, ?_, ?_, by simp; omega, (HI.out.be.setCell (p := ⟨w.heap.size + 1 + 1, 0, none⟩) (show w.heap.size ≤ w.heap.size + 1 + 1 by omega) _).setCell (p := ⟨w.heap.size, k, none⟩) (by simp) _⟩
    · have h2 := Row.put (Row.past HI.out.row (p := ⟨w.heap.size + 1 + 1, 0, none⟩) (by simp; omega) (.int .i64 k)) k (.int .i64 x)
      have h3 := fill_step xs.length pre x hlen
      rw [HK.out, Nat.add_sub_cancel] at h3
      rw [← h3]
      exact h2
    · exact Row.past (Row.past HI.out.bl (p := ⟨w.heap.size + 1 + 1, 0, none⟩) (by simp) _) (p := ⟨w.heap.size, k, none⟩) (by simp) _
    · have h2 := Row.past (Row.put HI.out.bp 0 (.int .i64 k)) (p := ⟨w.heap.size, k, none⟩) (by simp) (.int .i64 x)
      have h3 : ((xs.length : Int) - ((pre ++ [x]).length : Int)) = k := by have := HE.out; simp; omega
      rw [h3]
      simpa using h2
  case done =>
    rintro D ys W hD rfl hI hK
    have c1 : W.cell? ⟨w.heap.size + 1, 0, none⟩ = some (.slice (some ⟨w.heap.size, 0, none⟩) ys.length ys.length) := (hI.bl.cell 0).trans rfl
    have HI := Lib.hid hI
    clear hI
    gi_wp2
    refine ⟨by simp, .inl ⟨_, _, rfl, run_takeDeferred hK, ?_⟩⟩
    have hg := grownBy_putObj' W D (.deferred none)
    have hr : ∀ r, some D = some r → ∃ o : Obj, W.heap[r]? = some o ∧ o.isCells = false := fun r e => by cases e; exact ⟨_, hK, rfl⟩
    have hrow := row_kept HI.out.row hg hr
    refine ⟨_, results_tmp rfl _ _ _, _, some w.heap.size, rfl, ⟨by simp, _, ys.length, rfl, Nat.le_refl _, by unfold maxLen; omega, .inr ⟨w.heap.size, 0, _, rfl, rfl, hrow, by simp [fill_len], ?_⟩⟩, HI.out.be.trans (belowK_b (w := w) (Nat.le_refl _) W D _ _ (by omega) hK rfl rfl), fun g e => by cases e; exact Nat.le_refl _⟩
    rw [fill_all]
    simp only [List.drop_zero, Nat.mul_one]
    rw [List.take_of_length_le (by simp)]
  case stop =>
    rintro D c pre W _ _ h _
    exact h.elim
end Go.Proofs.Ytpgacadnmekdhaa.Pers
