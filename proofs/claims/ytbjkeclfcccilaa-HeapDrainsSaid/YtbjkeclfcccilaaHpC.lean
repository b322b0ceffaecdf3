/- A heap in memory: which of two is ahead; how many there are; two of them change places. -/
import Derived.Test.YtbjkeclfcccilaaHpB
import Derived.Test.YtbjkeclfcccilaaSeg
import Derived.Deep.RegionHeld3
namespace Go.Proofs.Ytbjkeclfcccilaa.Hp
open Go.RowKit Go.Proofs.Ytbjkeclfcccilaa
set_option linter.unusedVariables false
set_option maxRecDepth 100000
def St.agg (x : St) : Value := .agg #[.int .i64 x.t, .int .i64 x.q, .int .i64 x.a]
def St.cells (x : St) : List Value := [.int .i64 x.t, .int .i64 x.q, .int .i64 x.a]
def LessPost (x y : St) (w : World) (e : Ending) (w' : World) : Prop := e = .returned (.bool (decide (lt x y))) ∧ Below w.heap.size w w'
theorem less_mk {x y : St} {w w' : World} {b : Bool} (h : decide (lt x y) = b) (hb : Below w.heap.size w w') : LessPost x y w (.returned (.bool b)) w' := ⟨by rw [h], hb⟩
theorem less_any (x y : St) (w : World) : Calls Try.prog 39 #[.agg #[.int .i64 x.t, .int .i64 x.q, .int .i64 x.a], .agg #[.int .i64 y.t, .int .i64 y.q, .int .i64 y.a]] w (LessPost x y w) := by
  obtain ⟨xt, xq, xa⟩ := x
  obtain ⟨yt, yq, ya⟩ := y
  by_cases h1 : xt = yt
  · subst h1
    by_cases h2 : xq = yq
    · subst h2
      have HL : Hid (decide (lt ⟨xt, xq, xa⟩ ⟨xt, xq, ya⟩) = decide (xa < ya)) := Lib.hid (by congr 1; unfold lt; simp)
      go_enter Try.func39, Try.ntmps39
      go_wp2
      go_ret
      exact less_mk HL.out (by go_grown)
    · have hb2 : (xq == yq) = false := by simpa using h2
      have HL : Hid (decide (lt ⟨xt, xq, xa⟩ ⟨xt, yq, ya⟩) = decide (xq < yq)) := Lib.hid (by congr 1; unfold lt; simp [h2])
      clear h2
      go_enter Try.func39, Try.ntmps39
      go_wp2
      go_ret
      exact less_mk HL.out (by go_grown)
  · have hb1 : (xt == yt) = false := by simpa using h1
    have HL : Hid (decide (lt ⟨xt, xq, xa⟩ ⟨yt, yq, ya⟩) = decide (xt < yt)) := Lib.hid (by congr 1; unfold lt; simp [h1])
    clear h1
    go_enter Try.func39, Try.ntmps39
    go_wp2
    go_ret
    exact less_mk HL.out (by go_grown)
def hcells (xs : List St) : List Value := xs.flatMap St.cells
theorem hcells_len : ∀ xs : List St, (hcells xs).length = xs.length * 3
  | [] => rfl
  | x :: r => by
    show (x.cells ++ hcells r).length = _
    rw [List.length_append, hcells_len r, List.length_cons]
    have : x.cells.length = 3 := rfl
    omega
theorem hcells_get : ∀ (xs : List St) (i : Nat) (x : St) (j : Nat) (u : Value), xs[i]? = some x → x.cells[j]? = some u → (hcells xs)[i * 3 + j]? = some u
  | [], i, x, j, u, h, _ => by simp at h
  | y :: r, 0, x, j, u, h, hj => by
    simp at h
    subst h
    show (y.cells ++ hcells r)[0 * 3 + j]? = some u
    have : j < y.cells.length := (List.getElem?_eq_some_iff.1 hj).1
    rw [Nat.zero_mul, Nat.zero_add, List.getElem?_append_left this]
    exact hj
  | y :: r, i + 1, x, j, u, h, hj => by
    have ih := hcells_get r i x j u (by simpa using h) hj
    have hl : y.cells.length = 3 := rfl
    show (y.cells ++ hcells r)[(i + 1) * 3 + j]? = some u
    rw [List.getElem?_append_right (by omega), ← ih]
    congr 1
    omega
/-- A heap at block b: its things xs lie in block ob. -/
structure Hm (w : World) (b : Nat) (v : Value) (ob : Option Nat) (xs : List St) : Prop where
  row : Row w b 26 #[v]
  seg : Seg w 28 3 v xs.length (hcells xs) ob
theorem Hm.call {w w' : World} {b : Nat} {v : Value} {ob : Option Nat} {xs : List St} (h : Hm w b v ob xs) (g : Below w.heap.size w w') : Hm w' b v ob xs :=
  ⟨h.row.below g h.row.lt, h.seg.turns (Turns.of_below g) (fun _ _ x => x)⟩
theorem Hm.at {w : World} {b : Nat} {v : Value} {ob : Option Nat} {xs : List St} (h : Hm w b v ob xs) {i : Nat} (hi : i < xs.length) : ∃ g o cap, v = .slice (some ⟨g, o, none⟩) xs.length cap ∧ ob = some g ∧ g < w.heap.size ∧ xs.length ≤ cap ∧ cap ≤ 9223372036854775807 ∧
    (∀ k, k < xs.length → w.cell? ⟨g, o + k * 3, none⟩ = some (.int .i64 (gt xs k).t) ∧ w.cell? ⟨g, o + k * 3 + 1, none⟩ = some (.int .i64 (gt xs k).q) ∧ w.cell? ⟨g, o + k * 3 + 2, none⟩ = some (.int .i64 (gt xs k).a)) ∧ (∀ k, w.frozen? ⟨g, k, none⟩ = false) := by
  obtain ⟨g, o, cap, e, hob, h1, h2, hc, hfz⟩ := h.seg.shape (by omega)
  refine ⟨g, o, cap, e, hob, h.seg.lt g hob, h1, by unfold maxLen at h2; omega, fun k hk => ?_, hfz⟩
  have hx : xs[k]? = some (gt xs k) := by rw [gt_get _ _ hk]; exact List.getElem?_eq_getElem hk
  exact ⟨hc _ _ (hcells_get xs k _ 0 _ hx rfl), hc _ _ (hcells_get xs k _ 1 _ hx rfl), hc _ _ (hcells_get xs k _ 2 _ hx rfl)⟩
theorem len_any (b : Nat) (v : Value) (ob : Option Nat) (xs : List St) (w : World) (h : Hm w b v ob xs) :
    Calls Try.prog 9 #[.pointer (some ⟨b, 0, none⟩)] w fun e w' => e = .returned (.int .i64 (xs.length : Int)) ∧ w = w' := by
  have c0 : w.cell? ⟨b, 0, none⟩ = some v := (h.row.cell 0).trans rfl
  obtain ⟨A, c, rfl, h1, h2⟩ := h.seg.form
  have h3 : c ≤ 9223372036854775807 := by unfold maxLen at h2; omega
  clear h h2
  go_enter Try.func9, Try.ntmps9
  go_wp2
  go_ret
  exact ⟨rfl, rfl⟩
theorem len_nil (w : World) : Calls Try.prog 9 #[.pointer none] w fun e w' => e = .returned (.int .i64 0) ∧ w = w' := by
  go_enter Try.func9, Try.ntmps9
  go_wp2
  go_ret
  exact ⟨rfl, rfl⟩
set_option maxHeartbeats 1000000 in
theorem peek_yes (b : Nat) (v : Value) (ob : Option Nat) (xs : List St) (w : World) (h : Hm w b v ob xs) (h0 : 0 < xs.length) :
    Calls Try.prog 16 #[.pointer (some ⟨b, 0, none⟩)] w fun e w' => e = .returned (.tuple #[.agg #[.int .i64 (gt xs 0).t, .int .i64 (gt xs 0).q, .int .i64 (gt xs 0).a], .bool true]) ∧ Below w.heap.size w w' := by
  have hB := (Below.refl _ w).alloc (Nat.le_refl _) (.cells #[.int .i64 0, .int .i64 0, .int .i64 0] 28)
  have HM := Lib.hid (h.call hB)
  obtain ⟨g, o, cap, rfl, hob, hg, h1, h2, hcl, _⟩ := (h.call hB).at h0
  obtain ⟨e0, e1, e2⟩ := hcl 0 h0
  simp only [Nat.zero_mul, Nat.add_zero] at e0 e1 e2
  have c0 : (w.alloc (.cells #[.int .i64 0, .int .i64 0, .int .i64 0] 28)).cell? ⟨b, 0, none⟩ = some (.slice (some ⟨g, o, none⟩) xs.length cap) := (HM.out.row.cell 0).trans rfl
  have hn0 : ((xs.length : Int) == 0) = false := by simp; intro e; rw [e] at h0; simp at h0
  clear hcl h hob hB
  go_enter Try.func16, Try.ntmps16
  go_wp2_with fail
  refine (len_any b _ _ xs _ HM.out).mono ?_
  rintro e w' ⟨rfl, rfl⟩
  go_wp2
  exact bodyPost_ret (v := .tuple #[.agg #[.int .i64 (gt xs 0).t, .int .i64 (gt xs 0).q, .int .i64 (gt xs 0).a], .bool true]) (by simp [results, Try.results16, go_sem]; try rfl) rfl ⟨rfl, by go_grown⟩
theorem peek_no (b : Nat) (v : Value) (ob : Option Nat) (w : World) (h : Hm w b v ob []) :
    Calls Try.prog 16 #[.pointer (some ⟨b, 0, none⟩)] w fun e w' => e = .returned (.tuple #[.agg #[.int .i64 0, .int .i64 0, .int .i64 0], .bool false]) ∧ Below w.heap.size w w' := by
  have HM := Lib.hid (h.call ((Below.refl _ w).alloc (Nat.le_refl _) (.cells #[.int .i64 0, .int .i64 0, .int .i64 0] 28)))
  clear h
  go_enter Try.func16, Try.ntmps16
  go_wp2_with fail
  refine (len_any b _ _ [] _ HM.out).mono ?_
  rintro e w' ⟨rfl, rfl⟩
  go_wp2
  exact bodyPost_ret (v := .tuple #[.agg #[.int .i64 0, .int .i64 0, .int .i64 0], .bool false]) (by simp [results, Try.results16, go_sem]; try rfl) rfl ⟨rfl, by go_grown⟩
theorem peek_nil (w : World) :
    Calls Try.prog 16 #[.pointer none] w fun e w' => e = .returned (.tuple #[.agg #[.int .i64 0, .int .i64 0, .int .i64 0], .bool false]) ∧ Below w.heap.size w w' := by
  go_enter Try.func16, Try.ntmps16
  go_wp2_with fail
  refine (len_nil _).mono ?_
  rintro e w' ⟨rfl, rfl⟩
  go_wp2
  exact bodyPost_ret (v := .tuple #[.agg #[.int .i64 0, .int .i64 0, .int .i64 0], .bool false]) (by simp [results, Try.results16, go_sem]; try rfl) rfl ⟨rfl, by go_grown⟩
end Go.Proofs.Ytbjkeclfcccilaa.Hp
