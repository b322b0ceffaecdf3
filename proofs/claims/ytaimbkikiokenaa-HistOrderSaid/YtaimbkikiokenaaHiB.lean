/- A book of calls: what it holds; where a call stands. -/
import Derived.Test.YtaimbkikiokenaaHiA
namespace Go.Proofs.Ytaimbkikiokenaa.Hi
open Go.RowKit Go.Proofs.Ytaimbkikiokenaa Go.Maps
set_option linter.unusedVariables false
set_option maxRecDepth 100000
def hit (c n : Int) (s : Sp) : Bool := decide (s.c = c ∧ s.n = n)
def fnd (xs : List Sp) (c n : Int) : Option Nat := xs.findIdx? (hit c n)
theorem fnd_get {xs : List Sp} {c n : Int} {j : Nat} (h : fnd xs c n = some j) : ∃ x, xs[j]? = some x ∧ x.c = c ∧ x.n = n := by
  obtain ⟨h1, h2, _⟩ := List.findIdx?_eq_some_iff_getElem.1 h
  exact ⟨xs[j], List.getElem?_eq_getElem h1, of_decide_eq_true h2⟩
theorem fnd_app (xs : List Sp) (x : Sp) (c n : Int) : fnd (xs ++ [x]) c n = match fnd xs c n with | some j => some j | none => if x.c = c ∧ x.n = n then some xs.length else none := by
  unfold fnd
  rw [List.findIdx?_append]
  cases h : xs.findIdx? (hit c n) with
  | some j => simp
  | none =>
    by_cases hx : x.c = c ∧ x.n = n
    · simp [List.findIdx?_cons, hit, hx]
    · simp [List.findIdx?_cons, hit, hx]
/-- What the map tells of a call. -/
def Told (D : DataW Unit) (xs : List Sp) : Prop := ∀ c n l, I64 c → I64 n → keyOf Try.prog 179 (cv c n) = some l →
  (∀ j, fnd xs c n = some j → Maps.has D l = true ∧ D.atKey l (.lit (.int .i64 0)) = .lit (.int .i64 (j : Int))) ∧ (fnd xs c n = none → Maps.has D l = false)
structure Bk (w0 w : World) (b mb : Nat) (v : Value) (ob : Option Nat) (D : DataW Unit) (xs : List Sp) : Prop where
  be : Below w0.heap.size w0 w
  ge : w0.heap.size ≤ b
  mge : w0.heap.size ≤ mb
  oge : ∀ g, ob = some g → w0.heap.size ≤ g
  row : Row w b 142 #[v, .map (some mb)]
  seg : Seg w 104 13 v xs.length (scells xs) ob
  own : w.ownsMap Try.prog 179 (plainElem (H := Unit) Try.prog 3) mb xs.length D
  told : Told D xs
theorem own_turns {P : Program} {k : TypeId} {R : Value → Option (DataW Unit × List MemPlace)} {mb c : Nat} {D : DataW Unit} {w w' : World} {S : Nat → Prop} (h : w.ownsMap P k R mb c D) (g : Turns w w' S) (hs : ¬ S mb) : w'.ownsMap P k R mb c D := by
  have hl := h.lt
  obtain ⟨es, clock, hb, r⟩ := h
  exact ⟨es, clock, (g.block mb hl hs).trans hb, r⟩
theorem own_not_row {P : Program} {k : TypeId} {R : Value → Option (DataW Unit × List MemPlace)} {mb c b : Nat} {D : DataW Unit} {w : World} {t : TypeId} {cs : Array Value} (h : w.ownsMap P k R mb c D) (hr : Row w b t cs) : mb ≠ b := by
  intro e
  subst e
  obtain ⟨es, clock, hb, _⟩ := h
  unfold Row at hr
  rw [hr] at hb
  cases hb
theorem seg_row {w : World} {e : TypeId} {size n : Nat} {v : Value} {xs : List Value} {g : Nat} (h : Seg w e size v n xs (some g)) : ∃ c, Row w g e c := by
  obtain ⟨_, A, cap, _, _, _, ⟨_, h2, _⟩ | ⟨g', o, cur, _, h2, h3, _⟩⟩ := h
  · cases h2
  · cases h2; exact ⟨_, h3⟩
theorem row_ne {w : World} {b b' : Nat} {t t' : TypeId} {c c' : Array Value} (h : Row w b t c) (g : Row w b' t' c') (hn : t ≠ t') : b ≠ b' := by
  intro e
  subst e
  unfold Row at h g
  rw [h] at g
  cases g
  exact hn rfl
section
variable {w0 w w' : World} {b mb : Nat} {v : Value} {ob : Option Nat} {D : DataW Unit} {xs : List Sp}
theorem Bk.call (h : Bk w0 w b mb v ob D xs) (g : Below w.heap.size w w') : Bk w0 w' b mb v ob D xs :=
  ⟨h.be.trans (g.mono h.be.size), h.ge, h.mge, h.oge, h.row.below g h.row.lt, h.seg.turns (Turns.of_below g) (fun _ _ x => x), own_turns h.own (Turns.of_below g) (fun x => x), h.told⟩
theorem Bk.c0 (h : Bk w0 w b mb v ob D xs) : w.cell? ⟨b, 0, none⟩ = some v := (h.row.cell 0).trans rfl
theorem Bk.c1 (h : Bk w0 w b mb v ob D xs) : w.cell? ⟨b, 1, none⟩ = some (.map (some mb)) := (h.row.cell 1).trans rfl
end
theorem zeroI (w : World) : (zeroValue 3).run Try.prog w = .ok (.int .i64 0) w := by kernel_rfl
theorem span_no {w0 w : World} {b mb : Nat} {v : Value} {ob : Option Nat} {D : DataW Unit} {xs : List Sp} (h : Bk w0 w b mb v ob D xs) (c n : Int) (hc : I64 c) (hn : I64 n) (hf : fnd xs c n = none) :
    Calls Try.prog 114 #[.pointer (some ⟨b, 0, none⟩), .agg #[.int .i64 c, .int .i64 n]] w fun e w' => e = .returned (.pointer none) ∧ Below w.heap.size w w' := by
  obtain ⟨l, hl⟩ := cv_some hc hn
  have hB := h.call ((Below.refl _ w).alloc (Nat.le_refl _) (.cells #[.int .i64 c, .int .i64 n] 179))
  have c0 := hB.c0
  have c1 := hB.c1
  have hw0 : (Lit.int .i64 0).wf = true := rfl
  have hd : Bk w0 ((w.alloc (.cells #[.int .i64 c, .int .i64 n] 179)).drew) b mb v ob D xs := hB.call (below_drewN (Below.refl _ _) 1)
  obtain ⟨u, ps, hlk, hu⟩ := hd.own.look_ok lawC Try.underlying140 (zeroI _) (plainElem_int Try.underlying3 hw0) hl
  rw [(h.told c n l hc hn hl).2 hf] at hlk
  obtain ⟨q, rfl, _, _⟩ := plainElem_int_inv Try.underlying3 hu
  unfold cv at hlk
  clear hB hu h hd
  go_enter Try.func114, Try.ntmps114
  go_wp2
  go_region
  all_goals
    go_wp2
    go_ret
    exact ⟨rfl, by go_grown⟩
theorem span_yes {w0 w : World} {b mb g o cap : Nat} {ob : Option Nat} {D : DataW Unit} {xs : List Sp} (h : Bk w0 w b mb (.slice (some ⟨g, o, none⟩) xs.length cap) ob D xs) (c n : Int) (hc : I64 c) (hn : I64 n) {j : Nat} (hf : fnd xs c n = some j) :
    Calls Try.prog 114 #[.pointer (some ⟨b, 0, none⟩), .agg #[.int .i64 c, .int .i64 n]] w fun e w' => e = .returned (.pointer (some ⟨g, o + j * 13, none⟩)) ∧ Below w.heap.size w w' := by
  obtain ⟨l, hl⟩ := cv_some hc hn
  have hB := h.call ((Below.refl _ w).alloc (Nat.le_refl _) (.cells #[.int .i64 c, .int .i64 n] 179))
  have c0 := hB.c0
  have c1 := hB.c1
  have hw0 : (Lit.int .i64 0).wf = true := rfl
  have hd : Bk w0 ((w.alloc (.cells #[.int .i64 c, .int .i64 n] 179)).drew) b mb (.slice (some ⟨g, o, none⟩) xs.length cap) ob D xs := hB.call (below_drewN (Below.refl _ _) 1)
  obtain ⟨u, ps, hlk, hu⟩ := hd.own.look_ok lawC Try.underlying140 (zeroI _) (plainElem_int Try.underlying3 hw0) hl
  obtain ⟨ht1, ht2⟩ := (h.told c n l hc hn hl).1 j hf
  rw [ht1] at hlk
  rw [ht2] at hu
  obtain ⟨q, rfl, hq, _⟩ := plainElem_int_inv Try.underlying3 hu
  simp only [Prod.mk.injEq, DataW.lit.injEq, Lit.int.injEq, true_and] at hq
  obtain ⟨rfl, _⟩ := hq
  unfold cv at hlk
  obtain ⟨x, hx, _⟩ := fnd_get hf
  have hj : j < xs.length := (List.getElem?_eq_some_iff.1 hx).1
  have hji : (j : Int) < (xs.length : Int) := by omega
  obtain ⟨_, cap', hv', h1, h2⟩ := h.seg.form
  injection hv' with e1 _ e3
  subst e1 e3
  have h3 : cap ≤ 9223372036854775807 := by unfold maxLen at h2; omega
  clear hB hu h hd
  go_enter Try.func114, Try.ntmps114
  go_wp2
  go_region
  all_goals
    go_wp2
    go_ret
    exact ⟨rfl, by go_grown⟩
end Go.Proofs.Ytaimbkikiokenaa.Hi
