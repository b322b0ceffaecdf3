/- Parts, and up to when each knows all, told beside them. -/
import Derived.Test.YtmkofjdmjilpiaaAlD
namespace Go.Proofs.Ytmkofjdmjilpiaa.Al
open Go.RowKit Go.Proofs.Ytmkofjdmjilpiaa Go.Proofs.Ytmkofjdmjilpiaa.Mark
set_option linter.unusedVariables false

def ats (f : Nat → Int) : Nat → Value := fun k => .int .i64 (f k - 1)
/-- Parts at b with marks f; the law's own row at ab tells f'. -/
structure Pp (w0 w : World) (b mb ab N : Nat) (f f' : Nat → Int) : Prop where
  al : Al w b mb N f
  tab : Tab w ab 2 N (ats f')
  be : Below w0.heap.size w0 w
  gb : w0.heap.size ≤ b
  gm : w0.heap.size ≤ mb
  ga : w0.heap.size ≤ ab
  n1 : ab ≠ b
  n2 : ab ≠ mb
section
variable {w0 w w' : World} {b mb ab N : Nat} {f f' g : Nat → Int}
theorem Pp.call (h : Pp w0 w b mb ab N f f') (g : Below w.heap.size w w') : Pp w0 w' b mb ab N f f' :=
  ⟨h.al.call g, h.tab.below g h.tab.lt, h.be.trans (g.mono h.be.size), h.gb, h.gm, h.ga, h.n1, h.n2⟩
theorem Pp.drewN (h : Pp w0 w b mb ab N f f') (n : Nat) : Pp w0 (w.drewN n) b mb ab N f f' :=
  ⟨h.al.drewN n, h.tab.drewN n, below_drewN h.be n, h.gb, h.gm, h.ga, h.n1, h.n2⟩
theorem Pp.to (h : Pp w0 w b mb ab N f f') (h1 : Al w' b mb N g) (t : Turns w w' (fun k => k = mb)) : Pp w0 w' b mb ab N g f' :=
  ⟨h1, h.tab.turns t h.n2, t.below h.be h.be.size (fun k hk e => by have := h.gm; omega), h.gb, h.gm, h.ga, h.n1, h.n2⟩
theorem Pp.put (h : Pp w0 w b mb ab N f f') (x : Nat) (v m : Int) (hv : v = m - 1) : Pp w0 (w.setCell ⟨ab, x, none⟩ (.int .i64 v)) b mb ab N f (updF f' x m) := by
  subst hv
  have t : Turns w (w.setCell ⟨ab, x, none⟩ (.int .i64 (m - 1))) (fun k => k = ab) := (Turns.refl w _).put ab x _ (fun _ => rfl)
  refine ⟨h.al.turns t h.n1.symm h.n2.symm, h.tab.put x _ (fun i _ hi => by unfold ats updF; rw [if_neg hi]) (fun _ => by unfold ats updF; rw [if_pos rfl]), t.below h.be h.be.size (fun k hk e => by have := h.ga; omega), h.gb, h.gm, h.ga, h.n1, h.n2⟩
theorem Pp.congr (h : Pp w0 w b mb ab N f f') (hg : ∀ i, i < N → f' i = g i) : Pp w0 w b mb ab N f g :=
  ⟨h.al, h.tab.congr (fun i hi => by unfold ats; rw [hg i hi]), h.be, h.gb, h.gm, h.ga, h.n1, h.n2⟩
theorem Pp.cell (h : Pp w0 w b mb ab N f f') {x : Nat} (hx : x < N) : w.cell? ⟨ab, x, none⟩ = some (.int .i64 (f' x - 1)) := h.tab.cell hx
end
def ini (k : Nat) : Nat → Int := fun i => if i < k then 0 else 1
theorem ini_succ (k : Nat) : updF (ini k) k 0 = ini (k + 1) := by
  funext i
  unfold updF ini
  by_cases h : i = k
  · rw [if_pos h, if_pos (by omega)]
  · rw [if_neg h]
    by_cases h' : i < k
    · rw [if_pos h', if_pos (by omega)]
    · rw [if_neg h', if_neg (by omega)]
theorem pp_start {w0 w : World} {b mb N : Nat} (h : Al w b mb N (fun _ => 0)) (hb : Below w0.heap.size w0 w) (gb : w0.heap.size ≤ b) (gm : w0.heap.size ≤ mb) :
    Pp w0 (w.alloc (.cells (madeCells #[.int .i64 0] N) 2)) b mb w.heap.size N (fun _ => 0) (ini 0) :=
  ⟨h.call ((Below.refl _ _).alloc (Nat.le_refl _) _), (Tab.made w _ N _).congr (fun i _ => rfl), hb.alloc hb.size _, gb, gm, hb.size, by have := h.row.lt; omega, by have := h.tab.lt; omega⟩
/-- What a call to go on leads to: which error is wanted, and how the law's own row goes on. -/
def Sw (w0 wr : World) (b mb ab N : Nat) (f : Nat → Int) (k t : Int) (s : Value) (wc : World) : Prop :=
  (s = .int .i64 1 ∧ (k < 0 ∨ (N : Int) ≤ k) ∧ Pp w0 wc b mb ab N f f) ∨
  (∃ (x : Nat) (m' e : Int), k = (x : Int) ∧ x < N ∧ s = .int .i64 e ∧ ToR (f x) t m' e ∧ 0 ≤ m' ∧ m' ≤ 1099511627777 ∧ Pp w0 wc b mb ab N f (updF f x m'))
/-- The parts told so far are those ahead in the list of all that are behind. -/
theorem behL_sub (f : Nat → Int) (N : Nat) : ∀ k m, behL f N (k + m) = behL f N k ++ (behL f N (k + m)).drop (behL f N k).length
  | k, 0 => by simp
  | k, m + 1 => by
    have h := behL_sub f N k m
    have e : behL f N (k + (m + 1)) = behL f N (k + m) ++ (if f (k + m) = mn f N then [((k + m : Nat) : Int)] else []) := rfl
    have hl : (behL f N k).length ≤ (behL f N (k + m)).length := by rw [h]; simp
    rw [e, List.drop_append_of_le_length hl, ← List.append_assoc, ← h]
theorem behL_get (f : Nat → Int) (N k : Nat) (hk : k < N) (he : f k = mn f N) : (behL f N N)[(behL f N k).length]? = some (k : Int) ∧ (behL f N k).length < (behL f N N).length ∧ (behL f N (k + 1)).length = (behL f N k).length + 1 := by
  have h := behL_sub f N (k + 1) (N - (k + 1))
  rw [show k + 1 + (N - (k + 1)) = N by omega] at h
  have e : behL f N (k + 1) = behL f N k ++ [(k : Int)] := by rw [behL, if_pos he]
  obtain ⟨R, h2⟩ : ∃ R, behL f N N = behL f N (k + 1) ++ R := ⟨_, h⟩
  rw [e, List.append_assoc] at h2
  refine ⟨?_, ?_, by rw [e]; simp⟩
  · rw [h2, List.getElem?_append_right (Nat.le_refl _), Nat.sub_self]
    rfl
  · have := congrArg List.length h2
    simp only [List.length_append, List.length_cons, List.length_nil] at this
    omega
theorem behL_not (f : Nat → Int) (N k : Nat) (he : f k ≠ mn f N) : behL f N (k + 1) = behL f N k := by rw [behL, if_neg he, List.append_nil]
/-- In the round that holds them against each other: the list of those behind stays. -/
structure Lp (w0 w : World) (b mb ab N : Nat) (f : Nat → Int) (v : Value) (L : List Int) : Prop where
  pp : Pp w0 w b mb ab N f f
  sg : ∃ ob, Seg w 3 1 v L.length (L.map (Value.int .i64)) ob
section
variable {w0 w w' : World} {b mb ab N : Nat} {f : Nat → Int} {v : Value} {L : List Int}
theorem Lp.call (h : Lp w0 w b mb ab N f v L) (g : Below w.heap.size w w') : Lp w0 w' b mb ab N f v L := by
  obtain ⟨hp, ob, hs⟩ := h
  exact ⟨hp.call g, ob, hs.turns (Turns.of_below g) (fun _ _ h => h)⟩
theorem Lp.drewN (h : Lp w0 w b mb ab N f v L) (n : Nat) : Lp w0 (w.drewN n) b mb ab N f v L := by
  obtain ⟨hp, ob, hs⟩ := h
  exact ⟨hp.drewN n, ob, hs.drewN n⟩
theorem Lp.shape (h : Lp w0 w b mb ab N f v L) (hn : 0 < L.length) : ∃ g o cap, v = .slice (some ⟨g, o, none⟩) L.length cap ∧ ∀ (j : Nat) (u : Int), L[j]? = some u → w.cell? ⟨g, o + j, none⟩ = some (.int .i64 u) := by
  obtain ⟨hp, ob, hs⟩ := h
  obtain ⟨g, o, cap, rfl, _, _, _, hc, _⟩ := hs.shape hn
  exact ⟨g, o, cap, rfl, fun j u hj => hc j _ (by rw [List.getElem?_map, hj]; rfl)⟩
theorem Lp.form (h : Lp w0 w b mb ab N f v L) : ∃ A cap, v = .slice A L.length cap := by
  obtain ⟨hp, ob, hs⟩ := h
  obtain ⟨A, cap, rfl, _, _⟩ := hs.form
  exact ⟨A, cap, rfl⟩
end
end Go.Proofs.Ytmkofjdmjilpiaa.Al
