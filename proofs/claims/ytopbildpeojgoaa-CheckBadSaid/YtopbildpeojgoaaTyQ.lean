/- What three variables stand for, by a number; what their fields come to. -/
import Derived.Test.YtopbildpeojgoaaTyP
import Derived.Test.YtopbildpeojgoaaBits
namespace Go.Proofs.Ytopbildpeojgoaa.Ty
open Go.RowKit Go.Proofs.Ytopbildpeojgoaa Go.Proofs.Ytopbildpeojgoaa.Sch
set_option linter.unusedVariables false
set_option maxRecDepth 100000
theorem gAt {n f : ByteArray} {i j : Nat} {t : Ty} {x : Fld} (h1 : idx (typesL.map Prod.fst) n = (i : Nat)) (ht : typesL[i]? = some t) (h2 : idx (t.2.map Prod.fst) f = (j : Nat)) (hx : t.2[j]? = some x) : fieldS typesL n f = (((j : Nat) : Int), x.2) := by
  unfold fieldS
  rw [h1, Int.toNat_natCast, ht]
  dsimp only
  rw [h2, if_neg (by omega), Int.toNat_natCast, hx]
  dsimp only
  rw [if_neg (by omega)]
theorem gAx : fieldS typesL nA sx = (0, 1) := gAt (i := 0) (j := 0) (by rw [idx_data]; rfl) rfl (by rw [idx_data]; rfl) rfl
theorem gBx : fieldS typesL nB sx = (0, 1) := gAt (i := 1) (j := 0) (by rw [idx_data]; rfl) rfl (by rw [idx_data]; rfl) rfl
theorem gCx : fieldS typesL nC sx = (1, 1) := gAt (i := 2) (j := 1) (by rw [idx_data]; rfl) rfl (by rw [idx_data]; rfl) rfl
theorem gAs : fieldS typesL nA ss = (1, 2) := gAt (i := 0) (j := 1) (by rw [idx_data]; rfl) rfl (by rw [idx_data]; rfl) rfl
theorem gBs : fieldS typesL nB ss = (1, 2) := gAt (i := 1) (j := 1) (by rw [idx_data]; rfl) rfl (by rw [idx_data]; rfl) rfl
theorem gCs : fieldS typesL nC ss = (0, 2) := gAt (i := 2) (j := 0) (by rw [idx_data]; rfl) rfl (by rw [idx_data]; rfl) rfl
def askL (L : List ByteArray) (f : ByteArray) : Int × Int := match L with
  | [] => (0, 10)
  | t :: r => ask (fieldS typesL t f).2 (decide (0 ≤ (fieldS typesL t f).1) && (t :: r).all (clF typesL f (fieldS typesL t f).2))
theorem askx (j : Nat) : askL (lsAt j) sx = (1, 0) := by
  unfold lsAt
  split
  · simp [askL, ask, clF, gAx]
  · split
    · simp [askL, ask, clF, gAx, gBx]
    · split
      · simp [askL, ask, clF, gCx, gAx]
      · simp [askL, ask, clF, gBx, gCx]
theorem asks (j : Nat) : askL (lsAt j) ss = (2, 0) := by
  unfold lsAt
  split
  · simp [askL, ask, clF, gAs]
  · split
    · simp [askL, ask, clF, gAs, gBs]
    · split
      · simp [askL, ask, clF, gCs, gAs]
      · simp [askL, ask, clF, gBs, gCs]
theorem fieldN (x y z i : Nat) (hi : i < 3) (f : ByteArray) (k : Int × Int) (h : ∀ j, askL (lsAt j) f = k) : fieldK typesL (scN x y z) (vAt i) f = k := by
  match i, hi with
  | 0, _ =>
    rw [fieldK_at (i := 0) (by rw [idx_data]; rfl) (b := (⟨#[97]⟩, lsAt x)) rfl]
    exact h x
  | 1, _ =>
    rw [fieldK_at (i := 1) (by rw [idx_data]; rfl) (b := (⟨#[98]⟩, lsAt y)) rfl]
    exact h y
  | 2, _ =>
    rw [fieldK_at (i := 2) (by rw [idx_data]; rfl) (b := (⟨#[99]⟩, lsAt z)) rfl]
    exact h z
def ln4 (j : Nat) : Nat := if j = 0 then 1 else 2
def tvAt (B j : Nat) : Value := .slice (some ⟨B + j, 0, none⟩) (ln4 j) (ln4 j)
def ScN (w : World) (e : Ending) (w' : World) : Prop := ∃ v x y z, e = .returned v ∧ Bs w' w'.heap.size v (scN x y z) ∧ Below w.heap.size w w'
theorem sl_row {w : World} {g : Nat} {L : List ByteArray} {n : Nat} (h : Row w g 9 (L.map Value.string).toArray) (hn : L.length = n) (h9 : n ≤ 100) : SL w w.heap.size (.slice (some ⟨g, 0, none⟩) n n) L := by
  subst hn
  refine ⟨_, _, rfl, Nat.le_refl _, by omega, fun k hk => ⟨g, 0, rfl, h.lt, ?_⟩⟩
  rw [h.cell]
  simp [hk]
end Go.Proofs.Ytopbildpeojgoaa.Ty
