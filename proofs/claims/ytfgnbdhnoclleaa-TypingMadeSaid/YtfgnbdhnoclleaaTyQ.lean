/- What three variables stand for, by a number; what their fields come to. -/
import Derived.Test.YtfgnbdhnoclleaaTyP
import Derived.Test.YtfgnbdhnoclleaaBits
namespace Go.Proofs.Ytfgnbdhnoclleaa.Ty
open Go.RowKit Go.Proofs.Ytfgnbdhnoclleaa Go.Proofs.Ytfgnbdhnoclleaa.Sch
set_option linter.unusedVariables false
set_option maxRecDepth 100000
theorem gAt {n f : ByteArray} {i j : Nat} {t : Ty} {x : Fld} (h1 : idx (typesL.map Prod.fst) n = (i : Nat)) (ht : typesL[i]? = some t) (h2 : idx (t.2.map Prod.fst) f = (j : Nat)) (hx : t.2[j]? = some x) : fieldS typesL n f = (((j : Nat) : Int), x.2) := by
  unfold fieldS
  rw [h1, Int.toNat_natCast, ht]
  dsimp only
  rw [h2, if_neg (by omega), Int.toNat_natCast, hx]
  dsimp only
  rw [if_neg (by omega)]
theorem gAx : fieldS typesL nA sx = (0, 1) := gAt (i := 0) (j := 0) (by rw [idx_data]; rfl) rfl (by rw [idx_data]; rfl) rfl
theorem gBx : fieldS typesL nB sx = (0, 1) := gAt (i := 1) (j := 0) (by rw [idx_data]; rfl) rfl (by rw [idx_data]; rfl) rfl
theorem gCx : fieldS typesL nC sx = (1, 1) := gAt (i := 2) (j := 1) (by rw [idx_data]; rfl) rfl (by rw [idx_data]; rfl) rfl
theorem gAs : fieldS typesL nA ss = (1, 2) := gAt (i := 0) (j := 1) (by rw [idx_data]; rfl) rfl (by rw [idx_data]; rfl) rfl
theorem gBs : fieldS typesL nB ss = (1, 2) := gAt (i := 1) (j := 1) (by rw [idx_data]; rfl) rfl (by rw [idx_data]; rfl) rfl
theorem gCs : fieldS typesL nC ss = (0, 2) := gAt (i := 2) (j := 0) (by rw [idx_data]; rfl) rfl (by rw [idx_data]; rfl) rfl
def askL (L : List ByteArray) (f : ByteArray) : Int × Int := match L with
  | [] => (0, 10)
  | t :: r => ask (fieldS typesL t f).2 (decide (0 ≤ (fieldS typesL t f).1) && (t :: r).all (clF typesL f (fieldS typesL t f).2))
theorem askx (j : Nat) : askL (lsAt j) sx = (1, 0) := by
  unfold lsAt
  split
  · simp [askL, ask, clF, gAx]
  · split
    · simp [askL, ask, clF, gAx, gBx]
    · split
      · simp [askL, ask, clF, gCx, gAx]
      · simp [askL, ask, clF, gBx, gCx]
theorem asks (j : Nat) : askL (lsAt j) ss = (2, 0) := by
  unfold lsAt
  split
  · simp [askL, ask, clF, gAs]
  · split
    · simp [askL, ask, clF, gAs, gBs]
    · split
      · simp [askL, ask, clF, gCs, gAs]
      · simp [askL, ask, clF, gBs, gCs]
theorem fieldN (x y z i : Nat) (hi : i < 3) (f : ByteArray) (k : Int × Int) (h : ∀ j, askL (lsAt j) f = k) : fieldK typesL (scN x y z) (vAt i) f = k := by
  match i, hi with
  | 0, _ =>
    rw [fieldK_at (i := 0) (by rw [idx_data]; rfl) (b := (⟨#[97]⟩, lsAt x)) rfl]
    exact h x
  | 1, _ =>
    rw [fieldK_at (i := 1) (by rw [idx_data]; rfl) (b := (⟨#[98]⟩, lsAt y)) rfl]
    exact h y
  | 2, _ =>
    rw [fieldK_at (i := 2) (by rw [idx_data]; rfl) (b := (⟨#[99]⟩, lsAt z)) rfl]
    exact h z
def ln4 (j : Nat) : Nat := if j = 0 then 1 else 2
def tvAt (B j : Nat) : Value := .slice (some ⟨B + j, 0, none⟩) (ln4 j) (ln4 j)
def ScN (w : World) (e : Ending) (w' : World) : Prop := ∃ v x y z, e = .returned v ∧ Bs w' w'.heap.size v (scN x y z) ∧ Below w.heap.size w w'
theorem sl_row {w : World} {g : Nat} {L : List ByteArray} {n : Nat} (h : Row w g 9 (L.map Value.string).toArray) (hn : L.length = n) (h9 : n ≤ 100) : SL w w.heap.size (.slice (some ⟨g, 0, none⟩) n n) L := by
  subst hn
  refine ⟨_, _, rfl, Nat.le_refl _, by omega, fun k hk => ⟨g, 0, rfl, h.lt, ?_⟩⟩
  rw [h.cell]
  simp [hk]
set_option maxHeartbeats 4000000 in
theorem scope_any (a : Int) (w : World) : Calls Try.prog 32 #[.int .i64 a] w (ScN w) := by
  obtain ⟨x, hx, hx4⟩ : ∃ x : Nat, bits .and .i64 a 3 = (x : Int) ∧ x < 4 := ⟨(a % 4).toNat, by rw [and3]; omega, by omega⟩
  obtain ⟨y, hy, hy4⟩ : ∃ y : Nat, bits .and .i64 (a / 4) 3 = (y : Int) ∧ y < 4 := ⟨(a / 4 % 4).toNat, by rw [and3]; omega, by omega⟩
  obtain ⟨z, hz, hz4⟩ : ∃ z : Nat, bits .and .i64 (a / 16) 3 = (z : Int) ∧ z < 4 := ⟨(a / 16 % 4).toNat, by rw [and3]; omega, by omega⟩
  have hxi : (x : Int) < 4 := by omega
  have hyi : (y : Int) < 4 := by omega
  have hzi : (z : Int) < 4 := by omega
  go_enter Try.func32, Try.ntmps32
  go_upto_region 2 with fail
  have hB : Below w.heap.size w (((((w.alloc (.cells #[.string ⟨#[65]⟩] 9)).alloc (.cells #[.string ⟨#[65]⟩, .string ⟨#[66]⟩] 9)).alloc (.cells #[.string ⟨#[67]⟩, .string ⟨#[65]⟩] 9)).alloc (.cells #[.string ⟨#[66]⟩, .string ⟨#[67]⟩] 9)).alloc (.cells #[.slice (some ⟨w.heap.size, 0, none⟩) 1 1, .slice (some ⟨w.heap.size + 1, 0, none⟩) 2 2, .slice (some ⟨w.heap.size + 1 + 1, 0, none⟩) 2 2, .slice (some ⟨w.heap.size + 1 + 1 + 1, 0, none⟩) 2 2] 67)) := by go_grown
  have r0 : Row (((((w.alloc (.cells #[.string ⟨#[65]⟩] 9)).alloc (.cells #[.string ⟨#[65]⟩, .string ⟨#[66]⟩] 9)).alloc (.cells #[.string ⟨#[67]⟩, .string ⟨#[65]⟩] 9)).alloc (.cells #[.string ⟨#[66]⟩, .string ⟨#[67]⟩] 9)).alloc (.cells #[.slice (some ⟨w.heap.size, 0, none⟩) 1 1, .slice (some ⟨w.heap.size + 1, 0, none⟩) 2 2, .slice (some ⟨w.heap.size + 1 + 1, 0, none⟩) 2 2, .slice (some ⟨w.heap.size + 1 + 1 + 1, 0, none⟩) 2 2] 67)) w.heap.size 9 #[.string ⟨#[65]⟩] := ((((Row.made w _ _).alloc _).alloc _).alloc _).alloc _
  have r1 : Row (((((w.alloc (.cells #[.string ⟨#[65]⟩] 9)).alloc (.cells #[.string ⟨#[65]⟩, .string ⟨#[66]⟩] 9)).alloc (.cells #[.string ⟨#[67]⟩, .string ⟨#[65]⟩] 9)).alloc (.cells #[.string ⟨#[66]⟩, .string ⟨#[67]⟩] 9)).alloc (.cells #[.slice (some ⟨w.heap.size, 0, none⟩) 1 1, .slice (some ⟨w.heap.size + 1, 0, none⟩) 2 2, .slice (some ⟨w.heap.size + 1 + 1, 0, none⟩) 2 2, .slice (some ⟨w.heap.size + 1 + 1 + 1, 0, none⟩) 2 2] 67)) (w.heap.size + 1) 9 #[.string ⟨#[65]⟩, .string ⟨#[66]⟩] := (((row_at (w := (w.alloc (.cells #[.string ⟨#[65]⟩] 9))) (by simp) 9 _).alloc _).alloc _).alloc _
  have r2 : Row (((((w.alloc (.cells #[.string ⟨#[65]⟩] 9)).alloc (.cells #[.string ⟨#[65]⟩, .string ⟨#[66]⟩] 9)).alloc (.cells #[.string ⟨#[67]⟩, .string ⟨#[65]⟩] 9)).alloc (.cells #[.string ⟨#[66]⟩, .string ⟨#[67]⟩] 9)).alloc (.cells #[.slice (some ⟨w.heap.size, 0, none⟩) 1 1, .slice (some ⟨w.heap.size + 1, 0, none⟩) 2 2, .slice (some ⟨w.heap.size + 1 + 1, 0, none⟩) 2 2, .slice (some ⟨w.heap.size + 1 + 1 + 1, 0, none⟩) 2 2] 67)) (w.heap.size + 1 + 1) 9 #[.string ⟨#[67]⟩, .string ⟨#[65]⟩] := ((row_at (w := ((w.alloc (.cells #[.string ⟨#[65]⟩] 9)).alloc (.cells #[.string ⟨#[65]⟩, .string ⟨#[66]⟩] 9))) (by simp) 9 _).alloc _).alloc _
  have r3 : Row (((((w.alloc (.cells #[.string ⟨#[65]⟩] 9)).alloc (.cells #[.string ⟨#[65]⟩, .string ⟨#[66]⟩] 9)).alloc (.cells #[.string ⟨#[67]⟩, .string ⟨#[65]⟩] 9)).alloc (.cells #[.string ⟨#[66]⟩, .string ⟨#[67]⟩] 9)).alloc (.cells #[.slice (some ⟨w.heap.size, 0, none⟩) 1 1, .slice (some ⟨w.heap.size + 1, 0, none⟩) 2 2, .slice (some ⟨w.heap.size + 1 + 1, 0, none⟩) 2 2, .slice (some ⟨w.heap.size + 1 + 1 + 1, 0, none⟩) 2 2] 67)) (w.heap.size + 1 + 1 + 1) 9 #[.string ⟨#[66]⟩, .string ⟨#[67]⟩] := (row_at (w := (((w.alloc (.cells #[.string ⟨#[65]⟩] 9)).alloc (.cells #[.string ⟨#[65]⟩, .string ⟨#[66]⟩] 9)).alloc (.cells #[.string ⟨#[67]⟩, .string ⟨#[65]⟩] 9))) (by simp) 9 _).alloc _
  have ht : ∀ j, j < 4 → (((((w.alloc (.cells #[.string ⟨#[65]⟩] 9)).alloc (.cells #[.string ⟨#[65]⟩, .string ⟨#[66]⟩] 9)).alloc (.cells #[.string ⟨#[67]⟩, .string ⟨#[65]⟩] 9)).alloc (.cells #[.string ⟨#[66]⟩, .string ⟨#[67]⟩] 9)).alloc (.cells #[.slice (some ⟨w.heap.size, 0, none⟩) 1 1, .slice (some ⟨w.heap.size + 1, 0, none⟩) 2 2, .slice (some ⟨w.heap.size + 1 + 1, 0, none⟩) 2 2, .slice (some ⟨w.heap.size + 1 + 1 + 1, 0, none⟩) 2 2] 67)).cell? ⟨w.heap.size + 1 + 1 + 1 + 1, j, none⟩ = some (tvAt w.heap.size j) := fun j hj => by
    have r4 := row_at (w := ((((w.alloc (.cells #[.string ⟨#[65]⟩] 9)).alloc (.cells #[.string ⟨#[65]⟩, .string ⟨#[66]⟩] 9)).alloc (.cells #[.string ⟨#[67]⟩, .string ⟨#[65]⟩] 9)).alloc (.cells #[.string ⟨#[66]⟩, .string ⟨#[67]⟩] 9))) (n := w.heap.size + 1 + 1 + 1 + 1) (by simp) 67 #[.slice (some ⟨w.heap.size, 0, none⟩) 1 1, .slice (some ⟨w.heap.size + 1, 0, none⟩) 2 2, .slice (some ⟨w.heap.size + 1 + 1, 0, none⟩) 2 2, .slice (some ⟨w.heap.size + 1 + 1 + 1, 0, none⟩) 2 2]
    match j, hj with
    | 0, _ => exact (r4.cell 0).trans rfl
    | 1, _ => exact (r4.cell 1).trans rfl
    | 2, _ => exact (r4.cell 2).trans rfl
    | 3, _ => exact (r4.cell 3).trans rfl
  generalize (((((w.alloc (.cells #[.string ⟨#[65]⟩] 9)).alloc (.cells #[.string ⟨#[65]⟩, .string ⟨#[66]⟩] 9)).alloc (.cells #[.string ⟨#[67]⟩, .string ⟨#[65]⟩] 9)).alloc (.cells #[.string ⟨#[66]⟩, .string ⟨#[67]⟩] 9)).alloc (.cells #[.slice (some ⟨w.heap.size, 0, none⟩) 1 1, .slice (some ⟨w.heap.size + 1, 0, none⟩) 2 2, .slice (some ⟨w.heap.size + 1 + 1, 0, none⟩) 2 2, .slice (some ⟨w.heap.size + 1 + 1 + 1, 0, none⟩) 2 2] 67)) = W1 at hB r0 r1 r2 r3 ht ⊢
  have hsl : ∀ j, j < 4 → SL W1 W1.heap.size (tvAt w.heap.size j) (lsAt j) := fun j hj => by
    match j, hj with
    | 0, _ => exact sl_row (L := [nA]) r0 rfl (by decide)
    | 1, _ => exact sl_row (L := [nA, nB]) r1 rfl (by decide)
    | 2, _ => exact sl_row (L := [nC, nA]) r2 rfl (by decide)
    | 3, _ => exact sl_row (L := [nB, nC]) r3 rfl (by decide)
  have tx := ht x hx4
  have ty := ht y hy4
  have tz := ht z hz4
  unfold tvAt at tx ty tz
  have HSX := Lib.hid (hsl x hx4)
  have HSY := Lib.hid (hsl y hy4)
  have HSZ := Lib.hid (hsl z hz4)
  have HB := Lib.hid hB
  clear hB r0 r1 r2 r3 ht hsl
  generalize w.heap.size + 1 + 1 + 1 + 1 = tb at tx ty tz ⊢
  go_region
  all_goals
    go_wp2
    go_ret
    have R6 : Row ((W1.alloc (.cells #[.string ⟨#[97]⟩, tvAt w.heap.size x, .string ⟨#[98]⟩, tvAt w.heap.size y, .string ⟨#[99]⟩, tvAt w.heap.size z] 70)).drew) W1.heap.size 70 #[.string ⟨#[97]⟩, tvAt w.heap.size x, .string ⟨#[98]⟩, tvAt w.heap.size y, .string ⟨#[99]⟩, tvAt w.heap.size z] := (Row.made W1 _ _).drew
    have hX : Below W1.heap.size W1 ((W1.alloc (.cells #[.string ⟨#[97]⟩, tvAt w.heap.size x, .string ⟨#[98]⟩, tvAt w.heap.size y, .string ⟨#[99]⟩, tvAt w.heap.size z] 70)).drew) := ((Below.refl _ W1).alloc (Nat.le_refl _) _).drew
    refine ⟨_, x, y, z, rfl, ⟨_, 3, rfl, Nat.le_refl _, by omega, fun k hk => ?_⟩, (HB.out.alloc HB.out.size _).drew⟩
    match k, hk with
    | 0, _ => exact ⟨W1.heap.size, 0, _, rfl, R6.lt, (R6.cell 0).trans rfl, (R6.cell 1).trans rfl, HSX.out.below hX hX.size⟩
    | 1, _ => exact ⟨W1.heap.size, 0, _, rfl, R6.lt, (R6.cell 2).trans rfl, (R6.cell 3).trans rfl, HSY.out.below hX hX.size⟩
    | 2, _ => exact ⟨W1.heap.size, 0, _, rfl, R6.lt, (R6.cell 4).trans rfl, (R6.cell 5).trans rfl, HSZ.out.below hX hX.size⟩
    | k + 3, h => exact absurd (show k + 3 < 3 from h) (by omega)
end Go.Proofs.Ytfgnbdhnoclleaa.Ty
