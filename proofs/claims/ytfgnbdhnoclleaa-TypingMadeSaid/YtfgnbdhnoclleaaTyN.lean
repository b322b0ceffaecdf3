/- What the law TypingFields asks of its own schema. -/
import Derived.Test.YtfgnbdhnoclleaaTyL
namespace Go.Proofs.Ytfgnbdhnoclleaa.Ty
open Go.RowKit Go.Proofs.Ytfgnbdhnoclleaa Go.Proofs.Ytfgnbdhnoclleaa.Sch
set_option linter.unusedVariables false
set_option maxRecDepth 100000
def nA : ByteArray := ⟨#[65]⟩
def nB : ByteArray := ⟨#[66]⟩
def nC : ByteArray := ⟨#[67]⟩
def nv : ByteArray := ⟨#[118]⟩
def nw : ByteArray := ⟨#[119]⟩
def ny : ByteArray := ⟨#[121]⟩
def typesF : List Ty := [(nA, [(sx, 1)]), (nB, [(sx, 2)]), (nC, [(ny, 3)])]
theorem typesF_may : ∀ k (h : k < typesF.length), MayT typesF[k]
  | 0, _ => ⟨rfl, le8 rfl, fun
    | 0, _ => ⟨rfl, rfl, by rw [idx_data]; exact neg1⟩
    | k + 1, h => absurd (show k + 1 < 1 from h) (by omega)⟩
  | 1, _ => ⟨rfl, le8 rfl, fun
    | 0, _ => ⟨rfl, rfl, by rw [idx_data]; exact neg1⟩
    | k + 1, h => absurd (show k + 1 < 1 from h) (by omega)⟩
  | 2, _ => ⟨rfl, le8 rfl, fun
    | 0, _ => ⟨rfl, rfl, by rw [idx_data]; exact neg1⟩
    | k + 1, h => absurd (show k + 1 < 1 from h) (by omega)⟩
  | k + 3, h => absurd (show k + 3 < 3 from h) (by omega)
theorem typesF_names : ∀ k (h : k < typesF.length), idx ((typesF.take k).map Prod.fst) typesF[k].1 < 0
  | 0, _ => by rw [idx_data]; exact neg1
  | 1, _ => by rw [idx_data]; exact neg1
  | 2, _ => by rw [idx_data]; exact neg1
  | k + 3, h => absurd (show k + 3 < 3 from h) (by omega)
theorem typesF_ok {c : Int} (h : NewR typesF c) : c = 0 := by
  rcases h with ⟨h, _⟩ | ⟨_, k, hk, _, h, _⟩ | ⟨_, k, hk, _, _, h, _⟩ | ⟨_, _, h⟩
  · simp [typesF] at h
  · exact absurd (typesF_may k hk) h
  · have := typesF_names k hk; omega
  · exact h
/-- The name at a place. -/
def nmAt (i : Nat) : ByteArray := if i = 0 then nA else if i = 1 then nB else nC
/-- The names that the bits of q pick, of the first i. -/
def subs (q : Nat) : Nat → List ByteArray
  | 0 => []
  | i + 1 => if q / 2 ^ i % 2 = 1 then subs q i ++ [nmAt i] else subs q i
theorem fsAt {n f : ByteArray} {i j : Nat} {t : Ty} {x : Fld} (h1 : idx (typesF.map Prod.fst) n = (i : Nat)) (ht : typesF[i]? = some t) (h2 : idx (t.2.map Prod.fst) f = (j : Nat)) (hx : t.2[j]? = some x) : fieldS typesF n f = (((j : Nat) : Int), x.2) := by
  unfold fieldS
  rw [h1, Int.toNat_natCast, ht]
  dsimp only
  rw [h2, if_neg (by omega), Int.toNat_natCast, hx]
  dsimp only
  rw [if_neg (by omega)]
theorem fsNo {n f : ByteArray} {i : Nat} {t : Ty} (h1 : idx (typesF.map Prod.fst) n = (i : Nat)) (ht : typesF[i]? = some t) (h2 : idx (t.2.map Prod.fst) f < 0) : fieldS typesF n f = (-1, 0) := by
  unfold fieldS
  rw [h1, Int.toNat_natCast, ht]
  dsimp only
  rw [if_neg (by omega)]
  split
  · rfl
  · rw [if_pos h2]
theorem fAx : fieldS typesF nA sx = (0, 1) := fsAt (i := 0) (j := 0) (by rw [idx_data]; rfl) rfl (by rw [idx_data]; rfl) rfl
theorem fBx : fieldS typesF nB sx = (0, 2) := fsAt (i := 1) (j := 0) (by rw [idx_data]; rfl) rfl (by rw [idx_data]; rfl) rfl
theorem fCx : fieldS typesF nC sx = (-1, 0) := fsNo (i := 2) (by rw [idx_data]; rfl) rfl (by rw [idx_data]; exact neg1)
theorem fAy : fieldS typesF nA ny = (-1, 0) := fsNo (i := 0) (by rw [idx_data]; rfl) rfl (by rw [idx_data]; exact neg1)
theorem fBy : fieldS typesF nB ny = (-1, 0) := fsNo (i := 1) (by rw [idx_data]; rfl) rfl (by rw [idx_data]; exact neg1)
theorem fCy : fieldS typesF nC ny = (0, 3) := fsAt (i := 2) (j := 0) (by rw [idx_data]; rfl) rfl (by rw [idx_data]; rfl) rfl
def scF (q : Nat) : List Bd := [(nv, subs q 3)]
theorem idxv (q : Nat) : idx ((scF q).map Prod.fst) nv = (0 : Nat) := by rw [idx_data]; rfl
theorem idxw (q : Nat) : idx ((scF q).map Prod.fst) nw < 0 := by rw [idx_data]; exact neg1
theorem subs8 : subs 0 3 = [] ∧ subs 1 3 = [nA] ∧ subs 2 3 = [nB] ∧ subs 3 3 = [nA, nB] ∧ subs 4 3 = [nC] ∧ subs 5 3 = [nA, nC] ∧ subs 6 3 = [nB, nC] ∧ subs 7 3 = [nA, nB, nC] := by
  refine ⟨?_, ?_, ?_, ?_, ?_, ?_, ?_, ?_⟩ <;> simp [subs, nmAt]
def okx (q : Nat) : Int × Int := if q = 1 then (1, 0) else if q = 2 then (2, 0) else (0, 10)
def oky (q : Nat) : Int × Int := if q = 4 then (3, 0) else (0, 10)
theorem fkx (q : Nat) (h : q < 8) : fieldK typesF (scF q) nv sx = okx q := by
  rw [fieldK_at (idxv q) (b := (nv, subs q 3)) rfl]
  obtain ⟨e0, e1, e2, e3, e4, e5, e6, e7⟩ := subs8
  dsimp only
  match q, h with
  | 0, _ => rw [e0]; rfl
  | 1, _ => rw [e1]; simp [ask, clF, fAx, okx]
  | 2, _ => rw [e2]; simp [ask, clF, fBx, okx]
  | 3, _ => rw [e3]; simp [ask, clF, fAx, fBx, okx]
  | 4, _ => rw [e4]; simp [ask, clF, fCx, okx]
  | 5, _ => rw [e5]; simp [ask, clF, fAx, fCx, okx]
  | 6, _ => rw [e6]; simp [ask, clF, fBx, fCx, okx]
  | 7, _ => rw [e7]; simp [ask, clF, fAx, fBx, fCx, okx]
theorem fky (q : Nat) (h : q < 8) : fieldK typesF (scF q) nv ny = oky q := by
  rw [fieldK_at (idxv q) (b := (nv, subs q 3)) rfl]
  obtain ⟨e0, e1, e2, e3, e4, e5, e6, e7⟩ := subs8
  dsimp only
  match q, h with
  | 0, _ => rw [e0]; rfl
  | 1, _ => rw [e1]; simp [ask, clF, fAy, oky]
  | 2, _ => rw [e2]; simp [ask, clF, fBy, oky]
  | 3, _ => rw [e3]; simp [ask, clF, fAy, fBy, oky]
  | 4, _ => rw [e4]; simp [ask, clF, fCy, oky]
  | 5, _ => rw [e5]; simp [ask, clF, fAy, fCy, oky]
  | 6, _ => rw [e6]; simp [ask, clF, fBy, fCy, oky]
  | 7, _ => rw [e7]; simp [ask, clF, fAy, fBy, fCy, oky]
def ndF (v f : ByteArray) : List Nd := [⟨2, 0, 0, ⟨#[]⟩, false, v, f⟩]
theorem kind_one {ts : List Ty} {bs : List Bd} {v f : ByteArray} {k : Int × Int} (h : fieldK ts bs v f = k) (h0 : k.2 ≠ 0 → k.1 = 0) : kindS ts bs (ndF v f) [] = k := by
  unfold ndF kindS
  have e1 : stepK ts bs [] ⟨2, 0, 0, ⟨#[]⟩, false, v, f⟩ = k := by
    unfold stepK partK
    dsimp only
    rw [if_neg (by decide), if_pos rfl, h]
  rw [e1]
  obtain ⟨a, b⟩ := k
  by_cases hb : b = 0
  · subst hb; rfl
  · have := h0 hb
    simp at this
    subst this
    simp [hb]
theorem ndF_good {v f : ByteArray} (hn : OkN ⟨2, 0, 0, ⟨#[]⟩, false, v, f⟩) : Good (ndF v f) := by
  refine ⟨(show 1 ≤ 64 by decide), fun k hk => ?_, fun k hk => ?_, rfl⟩
  · match k, hk with
    | 0, _ => exact hn
  · match k, hk with
    | 0, _ => exact (show partsI 2 ≤ dep [] by decide)
theorem kx (q : Nat) (h : q < 8) : kindS typesF (scF q) (ndF nv sx) [] = okx q := kind_one (fkx q h) (by unfold okx; split; simp; split <;> simp)
theorem ky (q : Nat) (h : q < 8) : kindS typesF (scF q) (ndF nv ny) [] = oky q := kind_one (fky q h) (by unfold oky; split <;> simp)
theorem kw (q : Nat) : kindS typesF (scF q) (ndF nw sx) [] = (0, 3) := kind_one (fieldK_no (idxw q)) (by simp)
theorem gvx : Good (ndF nv sx) := ndF_good (.field rfl rfl)
theorem gvy : Good (ndF nv ny) := ndF_good (.field rfl rfl)
theorem gwx : Good (ndF nw sx) := ndF_good (.field rfl rfl)
/-- The law's own types lie in a row. -/
theorem ts_made (w : World) : Ts ((((w.alloc (.cells #[.string ⟨#[120]⟩, .int .i64 1] 63)).alloc (.cells #[.string ⟨#[120]⟩, .int .i64 2] 63)).alloc (.cells #[.string ⟨#[121]⟩, .int .i64 3] 63)).alloc
      (.cells #[.string ⟨#[65]⟩, .slice (some ⟨w.heap.size, 0, none⟩) 1 1, .string ⟨#[66]⟩, .slice (some ⟨w.heap.size + 1, 0, none⟩) 1 1, .string ⟨#[67]⟩, .slice (some ⟨w.heap.size + 1 + 1, 0, none⟩) 1 1] 66))
    (w.heap.size + 1 + 1 + 1 + 1) (.slice (some ⟨w.heap.size + 1 + 1 + 1, 0, none⟩) 3 3) typesF := by
  have r0 := (((Row.made w 63 #[.string ⟨#[120]⟩, .int .i64 1]).alloc (.cells #[.string ⟨#[120]⟩, .int .i64 2] 63)).alloc (.cells #[.string ⟨#[121]⟩, .int .i64 3] 63)).alloc (.cells #[.string ⟨#[65]⟩, .slice (some ⟨w.heap.size, 0, none⟩) 1 1, .string ⟨#[66]⟩, .slice (some ⟨w.heap.size + 1, 0, none⟩) 1 1, .string ⟨#[67]⟩, .slice (some ⟨w.heap.size + 1 + 1, 0, none⟩) 1 1] 66)
  have r1 := ((row_at (w := w.alloc (.cells #[.string ⟨#[120]⟩, .int .i64 1] 63)) (n := w.heap.size + 1) (by simp) 63 #[.string ⟨#[120]⟩, .int .i64 2]).alloc (.cells #[.string ⟨#[121]⟩, .int .i64 3] 63)).alloc (.cells #[.string ⟨#[65]⟩, .slice (some ⟨w.heap.size, 0, none⟩) 1 1, .string ⟨#[66]⟩, .slice (some ⟨w.heap.size + 1, 0, none⟩) 1 1, .string ⟨#[67]⟩, .slice (some ⟨w.heap.size + 1 + 1, 0, none⟩) 1 1] 66)
  have r2 := (row_at (w := (w.alloc (.cells #[.string ⟨#[120]⟩, .int .i64 1] 63)).alloc (.cells #[.string ⟨#[120]⟩, .int .i64 2] 63)) (n := w.heap.size + 1 + 1) (by simp) 63 #[.string ⟨#[121]⟩, .int .i64 3]).alloc (.cells #[.string ⟨#[65]⟩, .slice (some ⟨w.heap.size, 0, none⟩) 1 1, .string ⟨#[66]⟩, .slice (some ⟨w.heap.size + 1, 0, none⟩) 1 1, .string ⟨#[67]⟩, .slice (some ⟨w.heap.size + 1 + 1, 0, none⟩) 1 1] 66)
  have r6 := row_at (w := ((w.alloc (.cells #[.string ⟨#[120]⟩, .int .i64 1] 63)).alloc (.cells #[.string ⟨#[120]⟩, .int .i64 2] 63)).alloc (.cells #[.string ⟨#[121]⟩, .int .i64 3] 63)) (n := w.heap.size + 1 + 1 + 1) (by simp) 66 #[.string ⟨#[65]⟩, .slice (some ⟨w.heap.size, 0, none⟩) 1 1, .string ⟨#[66]⟩, .slice (some ⟨w.heap.size + 1, 0, none⟩) 1 1, .string ⟨#[67]⟩, .slice (some ⟨w.heap.size + 1 + 1, 0, none⟩) 1 1]
  refine ⟨_, 3, rfl, Nat.le_refl 3, by omega, fun k h => ?_⟩
  match k, h with
  | 0, _ => exact ⟨_, 0, _, rfl, by omega, (r6.cell 0).trans rfl, (r6.cell 1).trans rfl, fs_of_row [(sx, 1)] r0 rfl rfl (by omega) (by omega)⟩
  | 1, _ => exact ⟨_, 0, _, rfl, by omega, (r6.cell 2).trans rfl, (r6.cell 3).trans rfl, fs_of_row [(sx, 2)] r1 rfl rfl (by omega) (by omega)⟩
  | 2, _ => exact ⟨_, 0, _, rfl, by omega, (r6.cell 4).trans rfl, (r6.cell 5).trans rfl, fs_of_row [(ny, 3)] r2 rfl rfl (by omega) (by omega)⟩
  | k + 3, h => exact absurd (show k + 3 < 3 from h) (by omega)
end Go.Proofs.Ytfgnbdhnoclleaa.Ty
