/- Three types, and the law's first look at a schema. -/
import Derived.Test.YtookojgemipakaaDoorSchH
namespace Go.Proofs.YtookojgemipakaaDoor.Sch
open Go.RowKit Go.Proofs.YtookojgemipakaaDoor
set_option linter.unusedVariables false

def idxD (l : List ByteArray) (nm : ByteArray) : Int := match l.findIdx? (fun x => x.data.toList == nm.data.toList) with
  | some k => k
  | none => -1
theorem idx_data (l : List ByteArray) (nm : ByteArray) : idx l nm = idxD l nm := by
  unfold idx idxD
  simp only [toList_data]
  rfl
def sx : ByteArray := ⟨#[120]⟩
def ss : ByteArray := ⟨#[115]⟩
def sb : ByteArray := ⟨#[98]⟩
def typesL : List Ty := [(⟨#[65]⟩, [(sx, 1), (ss, 2)]), (⟨#[66]⟩, [(sx, 1), (ss, 2)]), (⟨#[67]⟩, [(ss, 2), (sx, 1), (sb, 3)])]
theorem neg1 : (-1 : Int) < 0 := by decide
theorem le8 {n : Nat} (h : Nat.ble n 8 = true) : n ≤ 8 := Nat.le_of_ble_eq_true h
theorem typesL_may : ∀ k (h : k < typesL.length), MayT typesL[k]
  | 0, _ => ⟨rfl, le8 rfl, fun
    | 0, _ => ⟨rfl, rfl, by rw [idx_data]; exact neg1⟩
    | 1, _ => ⟨rfl, rfl, by rw [idx_data]; exact neg1⟩
    | k + 2, h => absurd (show k + 2 < 2 from h) (by omega)⟩
  | 1, _ => ⟨rfl, le8 rfl, fun
    | 0, _ => ⟨rfl, rfl, by rw [idx_data]; exact neg1⟩
    | 1, _ => ⟨rfl, rfl, by rw [idx_data]; exact neg1⟩
    | k + 2, h => absurd (show k + 2 < 2 from h) (by omega)⟩
  | 2, _ => ⟨rfl, le8 rfl, fun
    | 0, _ => ⟨rfl, rfl, by rw [idx_data]; exact neg1⟩
    | 1, _ => ⟨rfl, rfl, by rw [idx_data]; exact neg1⟩
    | 2, _ => ⟨rfl, rfl, by rw [idx_data]; exact neg1⟩
    | k + 3, h => absurd (show k + 3 < 3 from h) (by omega)⟩
  | k + 3, h => absurd (show k + 3 < 3 from h) (by omega)
theorem typesL_names : ∀ k (h : k < typesL.length), idx ((typesL.take k).map Prod.fst) typesL[k].1 < 0
  | 0, _ => by rw [idx_data]; exact neg1
  | 1, _ => by rw [idx_data]; exact neg1
  | 2, _ => by rw [idx_data]; exact neg1
  | k + 3, h => absurd (show k + 3 < 3 from h) (by omega)
theorem typesL_ok {c : Int} (h : NewR typesL c) : c = 0 := by
  rcases h with ⟨h, _⟩ | ⟨_, k, hk, _, h, _⟩ | ⟨_, k, hk, _, _, h, _⟩ | ⟨_, _, h⟩
  · simp [typesL] at h
  · exact absurd (typesL_may k hk) h
  · have := typesL_names k hk; omega
  · exact h
theorem row_at {w : World} {n : Nat} (h : w.heap.size = n) (t : TypeId) (cs : Array Value) : Row (w.alloc (.cells cs t)) n t cs := h ▸ Row.made w t cs
theorem fs_of_row {w : World} {g B n : Nat} {t : TypeId} {cs : Array Value} (fs : List Fld) (h : Row w g t cs) (he : cs = (cellsF fs).toArray) (hn : fs.length = n) (hm : n ≤ 100) (hB : g < B) : Fs w B (.slice (some ⟨g, 0, none⟩) n n) fs := by
  subst hn he
  refine ⟨_, _, rfl, Nat.le_refl _, by omega, fun k hk => ⟨g, 0, rfl, hB, ?_, ?_⟩⟩
  · rw [Nat.zero_add, h.cell]; simpa using (cellsF_get fs k hk).1
  · rw [Nat.zero_add, h.cell]; simpa using (cellsF_get fs k hk).2
set_option maxRecDepth 100000 in
set_option maxHeartbeats 1600000 in
theorem types_any (w : World) :
    Calls Tryd.prog 8 #[] w fun e w' => ∃ v, e = .returned v ∧ Ts w' w'.heap.size v typesL ∧ Below w.heap.size w w' := by
  go_enter Tryd.func8, Tryd.ntmps8
  go_wp2
  go_ret
  refine ⟨.slice (some ⟨w.heap.size + 1 + 1 + 1 + 1 + 1 + 1, 0, none⟩) 3 3, rfl, ⟨_, 3, rfl, Nat.le_refl 3, by omega, fun k h => ?_⟩, by go_grown⟩
  have r6 := row_at (w := ((((((w.alloc (.cells #[.string ⟨#[120]⟩, .int .i64 1] 72)).alloc (.cells #[.string ⟨#[115]⟩, .int .i64 2] 72)).alloc (.cells #[.string ⟨#[98]⟩, .int .i64 3] 72)).alloc
      (.cells #[.string ⟨#[120]⟩, .int .i64 1, .string ⟨#[115]⟩, .int .i64 2] 72)).alloc (.cells #[.string ⟨#[120]⟩, .int .i64 1, .string ⟨#[115]⟩, .int .i64 2] 72)).alloc (.cells #[.string ⟨#[115]⟩, .int .i64 2, .string ⟨#[120]⟩, .int .i64 1, .string ⟨#[98]⟩, .int .i64 3] 72)))
      (n := w.heap.size + 1 + 1 + 1 + 1 + 1 + 1) (by simp) 67 #[.string ⟨#[65]⟩, .slice (some ⟨w.heap.size + 1 + 1 + 1, 0, none⟩) 2 2, .string ⟨#[66]⟩, .slice (some ⟨w.heap.size + 1 + 1 + 1 + 1, 0, none⟩) 2 2, .string ⟨#[67]⟩, .slice (some ⟨w.heap.size + 1 + 1 + 1 + 1 + 1, 0, none⟩) 3 3]
  match k, h with
  | 0, _ => exact ⟨_, 0, _, rfl, by simp, (r6.cell 0).trans rfl, (r6.cell 1).trans rfl, fs_of_row _ (Row.alloc (Row.alloc (Row.alloc (row_at (by simp) _ _) _) _) _) rfl rfl (by omega) (by simp)⟩
  | 1, _ => exact ⟨_, 0, _, rfl, by simp, (r6.cell 2).trans rfl, (r6.cell 3).trans rfl, fs_of_row _ (Row.alloc (Row.alloc (row_at (by simp) _ _) _) _) rfl rfl (by omega) (by simp)⟩
  | 2, _ => exact ⟨_, 0, _, rfl, by simp, (r6.cell 4).trans rfl, (r6.cell 5).trans rfl, fs_of_row _ (Row.alloc (row_at (by simp) _ _) _) rfl rfl (by omega) (by simp)⟩
  | k + 3, h => exact absurd (show k + 3 < 3 from h) (by omega)
theorem name_true : nameB (⟨#[116, 114, 117, 101]⟩ : ByteArray).data.toList = false := rfl
theorem name_a1 : nameB (⟨#[97, 49]⟩ : ByteArray).data.toList = true := rfl
theorem idx_C : idx (typesL.map Prod.fst) ⟨#[67]⟩ = (2 : Nat) := by rw [idx_data]; rfl
theorem idx_x : idx (([(ss, 2), (sx, 1), (sb, 3)] : List Fld).map Prod.fst) ⟨#[120]⟩ = (1 : Nat) := by rw [idx_data]; rfl
end Go.Proofs.YtookojgemipakaaDoor.Sch
