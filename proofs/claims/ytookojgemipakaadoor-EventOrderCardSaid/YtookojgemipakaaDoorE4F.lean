/- What an event that was made is; its fields. -/
import Derived.Test.YtookojgemipakaaDoorE4D
import Derived.Test.YtookojgemipakaaDoorE4E
import Derived.Test.YtookojgemipakaaDoorOrEv
import Derived.Test.YtookojgemipakaaDoorOrEvl
namespace Go.Proofs.YtookojgemipakaaDoor.E4
open Go.RowKit Go.Proofs.YtookojgemipakaaDoor Go.Proofs.YtookojgemipakaaDoor.Door Go.Proofs.YtookojgemipakaaDoor.Ev Go.Proofs.YtookojgemipakaaDoor.Sch Go.Proofs.YtookojgemipakaaDoor.Ty Go.Proofs.YtookojgemipakaaDoor.Evl
set_option linter.unusedVariables false
set_option maxRecDepth 100000
def vsAB (n : Int) (s : ByteArray) : List VV := [⟨1, n, ⟨#[]⟩, false⟩, ⟨2, 0, s, false⟩]
def vsC (n : Int) (s : ByteArray) (b : Bool) : List VV := [⟨2, 0, s, false⟩, ⟨1, n, ⟨#[]⟩, false⟩, ⟨3, 0, ⟨#[]⟩, b⟩]
/-- What an event that was made is. -/
structure Shape (ty key : ByteArray) (t : Int) (vs : List VV) : Prop where
  tb : 0 ≤ t ∧ t ≤ 15
  kb : 1 ≤ key.size ∧ key.size ≤ 32
  vb : (∃ n s, (ty = ⟨#[65]⟩ ∨ ty = ⟨#[66]⟩) ∧ (0 ≤ n ∧ n ≤ 3) ∧ s.size ≤ 64 ∧ vs = vsAB n s) ∨ (∃ n s b, ty = ⟨#[67]⟩ ∧ (0 ≤ n ∧ n ≤ 3) ∧ s.size ≤ 64 ∧ vs = vsC n s b)
def MadeEnd (w : World) (e : Ending) (w' : World) : Prop := ∃ vb ty key t vs n, e = .returned (.agg #[.string ty, .string key, .int .i64 t, .int .i64 0, .slice (some ⟨vb, 0, none⟩) n n]) ∧ n = vs.length ∧ Row w' vb 33 (vcells vs).toArray ∧ w.heap.size ≤ vb ∧ Below w.heap.size w w' ∧ Shape ty key t vs
theorem made_end (x : EI) (w : World) (h : EIOk w w.heap.size x) :
    Calls Tryd.prog 9 #[.agg #[.string x.ty, .string x.key, .int .i64 x.t, .int .i64 x.q, .slice x.va x.vn x.vc]] w (MadeEnd w) := by
  refine (event_any x w h).mono ?_
  rintro e w' ⟨vb, rfl, ho, hb⟩
  refine ⟨vb, ty3 x.k, key3 (x.key.size % 3), x.t % 16, evVals x.k x.n x.s x.b, _, rfl, rfl, ho.row, ho.ge, hb, ⟨by omega, ?_, ?_⟩⟩
  · unfold key3
    split <;> exact ⟨by decide, by decide⟩
  · have hk := x.k_lt
    have hn : 0 ≤ x.n ∧ x.n ≤ 3 := by unfold EI.n; split <;> omega
    have hs : x.s.size ≤ 64 := by unfold EI.s; split <;> decide
    obtain ⟨k, hkk⟩ : ∃ k, x.k = k := ⟨_, rfl⟩
    rw [hkk] at hk ⊢
    match k, hk with
    | 0, _ => exact .inl ⟨x.n, x.s, .inl rfl, hn, hs, rfl⟩
    | 1, _ => exact .inl ⟨x.n, x.s, .inr rfl, hn, hs, rfl⟩
    | 2, _ => exact .inr ⟨x.n, x.s, x.b, rfl, hn, hs, rfl⟩
/-- Fields of the three types. -/
theorem idx_C' : idx (typesL.map Prod.fst) ⟨#[67]⟩ = (2 : Nat) := by rw [idx_data]; rfl
theorem fs_at {ty f n' : ByteArray} {fs : List Fld} {i j : Nat} {kd : Int} {fn : ByteArray} (hi : idx (typesL.map Prod.fst) ty = i) (ht : typesL[i]? = some (n', fs)) (hj : idx (fs.map Prod.fst) f = j) (hf : fs[j]? = some (fn, kd)) : fieldS typesL ty f = ((j : Int), kd) := by
  unfold fieldS
  rw [hi, Int.toNat_natCast, ht]
  dsimp only
  rw [if_neg (by omega), hj, Int.toNat_natCast, hf]
  dsimp only
  rw [if_neg (by omega)]
theorem fs_none {ty f : ByteArray} (h : ∀ t ∈ typesL, idx (t.2.map Prod.fst) f < 0) : (fieldS typesL ty f).1 < 0 := by
  unfold fieldS
  split
  · simp
  · rename_i t ht
    split
    · simp
    · split
      · simp
      · rw [if_pos (h t (List.mem_of_getElem? ht))]
        simp
theorem fs_one {ty f n' : ByteArray} {fs : List Fld} {i : Nat} (hi : idx (typesL.map Prod.fst) ty = i) (ht : typesL[i]? = some (n', fs)) (hj : idx (fs.map Prod.fst) f < 0) : (fieldS typesL ty f).1 < 0 := by
  unfold fieldS
  rw [hi, Int.toNat_natCast, ht]
  dsimp only
  rw [if_neg (by omega)]
  split
  · simp
  · rw [if_pos hj]
    simp
theorem ab_x : idx (([(sx, 1), (ss, 2)] : List Fld).map Prod.fst) ⟨#[120]⟩ = (0 : Nat) := by rw [idx_data]; rfl
theorem ab_s : idx (([(sx, 1), (ss, 2)] : List Fld).map Prod.fst) ⟨#[115]⟩ = (1 : Nat) := by rw [idx_data]; rfl
theorem ab_b : idx (([(sx, 1), (ss, 2)] : List Fld).map Prod.fst) ⟨#[98]⟩ < 0 := by rw [idx_data]; decide
theorem c_x : idx (([(ss, 2), (sx, 1), (sb, 3)] : List Fld).map Prod.fst) ⟨#[120]⟩ = (1 : Nat) := by rw [idx_data]; rfl
theorem c_s : idx (([(ss, 2), (sx, 1), (sb, 3)] : List Fld).map Prod.fst) ⟨#[115]⟩ = (0 : Nat) := by rw [idx_data]; rfl
theorem c_b : idx (([(ss, 2), (sx, 1), (sb, 3)] : List Fld).map Prod.fst) ⟨#[98]⟩ = (2 : Nat) := by rw [idx_data]; rfl
theorem get_at {ts : List Ty} {ty key : ByteArray} {t q : Int} {vs : List VV} {f : ByteArray} {j : Nat} {kd : Int} {v : VV} (h : fieldS ts ty f = ((j : Int), kd)) (hv : vs[j]? = some v) : getM ts ⟨ty, key, t, q, vs⟩ f = some v := by
  unfold getM
  dsimp only
  rw [h]
  dsimp only
  rw [if_neg (by omega), Int.toNat_natCast, hv]
theorem get_none {ts : List Ty} {ty key : ByteArray} {t q : Int} {vs : List VV} {f : ByteArray} (h : (fieldS ts ty f).1 < 0) : getM ts ⟨ty, key, t, q, vs⟩ f = none := by
  unfold getM
  dsimp only
  rw [if_pos h]
theorem y_list (s : ByteArray) : ((⟨#[121]⟩ : ByteArray) ++ s).toList = 121 :: s.data.toList := by
  rw [Go.Lib.toList_data, ByteArray.data_append, Array.toList_append]
  rfl
theorem fs_y (ty s : ByteArray) : (fieldS typesL ty ((⟨#[121]⟩ : ByteArray) ++ s)).1 < 0 := by
  refine fs_none fun t ht => ?_
  rw [idx_neg]
  intro i hi
  rw [y_list]
  simp [typesL] at ht
  rcases ht with rfl | rfl | rfl
  · match i, hi with
    | 0, _ => rw [Go.Lib.toList_data]; simp [sx]
    | 1, _ => rw [Go.Lib.toList_data]; simp [ss]
  · match i, hi with
    | 0, _ => rw [Go.Lib.toList_data]; simp [sx]
    | 1, _ => rw [Go.Lib.toList_data]; simp [ss]
  · match i, hi with
    | 0, _ => rw [Go.Lib.toList_data]; simp [ss]
    | 1, _ => rw [Go.Lib.toList_data]; simp [sx]
    | 2, _ => rw [Go.Lib.toList_data]; simp [sb]
theorem ab_facts {ty key : ByteArray} {t : Int} {n : Int} {s : ByteArray} (h : ty = ⟨#[65]⟩ ∨ ty = ⟨#[66]⟩) :
    getM typesL ⟨ty, key, t, 0, vsAB n s⟩ ⟨#[120]⟩ = some ⟨1, n, ⟨#[]⟩, false⟩ ∧ getM typesL ⟨ty, key, t, 0, vsAB n s⟩ ⟨#[115]⟩ = some ⟨2, 0, s, false⟩ ∧ getM typesL ⟨ty, key, t, 0, vsAB n s⟩ ⟨#[98]⟩ = none ∧ (ty.toList == [67]) = false := by
  rcases h with rfl | rfl
  · exact ⟨get_at (fs_at idx_A rfl ab_x rfl) rfl, get_at (fs_at idx_A rfl ab_s rfl) rfl, get_none (fs_one idx_A rfl ab_b), by rw [Go.Lib.toList_data]; rfl⟩
  · exact ⟨get_at (fs_at idx_B rfl ab_x rfl) rfl, get_at (fs_at idx_B rfl ab_s rfl) rfl, get_none (fs_one idx_B rfl ab_b), by rw [Go.Lib.toList_data]; rfl⟩
theorem c_facts {key : ByteArray} {t : Int} {n : Int} {s : ByteArray} {b : Bool} :
    getM typesL ⟨⟨#[67]⟩, key, t, 0, vsC n s b⟩ ⟨#[120]⟩ = some ⟨1, n, ⟨#[]⟩, false⟩ ∧ getM typesL ⟨⟨#[67]⟩, key, t, 0, vsC n s b⟩ ⟨#[115]⟩ = some ⟨2, 0, s, false⟩ ∧ getM typesL ⟨⟨#[67]⟩, key, t, 0, vsC n s b⟩ ⟨#[98]⟩ = some ⟨3, 0, ⟨#[]⟩, b⟩ :=
  ⟨get_at (fs_at idx_C' rfl c_x rfl) rfl, get_at (fs_at idx_C' rfl c_s rfl) rfl, get_at (fs_at idx_C' rfl c_b rfl) rfl⟩
theorem xor_ne {n : Int} (h : 0 ≤ n ∧ n ≤ 3) : (n == bits .xor .i64 n 1) = false := by
  have : n = 0 ∨ n = 1 ∨ n = 2 ∨ n = 3 := by omega
  rcases this with rfl | rfl | rfl | rfl <;> decide
end Go.Proofs.YtookojgemipakaaDoor.E4
