/- Any parts; the law EvalNone: its parts. -/
import Derived.Test.YtgilfolllckceaaEvlX
import Derived.Test.YtgilfolllckceaaEvlJ3
import Derived.Test.YtgilfolllckceaaEvB
import Derived.Test.YtgilfolllckceaaEvlO
import Derived.Test.YtgilfolllckceaaEvlY
namespace Go.Proofs.Ytgilfolllckceaa.Evl
open Go.RowKit Go.Proofs.Ytgilfolllckceaa Go.Proofs.Ytgilfolllckceaa.Ev Go.Proofs.Ytgilfolllckceaa.Sch Go.Proofs.Ytgilfolllckceaa.Ty Go.Proofs.Ytgilfolllckceaa.Num
set_option linter.unusedVariables false
set_option maxRecDepth 100000
set_option maxHeartbeats 2000000 in
theorem eval_bad (p : Option Addr) (v ev : Value) (l : List Nd) (w : World) (hl : Ns w w.heap.size v l) (hg : ¬ Ty.Good l) : Calls Try.prog 19 #[.pointer p, v, ev] w (RPost w none) := by
  have hX : Below w.heap.size w (w.alloc (.cells #[.int .i64 0, .int .i64 0, .string ⟨#[]⟩, .bool false] 23)) := (Below.refl _ w).alloc (Nat.le_refl _) _
  have HX := Lib.hid hX
  have HM := Lib.hid ((tmay_any v l _ (hl.below hX hX.size)).mono fun _ _ h => false_of h hg)
  have HZ : Hid (∀ X, Below (w.alloc (.cells #[.int .i64 0, .int .i64 0, .string ⟨#[]⟩, .bool false] 23)).heap.size (w.alloc (.cells #[.int .i64 0, .int .i64 0, .string ⟨#[]⟩, .bool false] 23)) X → Rz X w.heap.size) := Lib.hid (fun X h => Row.below (Row.made w _ _) h (by simp))
  obtain ⟨A, c, rfl, _, _, _⟩ := hl
  clear hX hg
  go_enter Try.func19, Try.ntmps19
  go_wp2_with fail
  refine HM.out.mono ?_
  rintro e w1 ⟨rfl, hb1⟩
  have HB := Lib.hid (HX.out.trans (hb1.mono HX.out.size))
  have HZ1 := Lib.hid (HZ.out _ hb1)
  obtain ⟨hlt1, p10, p11, p12, p13, f10, f11, f12, f13⟩ := HZ1.out.facts
  clear hb1 HX HZ HM
  go_wp2
  obtain ⟨k0, k1, k2, k3⟩ := four (put4 HZ1.out (.int .i64 0) (.int .i64 0) (.string ⟨#[]⟩) (.bool false))
  exact bodyPost_ret (v := .tuple #[.agg #[.int .i64 0, .int .i64 0, .string ⟨#[]⟩, .bool false], .bool false]) (by simp [results, Try.results19, go_sem, k0, k1, k2, k3]; try rfl) rfl (rpost_no rfl (below4 HB.out (w.heap.size) (Nat.le_refl _) _ _ _ _))
/-- What any parts come to: nothing, where there are none. -/
theorem eval_q (p : Option Addr) (ts : List Ty) (v : Value) (l : List Nd) (ev : Value) (es : List Bn) (w : World) (hs : Sc w w.heap.size p ts) (he : En w w.heap.size ev es) (hl : Ns w w.heap.size v l) (hli : ∀ n ∈ l, In64 n.i) (hei : EnB es) :
    Calls Try.prog 19 #[.pointer p, v, ev] w fun e w' => ∃ r, RPost w r e w' ∧ (r.isSome = true → 0 < l.length) := by
  by_cases hg : Ty.Good l
  · exact (eval_good p ts v l ev es w hs he hl hg hli hei).mono fun _ _ h => ⟨_, h, fun _ => Good.pos hg⟩
  · exact (eval_bad p v ev l w hl hg).mono fun _ _ h => ⟨_, h, fun x => by cases x⟩
theorem fld_any (v f : ByteArray) (w : World) : Calls Try.prog 23 #[.string v, .string f] w fun e w' => e = .returned (.agg #[.int .i64 2, .int .i64 0, .int .i64 0, .string ⟨#[]⟩, .bool false, .string v, .string f]) ∧ Below w.heap.size w w' := by
  go_enter Try.func23, Try.ntmps23
  go_wp2
  exact bodyPost_ret (v := .agg #[.int .i64 2, .int .i64 0, .int .i64 0, .string ⟨#[]⟩, .bool false, .string v, .string f]) (by simp [results, Try.results23, go_sem]; try rfl) rfl ⟨rfl, (Below.refl _ w).alloc (Nat.le_refl _) _⟩
def fNone : Nd := ⟨2, 0, 0, ⟨#[]⟩, false, ⟨#[97]⟩, ⟨#[110, 111, 110, 101]⟩⟩
def fW : Nd := ⟨2, 0, 0, ⟨#[]⟩, false, ⟨#[119]⟩, ⟨#[120]⟩⟩
def fX : Nd := ⟨2, 0, 0, ⟨#[]⟩, false, ⟨#[97]⟩, ⟨#[120]⟩⟩
theorem goodF {v f : ByteArray} (hv : nameB v.data.toList = true) (hf : nameB f.data.toList = true) : Ty.Good [⟨2, 0, 0, ⟨#[]⟩, false, v, f⟩, ⟨2, 0, 0, ⟨#[]⟩, false, v, f⟩, opn 7] := by
  refine ⟨by simp, fun j hj => ?_, fun j hj => ?_, ?_⟩
  · match j, hj with
    | 0, _ => exact .field hv hf
    | 1, _ => exact .field hv hf
    | 2, _ => exact .op 7 (by decide) (by decide)
  · match j, hj with
    | 0, _ => show partsI 2 ≤ dep []; decide
    | 1, _ => show partsI 2 ≤ (1 - partsI 2) + 0; decide
    | 2, _ => show partsI 7 ≤ (1 - partsI 2) + ((1 - partsI 2) + 0); decide
  · show (1 - partsI 2) + ((1 - partsI 2) + ((1 - partsI 7) + 0)) = 1
    decide
theorem inF (v f : ByteArray) : ∀ n ∈ ([⟨2, 0, 0, ⟨#[]⟩, false, v, f⟩, ⟨2, 0, 0, ⟨#[]⟩, false, v, f⟩, opn 7] : List Nd), In64 n.i := by
  intro n hn
  simp at hn
  rcases hn with rfl | rfl <;> exact in_zero
/-- The event that a stands for. -/
def evE (ty key : ByteArray) (t q : Int) (vs : List VV) : List Bn := [⟨⟨#[97]⟩, ⟨ty, key, t, q, vs⟩⟩]
theorem evM_f {es : List Bn} {v f : ByteArray} (h : fldM typesL es v f = none) : evM typesL es [⟨2, 0, 0, ⟨#[]⟩, false, v, f⟩, ⟨2, 0, 0, ⟨#[]⟩, false, v, f⟩, opn 7] [] = none := by
  show (match fldM typesL es v f with | none => none | some y => _) = _
  rw [h]
theorem ordV_self {y : VV} (h : y.k = 1 ∨ y.k = 2 ∨ y.k = 3) : ordV y y = some 0 := by
  obtain ⟨k, i, s, b⟩ := y
  unfold ordV
  dsimp only at *
  rw [if_pos rfl]
  rcases h with rfl | rfl | rfl
  · rw [if_pos rfl]; simp [cmpI]
  · rw [if_neg (by decide), if_pos rfl]
    have hl : ∀ l : List UInt8, Op.bytesLess l l = false := fun l => by
      induction l with
      | nil => rfl
      | cons a l ih => simp [Op.bytesLess, ih]
    simp [cmpS, hl]
  · rw [if_neg (by decide), if_neg (by decide), if_pos rfl]; simp [cmpI]
theorem evM_x {es : List Bn} {v f : ByteArray} {y : VV} (h : fldM typesL es v f = some y) (hk : y.k = 1 ∨ y.k = 2 ∨ y.k = 3) : evM typesL es [⟨2, 0, 0, ⟨#[]⟩, false, v, f⟩, ⟨2, 0, 0, ⟨#[]⟩, false, v, f⟩, opn 7] [] = some (trV true) := by
  show (match fldM typesL es v f with | none => none | some y => (match fldM typesL es v f with | none => none | some z => (match opM 7 [y, z] with | none => none | some u => some u))) = _
  rw [h]
  dsimp only
  have : opM 7 [y, y] = some (trV true) := by
    simp only [opM]
    rw [if_neg (by decide), if_neg (by decide), ordV_self hk]
    rfl
  rw [this]
theorem fS_none {n f : ByteArray} {i : Nat} {t : Ty} (h1 : idx (typesL.map Prod.fst) n = (i : Nat)) (ht : typesL[i]? = some t) (h2 : idx (t.2.map Prod.fst) f < 0) : (fieldS typesL n f).1 < 0 := by
  unfold fieldS
  rw [h1, Int.toNat_natCast, ht]
  dsimp only
  rw [if_neg (by omega)]
  split
  · decide
  · rw [if_pos h2]; decide
theorem idxE (ty key : ByteArray) (t q : Int) (vs : List VV) : idx ((evE ty key t q vs).map Bn.nm) ⟨#[97]⟩ = (0 : Nat) := by rw [idx_data]; rfl
theorem idxW (ty key : ByteArray) (t q : Int) (vs : List VV) : idx ((evE ty key t q vs).map Bn.nm) ⟨#[119]⟩ < 0 := by
  show idx [(⟨#[97]⟩ : ByteArray)] ⟨#[119]⟩ < 0
  rw [idx_data]; decide
theorem fld_w (ty key : ByteArray) (t q : Int) (vs : List VV) : fldM typesL (evE ty key t q vs) ⟨#[119]⟩ ⟨#[120]⟩ = none := fldM_no (idxW ty key t q vs)
theorem ty3_cases (k : Nat) (hk : k < 3) : (k = 0 ∧ ty3 k = ⟨#[65]⟩) ∨ (k = 1 ∧ ty3 k = ⟨#[66]⟩) ∨ (k = 2 ∧ ty3 k = ⟨#[67]⟩) := by
  match k, hk with
  | 0, _ => exact .inl ⟨rfl, rfl⟩
  | 1, _ => exact .inr (.inl ⟨rfl, rfl⟩)
  | 2, _ => exact .inr (.inr ⟨rfl, rfl⟩)
theorem fld_none (k : Nat) (hk : k < 3) (key : ByteArray) (t q : Int) (vs : List VV) : fldM typesL (evE (ty3 k) key t q vs) ⟨#[97]⟩ ⟨#[110, 111, 110, 101]⟩ = none := by
  rw [fldM_at (idxE _ _ _ _ _) rfl]
  unfold getM
  dsimp only
  have : (fieldS typesL (ty3 k) ⟨#[110, 111, 110, 101]⟩).1 < 0 := by
    rcases ty3_cases k hk with ⟨_, e⟩ | ⟨_, e⟩ | ⟨_, e⟩
    · rw [e]; exact fS_none (i := 0) (by rw [idx_data]; rfl) rfl (by rw [idx_data]; decide)
    · rw [e]; exact fS_none (i := 1) (by rw [idx_data]; rfl) rfl (by rw [idx_data]; decide)
    · rw [e]; exact fS_none (i := 2) (by rw [idx_data]; rfl) rfl (by rw [idx_data]; decide)
  rw [if_pos this]
theorem fS_at {n f : ByteArray} {i j : Nat} {t : Ty} {x : Fld} (h1 : idx (typesL.map Prod.fst) n = (i : Nat)) (ht : typesL[i]? = some t) (h2 : idx (t.2.map Prod.fst) f = (j : Nat)) (hx : t.2[j]? = some x) : (fieldS typesL n f).1 = (j : Nat) := by
  unfold fieldS
  rw [h1, Int.toNat_natCast, ht]
  dsimp only
  rw [if_neg (by omega), h2, Int.toNat_natCast, hx]
  dsimp only
  rw [if_neg (by omega)]
theorem fld_x (k : Nat) (hk : k < 3) (key : ByteArray) (t q n : Int) (s : ByteArray) (b : Bool) : ∃ y, fldM typesL (evE (ty3 k) key t q (evVals k n s b)) ⟨#[97]⟩ ⟨#[120]⟩ = some y ∧ (y.k = 1 ∨ y.k = 2 ∨ y.k = 3) := by
  refine ⟨⟨1, n, ByteArray.empty, false⟩, ?_, .inl rfl⟩
  rw [fldM_at (idxE _ _ _ _ _) rfl]
  unfold getM
  dsimp only
  rcases ty3_cases k hk with ⟨hk0, e⟩ | ⟨hk0, e⟩ | ⟨hk0, e⟩
  · rw [e, fS_at (i := 0) (j := 0) (by rw [idx_data]; rfl) rfl (by rw [idx_data]; rfl) rfl, if_neg (by omega), hk0]
    rfl
  · rw [e, fS_at (i := 1) (j := 0) (by rw [idx_data]; rfl) rfl (by rw [idx_data]; rfl) rfl, if_neg (by omega), hk0]
    rfl
  · rw [e, fS_at (i := 2) (j := 1) (by rw [idx_data]; rfl) rfl (by rw [idx_data]; rfl) rfl, if_neg (by omega), hk0]
    rfl
end Go.Proofs.Ytgilfolllckceaa.Evl
