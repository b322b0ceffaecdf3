/- Predicates as trees. -/
import Derived.Test.YtgilfolllckceaaEvlH
import Derived.Test.YtgilfolllckceaaTyP
namespace Go.Proofs.Ytgilfolllckceaa.Evl
open Go.RowKit Go.Proofs.Ytgilfolllckceaa Go.Proofs.Ytgilfolllckceaa.Ev Go.Proofs.Ytgilfolllckceaa.Sch Go.Proofs.Ytgilfolllckceaa.Ty Go.Proofs.Ytgilfolllckceaa.Num
set_option linter.unusedVariables false
set_option maxRecDepth 100000
inductive Tr where
  | con (k i : Int) (s : ByteArray) (b : Bool)
  | fld (v f : ByteArray)
  | un (o : Int) (a : Tr)
  | bi (o : Int) (a b : Tr)
def Tr.flat : Tr → List Nd
  | .con k i s b => [⟨1, k, i, s, b, ⟨#[]⟩, ⟨#[]⟩⟩]
  | .fld v f => [⟨2, 0, 0, ⟨#[]⟩, false, v, f⟩]
  | .un o a => a.flat ++ [opn o]
  | .bi o a b => a.flat ++ (b.flat ++ [opn o])
inductive Tr.Ok : Tr → Prop
  | con {k i : Int} {s : ByteArray} {b : Bool} (h : OkV k i s b) (hi : In64 i) : Ok (.con k i s b)
  | fld (v f : ByteArray) : Ok (.fld v f)
  | un {o : Int} {a : Tr} (h : o = 3 ∨ o = 13) (ha : Ok a) : Ok (.un o a)
  | bi {o : Int} {a b : Tr} (h1 : 3 ≤ o) (h2 : o ≤ 15) (h3 : ¬ (o = 3 ∨ o = 13)) (ha : Ok a) (hb : Ok b) : Ok (.bi o a b)
def Tr.sem (ts : List Ty) (es : List Bn) : Tr → Option VV
  | .con k i s b => some ⟨k, i, s, b⟩
  | .fld v f => fldM ts es v f
  | .un o a => (a.sem ts es).bind fun x => opM o [x]
  | .bi o a b => (a.sem ts es).bind fun x => (b.sem ts es).bind fun y => opM o [x, y]
theorem partM_op {ts : List Ty} {es : List Bn} {o : Int} (h : 3 ≤ o) (L : List VV) : partM ts es (opn o) L = opM o L := by
  unfold partM opn
  dsimp only
  rw [if_neg (by omega), if_neg (by omega)]
theorem evM_tree {ts : List Ty} {es : List Bn} {t : Tr} (h : t.Ok) : ∀ (rest : List Nd) (st : List VV), evM ts es (t.flat ++ rest) st = match t.sem ts es with | none => none | some y => evM ts es rest (st ++ [y]) := by
  induction h with
  | @con k i s b hv hi =>
    intro rest st
    have hc : st.length - (partsI (⟨1, k, i, s, b, ⟨#[]⟩, ⟨#[]⟩⟩ : Nd).op).toNat = st.length := rfl
    have hp : partM ts es ⟨1, k, i, s, b, ⟨#[]⟩, ⟨#[]⟩⟩ (st.drop st.length) = some ⟨k, i, s, b⟩ := rfl
    show evM ts es (_ :: rest) st = _
    rw [evM_yes hc hp, List.take_length]
    rfl
  | fld v f =>
    intro rest st
    have hc : st.length - (partsI (⟨2, 0, 0, ⟨#[]⟩, false, v, f⟩ : Nd).op).toNat = st.length := rfl
    show evM ts es (_ :: rest) st = _
    show _ = match fldM ts es v f with | none => none | some y => evM ts es rest (st ++ [y])
    have hp : partM ts es ⟨2, 0, 0, ⟨#[]⟩, false, v, f⟩ (st.drop st.length) = fldM ts es v f := rfl
    cases hf : fldM ts es v f with
    | none => exact evM_no hc (hp.trans hf)
    | some y => rw [evM_yes hc (hp.trans hf), List.take_length]
  | @un o a ho ha ih =>
    intro rest st
    show evM ts es ((a.flat ++ [opn o]) ++ rest) st = match (a.sem ts es).bind fun x => opM o [x] with | none => none | some y => evM ts es rest (st ++ [y])
    rw [List.append_assoc, ih]
    cases a.sem ts es with
    | none => rfl
    | some x =>
      dsimp only [Option.bind]
      have hc : (st ++ [x]).length - (partsI (opn o).op).toNat = st.length := by
        show (st ++ [x]).length - (partsI o).toNat = _
        rw [partsI_1 ho]; simp
      have hp : partM ts es (opn o) ((st ++ [x]).drop st.length) = opM o [x] := by rw [partM_op (by omega)]; simp
      show evM ts es (opn o :: rest) (st ++ [x]) = _
      cases hf : opM o [x] with
      | none => exact evM_no hc (hp.trans hf)
      | some y => rw [evM_yes hc (hp.trans hf)]; simp
  | @bi o a b h1 h2 h3 ha hb iha ihb =>
    intro rest st
    show evM ts es ((a.flat ++ (b.flat ++ [opn o])) ++ rest) st = match (a.sem ts es).bind fun x => (b.sem ts es).bind fun y => opM o [x, y] with | none => none | some y => evM ts es rest (st ++ [y])
    rw [List.append_assoc, iha]
    cases a.sem ts es with
    | none => rfl
    | some x =>
      dsimp only [Option.bind]
      rw [List.append_assoc, ihb]
      cases b.sem ts es with
      | none => rfl
      | some y =>
        dsimp only
        have hc : (st ++ [x] ++ [y]).length - (partsI (opn o).op).toNat = st.length := by
          show (st ++ [x] ++ [y]).length - (partsI o).toNat = _
          rw [partsI_2 h1 h2 h3]; simp
        have hp : partM ts es (opn o) ((st ++ [x] ++ [y]).drop st.length) = opM o [x, y] := by rw [partM_op h1]; simp
        show evM ts es (opn o :: rest) (st ++ [x] ++ [y]) = _
        cases hf : opM o [x, y] with
        | none => exact evM_no hc (hp.trans hf)
        | some z => rw [evM_yes hc (hp.trans hf)]; simp
theorem evM_whole {ts : List Ty} {es : List Bn} {t : Tr} (h : t.Ok) : evM ts es t.flat [] = t.sem ts es := by
  have := evM_tree (ts := ts) (es := es) h [] []
  rw [List.append_nil] at this
  rw [this]
  cases t.sem ts es <;> rfl
theorem Tr.flat_pos (t : Tr) : 0 < t.flat.length := by
  cases t <;> simp [Tr.flat] <;> omega
/-- What is built so far. -/
def flats (F : List Tr) : List Nd := F.flatMap Tr.flat
theorem snoc_of {F : List Tr} (h : 0 < F.length) : ∃ G a, F = G ++ [a] := by
  rcases List.eq_nil_or_concat F with e | ⟨G, a, e⟩
  · subst e; simp at h
  · exact ⟨G, a, by simpa using e⟩
theorem parse_at {l : List Nd} (hg : Ty.Good l) (hli : ∀ n ∈ l, In64 n.i) : ∀ k, k ≤ l.length → ∃ F : List Tr, (∀ t ∈ F, t.Ok) ∧ flats F = l.take k ∧ (F.length : Int) = dep (l.take k)
  | 0, _ => ⟨[], by simp, rfl, rfl⟩
  | k + 1, hk => by
    obtain ⟨F, h1, h2, h3⟩ := parse_at hg hli k (by omega)
    have hok := hg.ok k (by omega)
    have hin := hli l[k] (List.getElem_mem (by omega))
    have hlow := hg.low k (by omega)
    rw [dep_take (show k < l.length by omega), List.take_succ_eq_append_getElem (show k < l.length by omega)]
    generalize l[k] = n at hok hlow hin
    rw [← h3] at hlow ⊢
    rw [← h2]
    cases hok with
    | @const k i s b h => exact ⟨F ++ [.con k i s b], fun t ht => by
        rcases List.mem_append.1 ht with ht | ht
        · exact h1 t ht
        · rw [List.mem_singleton] at ht; subst ht; exact .con h hin, by simp [flats, Tr.flat], by simp [partsI]⟩
    | @field v f hv hf => exact ⟨F ++ [.fld v f], fun t ht => by
        rcases List.mem_append.1 ht with ht | ht
        · exact h1 t ht
        · rw [List.mem_singleton] at ht; subst ht; exact .fld v f, by simp [flats, Tr.flat], by simp [partsI]⟩
    | op o g1 g2 =>
      dsimp only at hlow ⊢
      by_cases ho : o = 3 ∨ o = 13
      · rw [partsI_1 ho] at hlow ⊢
        obtain ⟨G, a, rfl⟩ := snoc_of (F := F) (by omega)
        exact ⟨G ++ [.un o a], fun t ht => by
          rcases List.mem_append.1 ht with ht | ht
          · exact h1 t (List.mem_append_left _ ht)
          · rw [List.mem_singleton] at ht; subst ht; exact .un ho (h1 a (by simp)), by simp [flats, Tr.flat, opn], by simp⟩
      · rw [partsI_2 g1 g2 ho] at hlow ⊢
        obtain ⟨G, b, rfl⟩ := snoc_of (F := F) (by omega)
        obtain ⟨H, a, rfl⟩ := snoc_of (F := G) (by simp at hlow; omega)
        exact ⟨H ++ [.bi o a b], fun t ht => by
          rcases List.mem_append.1 ht with ht | ht
          · exact h1 t (List.mem_append_left _ (List.mem_append_left _ ht))
          · rw [List.mem_singleton] at ht; subst ht; exact .bi g1 g2 ho (h1 a (by simp)) (h1 b (by simp)), by simp [flats, Tr.flat, opn], by simp; omega⟩
/-- Each predicate is a tree. -/
theorem parse {l : List Nd} (hg : Ty.Good l) (hli : ∀ n ∈ l, In64 n.i) : ∃ t : Tr, t.Ok ∧ t.flat = l := by
  obtain ⟨F, h1, h2, h3⟩ := parse_at hg hli l.length (Nat.le_refl _)
  rw [List.take_length] at h2 h3
  rw [hg.one] at h3
  match F, h1, h2, h3 with
  | [t], h1, h2, _ => exact ⟨t, h1 t (by simp), by simpa [flats] using h2⟩
  | [], _, _, h3 => simp at h3
  | _ :: _ :: _, _, _, h3 => simp at h3; omega
/-- A value with nothing of another kind. -/
def Cl (y : VV) : Prop := In64 y.i ∧ ((y.k = 1 ∧ y.s = ⟨#[]⟩ ∧ y.b = false) ∨ (y.k = 2 ∧ y.i = 0 ∧ y.b = false) ∨ (y.k = 3 ∧ y.i = 0 ∧ y.s = ⟨#[]⟩))
theorem cl_of_ok {k i : Int} {s : ByteArray} {b : Bool} (h : OkV k i s b) (hi : In64 i) : Cl ⟨k, i, s, b⟩ := by
  refine ⟨hi, ?_⟩
  cases h with
  | num i h => exact .inl ⟨rfl, rfl, rfl⟩
  | text s h => exact .inr (.inl ⟨rfl, rfl, rfl⟩)
  | truth b => exact .inr (.inr ⟨rfl, rfl, rfl⟩)
theorem cl_num (x : Int) : Cl (numV (cutI x)) := ⟨cutI_in x, .inl ⟨rfl, rfl, rfl⟩⟩
theorem cl_tr (b : Bool) : Cl (trV b) := ⟨in_zero, .inr (.inr ⟨rfl, rfl, rfl⟩)⟩
theorem opM_cl {o : Int} {L : List VV} {y : VV} (h : opM o L = some y) : Cl y := by
  match L, h with
  | [a], h =>
    simp only [opM] at h
    split at h
    · split at h
      · split at h
        · injection h with h; subst h; exact cl_num _
        · cases h
      · cases h
    · split at h
      · injection h with h; subst h; exact cl_tr _
      · cases h
  | [a, b], h =>
    simp only [opM] at h
    split at h
    · split at h
      · split at h
        · injection h with h; subst h; exact cl_num _
        · cases h
      · cases h
    · split at h
      · split at h
        · injection h with h; subst h; exact cl_tr _
        · cases h
      · rw [Option.map_eq_some_iff] at h
        obtain ⟨r, _, h⟩ := h
        subst h; exact cl_tr _
  | [], h => simp [opM] at h
  | _ :: _ :: _ :: _, h => simp [opM] at h
def EnC (es : List Bn) : Prop := ∀ b ∈ es, ∀ x ∈ b.ev.vs, Cl x
theorem EnC.b {es : List Bn} (h : EnC es) : EnB es := fun b hb x hx => (h b hb x hx).1
theorem fldM_cl {ts : List Ty} {es : List Bn} {v f : ByteArray} {y : VV} (he : EnC es) (h : fldM ts es v f = some y) : Cl y := by
  unfold fldM at h
  split at h
  · cases h
  · rename_i b hb
    split at h
    · cases h
    · unfold getM at h
      split at h
      · cases h
      · exact he b (List.mem_of_getElem? hb) _ (List.mem_of_getElem? h)
theorem sem_cl {ts : List Ty} {es : List Bn} (he : EnC es) {t : Tr} (ht : t.Ok) : ∀ {y : VV}, t.sem ts es = some y → Cl y := by
  induction ht with
  | @con k i s b hv hi => intro y h; injection h with h; subst h; exact cl_of_ok hv hi
  | fld v f => intro y h; exact fldM_cl he h
  | @un o a ho ha ih =>
    intro y h
    simp only [Tr.sem, Option.bind_eq_some_iff] at h
    obtain ⟨x, _, h⟩ := h
    exact opM_cl h
  | @bi o a b h1 h2 h3 ha hb iha ihb =>
    intro y h
    simp only [Tr.sem, Option.bind_eq_some_iff] at h
    obtain ⟨x, _, z, _, h⟩ := h
    exact opM_cl h
end Go.Proofs.Ytgilfolllckceaa.Evl
