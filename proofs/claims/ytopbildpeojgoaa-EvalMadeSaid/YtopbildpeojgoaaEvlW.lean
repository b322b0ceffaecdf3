/- Texts put together: EvlK, EvlT, EvlU, EvlV, EvlW. -/
import Derived.Test.YtopbildpeojgoaaEvlH
import Derived.Test.YtopbildpeojgoaaTyP
import Derived.Test.YtopbildpeojgoaaEvlL3
import Derived.Test.YtopbildpeojgoaaEvlM
import Derived.Test.YtopbildpeojgoaaEvlS
import Derived.BigRegion
section
namespace Go.Proofs.Ytopbildpeojgoaa.Evl
open Go.RowKit Go.Proofs.Ytopbildpeojgoaa Go.Proofs.Ytopbildpeojgoaa.Ev Go.Proofs.Ytopbildpeojgoaa.Sch Go.Proofs.Ytopbildpeojgoaa.Ty Go.Proofs.Ytopbildpeojgoaa.Num
set_option linter.unusedVariables false
set_option maxRecDepth 100000
inductive Tr where
  | con (k i : Int) (s : ByteArray) (b : Bool)
  | fld (v f : ByteArray)
  | un (o : Int) (a : Tr)
  | bi (o : Int) (a b : Tr)
def Tr.flat : Tr → List Nd
  | .con k i s b => [⟨1, k, i, s, b, ⟨#[]⟩, ⟨#[]⟩⟩]
  | .fld v f => [⟨2, 0, 0, ⟨#[]⟩, false, v, f⟩]
  | .un o a => a.flat ++ [opn o]
  | .bi o a b => a.flat ++ (b.flat ++ [opn o])
inductive Tr.Ok : Tr → Prop
  | con {k i : Int} {s : ByteArray} {b : Bool} (h : OkV k i s b) (hi : In64 i) : Ok (.con k i s b)
  | fld (v f : ByteArray) : Ok (.fld v f)
  | un {o : Int} {a : Tr} (h : o = 3 ∨ o = 13) (ha : Ok a) : Ok (.un o a)
  | bi {o : Int} {a b : Tr} (h1 : 3 ≤ o) (h2 : o ≤ 15) (h3 : ¬ (o = 3 ∨ o = 13)) (ha : Ok a) (hb : Ok b) : Ok (.bi o a b)
def Tr.sem (ts : List Ty) (es : List Bn) : Tr → Option VV
  | .con k i s b => some ⟨k, i, s, b⟩
  | .fld v f => fldM ts es v f
  | .un o a => (a.sem ts es).bind fun x => opM o [x]
  | .bi o a b => (a.sem ts es).bind fun x => (b.sem ts es).bind fun y => opM o [x, y]
theorem partM_op {ts : List Ty} {es : List Bn} {o : Int} (h : 3 ≤ o) (L : List VV) : partM ts es (opn o) L = opM o L := by
  unfold partM opn
  dsimp only
  rw [if_neg (by omega), if_neg (by omega)]
theorem evM_tree {ts : List Ty} {es : List Bn} {t : Tr} (h : t.Ok) : ∀ (rest : List Nd) (st : List VV), evM ts es (t.flat ++ rest) st = match t.sem ts es with | none => none | some y => evM ts es rest (st ++ [y]) := by
  induction h with
  | @con k i s b hv hi =>
    intro rest st
    have hc : st.length - (partsI (⟨1, k, i, s, b, ⟨#[]⟩, ⟨#[]⟩⟩ : Nd).op).toNat = st.length := rfl
    have hp : partM ts es ⟨1, k, i, s, b, ⟨#[]⟩, ⟨#[]⟩⟩ (st.drop st.length) = some ⟨k, i, s, b⟩ := rfl
    show evM ts es (_ :: rest) st = _
    rw [evM_yes hc hp, List.take_length]
    rfl
  | fld v f =>
    intro rest st
    have hc : st.length - (partsI (⟨2, 0, 0, ⟨#[]⟩, false, v, f⟩ : Nd).op).toNat = st.length := rfl
    show evM ts es (_ :: rest) st = _
    show _ = match fldM ts es v f with | none => none | some y => evM ts es rest (st ++ [y])
    have hp : partM ts es ⟨2, 0, 0, ⟨#[]⟩, false, v, f⟩ (st.drop st.length) = fldM ts es v f := rfl
    cases hf : fldM ts es v f with
    | none => exact evM_no hc (hp.trans hf)
    | some y => rw [evM_yes hc (hp.trans hf), List.take_length]
  | @un o a ho ha ih =>
    intro rest st
    show evM ts es ((a.flat ++ [opn o]) ++ rest) st = match (a.sem ts es).bind fun x => opM o [x] with | none => none | some y => evM ts es rest (st ++ [y])
    rw [List.append_assoc, ih]
    cases a.sem ts es with
    | none => rfl
    | some x =>
      dsimp only [Option.bind]
      have hc : (st ++ [x]).length - (partsI (opn o).op).toNat = st.length := by
        show (st ++ [x]).length - (partsI o).toNat = _
        rw [partsI_1 ho]; simp
      have hp : partM ts es (opn o) ((st ++ [x]).drop st.length) = opM o [x] := by rw [partM_op (by omega)]; simp
      show evM ts es (opn o :: rest) (st ++ [x]) = _
      cases hf : opM o [x] with
      | none => exact evM_no hc (hp.trans hf)
      | some y => rw [evM_yes hc (hp.trans hf)]; simp
  | @bi o a b h1 h2 h3 ha hb iha ihb =>
    intro rest st
    show evM ts es ((a.flat ++ (b.flat ++ [opn o])) ++ rest) st = match (a.sem ts es).bind fun x => (b.sem ts es).bind fun y => opM o [x, y] with | none => none | some y => evM ts es rest (st ++ [y])
    rw [List.append_assoc, iha]
    cases a.sem ts es with
    | none => rfl
    | some x =>
      dsimp only [Option.bind]
      rw [List.append_assoc, ihb]
      cases b.sem ts es with
      | none => rfl
      | some y =>
        dsimp only
        have hc : (st ++ [x] ++ [y]).length - (partsI (opn o).op).toNat = st.length := by
          show (st ++ [x] ++ [y]).length - (partsI o).toNat = _
          rw [partsI_2 h1 h2 h3]; simp
        have hp : partM ts es (opn o) ((st ++ [x] ++ [y]).drop st.length) = opM o [x, y] := by rw [partM_op h1]; simp
        show evM ts es (opn o :: rest) (st ++ [x] ++ [y]) = _
        cases hf : opM o [x, y] with
        | none => exact evM_no hc (hp.trans hf)
        | some z => rw [evM_yes hc (hp.trans hf)]; simp
theorem evM_whole {ts : List Ty} {es : List Bn} {t : Tr} (h : t.Ok) : evM ts es t.flat [] = t.sem ts es := by
  have := evM_tree (ts := ts) (es := es) h [] []
  rw [List.append_nil] at this
  rw [this]
  cases t.sem ts es <;> rfl
theorem Tr.flat_pos (t : Tr) : 0 < t.flat.length := by
  cases t <;> simp [Tr.flat] <;> omega
/-- What is built so far. -/
def flats (F : List Tr) : List Nd := F.flatMap Tr.flat
theorem snoc_of {F : List Tr} (h : 0 < F.length) : ∃ G a, F = G ++ [a] := by
  rcases List.eq_nil_or_concat F with e | ⟨G, a, e⟩
  · subst e; simp at h
  · exact ⟨G, a, by simpa using e⟩
theorem parse_at {l : List Nd} (hg : Ty.Good l) (hli : ∀ n ∈ l, In64 n.i) : ∀ k, k ≤ l.length → ∃ F : List Tr, (∀ t ∈ F, t.Ok) ∧ flats F = l.take k ∧ (F.length : Int) = dep (l.take k)
  | 0, _ => ⟨[], by simp, rfl, rfl⟩
  | k + 1, hk => by
    obtain ⟨F, h1, h2, h3⟩ := parse_at hg hli k (by omega)
    have hok := hg.ok k (by omega)
    have hin := hli l[k] (List.getElem_mem (by omega))
    have hlow := hg.low k (by omega)
    rw [dep_take (show k < l.length by omega), List.take_succ_eq_append_getElem (show k < l.length by omega)]
    generalize l[k] = n at hok hlow hin
    rw [← h3] at hlow ⊢
    rw [← h2]
    cases hok with
    | @const k i s b h => exact ⟨F ++ [.con k i s b], fun t ht => by
        rcases List.mem_append.1 ht with ht | ht
        · exact h1 t ht
        · rw [List.mem_singleton] at ht; subst ht; exact .con h hin, by simp [flats, Tr.flat], by simp [partsI]⟩
    | @field v f hv hf => exact ⟨F ++ [.fld v f], fun t ht => by
        rcases List.mem_append.1 ht with ht | ht
        · exact h1 t ht
        · rw [List.mem_singleton] at ht; subst ht; exact .fld v f, by simp [flats, Tr.flat], by simp [partsI]⟩
    | op o g1 g2 =>
      dsimp only at hlow ⊢
      by_cases ho : o = 3 ∨ o = 13
      · rw [partsI_1 ho] at hlow ⊢
        obtain ⟨G, a, rfl⟩ := snoc_of (F := F) (by omega)
        exact ⟨G ++ [.un o a], fun t ht => by
          rcases List.mem_append.1 ht with ht | ht
          · exact h1 t (List.mem_append_left _ ht)
          · rw [List.mem_singleton] at ht; subst ht; exact .un ho (h1 a (by simp)), by simp [flats, Tr.flat, opn], by simp⟩
      · rw [partsI_2 g1 g2 ho] at hlow ⊢
        obtain ⟨G, b, rfl⟩ := snoc_of (F := F) (by omega)
        obtain ⟨H, a, rfl⟩ := snoc_of (F := G) (by simp at hlow; omega)
        exact ⟨H ++ [.bi o a b], fun t ht => by
          rcases List.mem_append.1 ht with ht | ht
          · exact h1 t (List.mem_append_left _ (List.mem_append_left _ ht))
          · rw [List.mem_singleton] at ht; subst ht; exact .bi g1 g2 ho (h1 a (by simp)) (h1 b (by simp)), by simp [flats, Tr.flat, opn], by simp; omega⟩
/-- Each predicate is a tree. -/
theorem parse {l : List Nd} (hg : Ty.Good l) (hli : ∀ n ∈ l, In64 n.i) : ∃ t : Tr, t.Ok ∧ t.flat = l := by
  obtain ⟨F, h1, h2, h3⟩ := parse_at hg hli l.length (Nat.le_refl _)
  rw [List.take_length] at h2 h3
  rw [hg.one] at h3
  match F, h1, h2, h3 with
  | [t], h1, h2, _ => exact ⟨t, h1 t (by simp), by simpa [flats] using h2⟩
  | [], _, _, h3 => simp at h3
  | _ :: _ :: _, _, _, h3 => simp at h3; omega
/-- A value with nothing of another kind. -/
def Cl (y : VV) : Prop := In64 y.i ∧ ((y.k = 1 ∧ y.s = ⟨#[]⟩ ∧ y.b = false) ∨ (y.k = 2 ∧ y.i = 0 ∧ y.b = false) ∨ (y.k = 3 ∧ y.i = 0 ∧ y.s = ⟨#[]⟩))
theorem cl_of_ok {k i : Int} {s : ByteArray} {b : Bool} (h : OkV k i s b) (hi : In64 i) : Cl ⟨k, i, s, b⟩ := by
  refine ⟨hi, ?_⟩
  cases h with
  | num i h => exact .inl ⟨rfl, rfl, rfl⟩
  | text s h => exact .inr (.inl ⟨rfl, rfl, rfl⟩)
  | truth b => exact .inr (.inr ⟨rfl, rfl, rfl⟩)
theorem cl_num (x : Int) : Cl (numV (cutI x)) := ⟨cutI_in x, .inl ⟨rfl, rfl, rfl⟩⟩
theorem cl_tr (b : Bool) : Cl (trV b) := ⟨in_zero, .inr (.inr ⟨rfl, rfl, rfl⟩)⟩
theorem opM_cl {o : Int} {L : List VV} {y : VV} (h : opM o L = some y) : Cl y := by
  match L, h with
  | [a], h =>
    simp only [opM] at h
    split at h
    · split at h
      · split at h
        · injection h with h; subst h; exact cl_num _
        · cases h
      · cases h
    · split at h
      · injection h with h; subst h; exact cl_tr _
      · cases h
  | [a, b], h =>
    simp only [opM] at h
    split at h
    · split at h
      · split at h
        · injection h with h; subst h; exact cl_num _
        · cases h
      · cases h
    · split at h
      · split at h
        · injection h with h; subst h; exact cl_tr _
        · cases h
      · rw [Option.map_eq_some_iff] at h
        obtain ⟨r, _, h⟩ := h
        subst h; exact cl_tr _
  | [], h => simp [opM] at h
  | _ :: _ :: _ :: _, h => simp [opM] at h
def EnC (es : List Bn) : Prop := ∀ b ∈ es, ∀ x ∈ b.ev.vs, Cl x
theorem EnC.b {es : List Bn} (h : EnC es) : EnB es := fun b hb x hx => (h b hb x hx).1
theorem fldM_cl {ts : List Ty} {es : List Bn} {v f : ByteArray} {y : VV} (he : EnC es) (h : fldM ts es v f = some y) : Cl y := by
  unfold fldM at h
  split at h
  · cases h
  · rename_i b hb
    split at h
    · cases h
    · unfold getM at h
      split at h
      · cases h
      · exact he b (List.mem_of_getElem? hb) _ (List.mem_of_getElem? h)
theorem sem_cl {ts : List Ty} {es : List Bn} (he : EnC es) {t : Tr} (ht : t.Ok) : ∀ {y : VV}, t.sem ts es = some y → Cl y := by
  induction ht with
  | @con k i s b hv hi => intro y h; injection h with h; subst h; exact cl_of_ok hv hi
  | fld v f => intro y h; exact fldM_cl he h
  | @un o a ho ha ih =>
    intro y h
    simp only [Tr.sem, Option.bind_eq_some_iff] at h
    obtain ⟨x, _, h⟩ := h
    exact opM_cl h
  | @bi o a b h1 h2 h3 ha hb iha ihb =>
    intro y h
    simp only [Tr.sem, Option.bind_eq_some_iff] at h
    obtain ⟨x, _, z, _, h⟩ := h
    exact opM_cl h
end Go.Proofs.Ytopbildpeojgoaa.Evl
end

section
namespace Go.Proofs.Ytopbildpeojgoaa.Evl
open Go.RowKit Go.Proofs.Ytopbildpeojgoaa Go.Proofs.Ytopbildpeojgoaa.Ev Go.Proofs.Ytopbildpeojgoaa.Sch Go.Proofs.Ytopbildpeojgoaa.Ty Go.Proofs.Ytopbildpeojgoaa.Num
set_option linter.unusedVariables false
set_option maxRecDepth 100000
theorem less_self : ∀ l : List UInt8, Op.bytesLess l l = false
  | [] => rfl
  | a :: l => by simp [Op.bytesLess, less_self l]
theorem same_bytes {s t : ByteArray} (h : s.toList = t.toList) : s = t := by
  have h2 : s.data.toList = t.data.toList := by
    have e : ∀ u : ByteArray, u.toList = u.data.toList := fun u => by simp [ByteArray.toList_eq]
    rw [← e, ← e]; exact h
  obtain ⟨d⟩ := s
  obtain ⟨d'⟩ := t
  simp at h2
  rw [h2]
theorem opM_ari_no {o k x y : Int} {s t : ByteArray} {b c : Bool} (ho : o ≤ 6) (hk : ¬ k = 1) : opM o [⟨k, x, s, b⟩, ⟨k, y, t, c⟩] = none := by
  simp only [opM]
  rw [if_pos ho, if_neg (fun h => hk h.1)]
theorem opM_log_no {o k x y : Int} {s t : ByteArray} {b c : Bool} (ho : 14 ≤ o) (hk : ¬ k = 3) : opM o [⟨k, x, s, b⟩, ⟨k, y, t, c⟩] = none := by
  simp only [opM]
  rw [if_neg (by omega), if_pos (by omega), if_neg (fun h => hk h.1)]
theorem ari_no (o k x y : Int) (s t : ByteArray) (b c : Bool) (h1 : 4 ≤ o) (h2 : o ≤ 6) (hk : ¬ k = 1) (w : World) : Calls Try.prog 96 #[.int .i64 o, .agg #[.int .i64 k, .int .i64 x, .string s, .bool b], .agg #[.int .i64 k, .int .i64 y, .string t, .bool c]] w (BPost w (opM o [⟨k, x, s, b⟩, ⟨k, y, t, c⟩])) := by
  rw [opM_ari_no h2 hk]
  have hk' : (k == 1) = false := by simpa using hk
  have : o = 4 ∨ o = 5 ∨ o = 6 := by omega
  rcases this with rfl | rfl | rfl
  · exact both_add_no k x y s t b c hk' w
  · exact both_sub_no k x y s t b c hk' w
  · exact both_mul_no k x y s t b c hk' w
theorem log_no (o k x y : Int) (s t : ByteArray) (c : Bool) (h1 : o = 14 ∨ o = 15) (hk : ¬ k = 3) (w : World) : Calls Try.prog 96 #[.int .i64 o, .agg #[.int .i64 k, .int .i64 x, .string s, .bool false], .agg #[.int .i64 k, .int .i64 y, .string t, .bool c]] w (BPost w (opM o [⟨k, x, s, false⟩, ⟨k, y, t, c⟩])) := by
  have hk' : (k == 3) = false := by simpa using hk
  rcases h1 with rfl | rfl
  · rw [opM_log_no (by decide) hk]; exact both_and_no_false k x y s t c hk' w
  · rw [opM_log_no (by decide) hk]; exact both_or_no_false k x y s t c hk' w
theorem both_any (o : Int) (h1 : 4 ≤ o) (h2 : o ≤ 15) (h3 : ¬ o = 13) (a b : VV) (hk : a.k = b.k) (ha : Cl a) (hb : Cl b) (w : World) :
    Calls Try.prog 96 #[.int .i64 o, .agg #[.int .i64 a.k, .int .i64 a.i, .string a.s, .bool a.b], .agg #[.int .i64 b.k, .int .i64 b.i, .string b.s, .bool b.b]] w (BPost w (opM o [a, b])) := by
  obtain ⟨ak, x, s, b1⟩ := a
  obtain ⟨bk, y, t, b2⟩ := b
  obtain ⟨ha, hka⟩ := ha
  obtain ⟨hb, hkb⟩ := hb
  dsimp only at *
  subst hk
  rcases hka with ⟨rfl, rfl, rfl⟩ | ⟨rfl, rfl, rfl⟩ | ⟨rfl, rfl, rfl⟩
  · rcases hkb with ⟨_, rfl, rfl⟩ | ⟨h, _⟩ | ⟨h, _⟩
    · by_cases h6 : o ≤ 6
      · have : o = 4 ∨ o = 5 ∨ o = 6 := by omega
        rcases this with rfl | rfl | rfl
        · exact both_add x y ha hb w
        · exact both_sub x y ha hb w
        · exact both_mul x y ha hb w
      · by_cases h14 : o ≤ 12
        · rcases Int.lt_trichotomy x y with h | h | h
          · exact both_c1l o (by omega) h14 x y h w
          · subst h; exact both_c1e o (by omega) h14 x w
          · exact both_c1g o (by omega) h14 x y h w
        · exact log_no o 1 x y _ _ _ (by omega) (by decide) w
    · cases h
    · cases h
  · rcases hkb with ⟨h, _⟩ | ⟨_, rfl, rfl⟩ | ⟨h, _⟩
    · cases h
    · by_cases h6 : o ≤ 6
      · exact ari_no o 2 0 0 s t _ _ h1 h6 (by decide) w
      · by_cases h14 : o ≤ 12
        · by_cases he : s.toList = t.toList
          · obtain rfl := same_bytes he
            exact both_c2e o (by omega) h14 s (less_self _) w
          · cases hl : Op.bytesLess s.toList t.toList with
            | true => exact both_c2l o (by omega) h14 s t hl he w
            | false => exact both_c2g o (by omega) h14 s t hl he w
        · exact log_no o 2 0 0 _ _ _ (by omega) (by decide) w
    · cases h
  · rcases hkb with ⟨h, _⟩ | ⟨h, _⟩ | ⟨_, rfl, rfl⟩
    · cases h
    · cases h
    · by_cases h6 : o ≤ 6
      · exact ari_no o 3 0 0 _ _ _ _ h1 h6 (by decide) w
      · by_cases h14 : o ≤ 12
        · cases b1 <;> cases b2
          · exact both_c3ff o (by omega) h14 w
          · exact both_c3ft o (by omega) h14 w
          · exact both_c3tf o (by omega) h14 w
          · exact both_c3tt o (by omega) h14 w
        · have : o = 14 ∨ o = 15 := by omega
          rcases this with rfl | rfl
          · cases b1
            · exact both_and_yes_false 3 0 0 _ _ b2 rfl w
            · exact both_and_yes_true 3 0 0 _ _ b2 rfl w
          · cases b1
            · exact both_or_yes_false 3 0 0 _ _ b2 rfl w
            · exact both_or_yes_true 3 0 0 _ _ b2 rfl w
end Go.Proofs.Ytopbildpeojgoaa.Evl
end

section
namespace Go.Proofs.Ytopbildpeojgoaa.Evl
open Go.RowKit Go.Proofs.Ytopbildpeojgoaa Go.Proofs.Ytopbildpeojgoaa.Ev Go.Proofs.Ytopbildpeojgoaa.Sch Go.Proofs.Ytopbildpeojgoaa.Ty Go.Proofs.Ytopbildpeojgoaa.Num
set_option linter.unusedVariables false
set_option maxRecDepth 100000
/-- What the reference's Eval tells: a value that counts only where it is one; where the parts begin. -/
def RfPost (w : World) (r : Option VV) (fr : Nat) (e : Ending) (w' : World) : Prop := ∃ k i s b, e = .returned (.tuple #[.agg #[.int .i64 k, .int .i64 i, .string s, .bool b], .bool r.isSome, .int .i64 (fr : Int)]) ∧ (∀ y, r = some y → y = ⟨k, i, s, b⟩) ∧ Below w.heap.size w w'
theorem rfpost_no {w w' : World} {r : Option VV} {fr : Nat} {k i : Int} {s : ByteArray} {b : Bool} (h : r = none) (hb : Below w.heap.size w w') : RfPost w r fr (.returned (.tuple #[.agg #[.int .i64 k, .int .i64 i, .string s, .bool b], .bool false, .int .i64 (fr : Int)])) w' := by subst h; exact ⟨k, i, s, b, rfl, (fun y h => by cases h), hb⟩
theorem rfpost_yes {w w' : World} {r : Option VV} {fr : Nat} {k i : Int} {s : ByteArray} {b : Bool} (h : r = some ⟨k, i, s, b⟩) (hb : Below w.heap.size w w') : RfPost w r fr (.returned (.tuple #[.agg #[.int .i64 k, .int .i64 i, .string s, .bool b], .bool true, .int .i64 (fr : Int)])) w' := by subst h; exact ⟨k, i, s, b, rfl, (fun y h => by injection h with h; exact h.symm), hb⟩
theorem ns_at {w : World} {B : Nat} {v : Value} {l : List Nd} {j : Nat} {nd : Nd} (h : Ns w B v l) (hj : l[j]? = some nd) : ∃ g o n c, v = .slice (some ⟨g, o, none⟩) n c ∧ j < n ∧ n ≤ c ∧ c ≤ 9223372036854775807 ∧ g < B ∧ w.cell? ⟨g, o + j * 7, none⟩ = some (.int .i64 nd.op) ∧ w.cell? ⟨g, o + j * 7 + 1, none⟩ = some (.int .i64 nd.k) ∧ w.cell? ⟨g, o + j * 7 + 2, none⟩ = some (.int .i64 nd.i) ∧ w.cell? ⟨g, o + j * 7 + 3, none⟩ = some (.string nd.s) ∧ w.cell? ⟨g, o + j * 7 + 4, none⟩ = some (.bool nd.b) ∧ w.cell? ⟨g, o + j * 7 + 5, none⟩ = some (.string nd.v) ∧ w.cell? ⟨g, o + j * 7 + 6, none⟩ = some (.string nd.f) := by
  obtain ⟨A, c, rfl, h1, h2, h3⟩ := h
  obtain ⟨hl, he⟩ := List.getElem?_eq_some_iff.1 hj
  obtain ⟨g, o, rfl, hg, hc⟩ := h3 j hl
  rw [he] at hc
  exact ⟨g, o, _, c, rfl, hl, h1, h2, hg, hc 0 _ rfl, hc 1 _ rfl, hc 2 _ rfl, hc 3 _ rfl, hc 4 _ rfl, hc 5 _ rfl, hc 6 _ rfl⟩
theorem nrows {w : World} {nd : Array Value} : Rz ((w.alloc (.cells #[.int .i64 0, .int .i64 0, .string ⟨#[]⟩, .bool false] 57)).alloc (.cells nd 86)) w.heap.size ∧ Row ((w.alloc (.cells #[.int .i64 0, .int .i64 0, .string ⟨#[]⟩, .bool false] 57)).alloc (.cells nd 86)) (w.heap.size + 1) 86 nd ∧ Below w.heap.size w ((w.alloc (.cells #[.int .i64 0, .int .i64 0, .string ⟨#[]⟩, .bool false] 57)).alloc (.cells nd 86)) :=
  ⟨(Row.made w _ _).alloc _, by simpa using Row.made (w.alloc (.cells #[.int .i64 0, .int .i64 0, .string ⟨#[]⟩, .bool false] 57)) 86 nd, ((Below.refl _ w).alloc (Nat.le_refl _) _).alloc (by simp) _⟩
set_option maxHeartbeats 2000000 in
theorem ref_con (v en : Value) (l : List Nd) (j : Nat) (k i : Int) (s : ByteArray) (b : Bool) (w : World) (hl : Ns w w.heap.size v l) (hj : l[j]? = some ⟨1, k, i, s, b, ⟨#[]⟩, ⟨#[]⟩⟩) :
    Calls Try.prog 33 #[v, en, .int .i64 (j : Int)] w (RfPost w (some ⟨k, i, s, b⟩) j) := by
  obtain ⟨g, o, n, c, rfl, hjn, hnc, hc9, hg, c0, c1, c2, c3, c4, c5, c6⟩ := ns_at hl hj
  have hX : Below w.heap.size w (w.alloc (.cells #[.int .i64 0, .int .i64 0, .string ⟨#[]⟩, .bool false] 57)) := (Below.refl _ w).alloc (Nat.le_refl _) _
  dsimp only at c0 c1 c2 c3 c4 c5 c6
  have k0 := (hX.cell (p := ⟨g, o + j * 7, none⟩) hg).trans c0
  have k1 := (hX.cell (p := ⟨g, o + j * 7 + 1, none⟩) hg).trans c1
  have k2 := (hX.cell (p := ⟨g, o + j * 7 + 2, none⟩) hg).trans c2
  have k3 := (hX.cell (p := ⟨g, o + j * 7 + 3, none⟩) hg).trans c3
  have k4 := (hX.cell (p := ⟨g, o + j * 7 + 4, none⟩) hg).trans c4
  have k5 := (hX.cell (p := ⟨g, o + j * 7 + 5, none⟩) hg).trans c5
  have k6 := (hX.cell (p := ⟨g, o + j * 7 + 6, none⟩) hg).trans c6
  have HNR : Hid (Rz ((w.alloc (.cells #[.int .i64 0, .int .i64 0, .string ⟨#[]⟩, .bool false] 57)).alloc (.cells #[.int .i64 1, .int .i64 k, .int .i64 i, .string s, .bool b, .string ⟨#[]⟩, .string ⟨#[]⟩] 86)) w.heap.size ∧ Row ((w.alloc (.cells #[.int .i64 0, .int .i64 0, .string ⟨#[]⟩, .bool false] 57)).alloc (.cells #[.int .i64 1, .int .i64 k, .int .i64 i, .string s, .bool b, .string ⟨#[]⟩, .string ⟨#[]⟩] 86)) (w.heap.size + 1) 86 #[.int .i64 1, .int .i64 k, .int .i64 i, .string s, .bool b, .string ⟨#[]⟩, .string ⟨#[]⟩] ∧ Below w.heap.size w ((w.alloc (.cells #[.int .i64 0, .int .i64 0, .string ⟨#[]⟩, .bool false] 57)).alloc (.cells #[.int .i64 1, .int .i64 k, .int .i64 i, .string s, .bool b, .string ⟨#[]⟩, .string ⟨#[]⟩] 86))) := Lib.hid nrows
  clear c0 c1 c2 c3 c4 c5 c6 hX hl hj
  have hjz : (j : Int) < (n : Int) := by omega
  go_enter Try.func33, Try.ntmps33
  go_wp2_with fail
  refine (refParts_is 1 0 _ rfl).mono ?_
  rintro e w1 ⟨rfl, rfl⟩
  generalize hW : ((w.alloc (.cells #[.int .i64 0, .int .i64 0, .string ⟨#[]⟩, .bool false] 57)).alloc (.cells #[.int .i64 1, .int .i64 k, .int .i64 i, .string s, .bool b, .string ⟨#[]⟩, .string ⟨#[]⟩] 86)) = W at HNR ⊢
  clear hW k0 k1 k2 k3 k4 k5 k6
  obtain ⟨hz, hr, hb⟩ := HNR.out
  have HZ1 := Lib.hid hz
  have HB := Lib.hid hb
  have n0 : W.cell? ⟨w.heap.size + 1, 0, none⟩ = some (.int .i64 1) := (hr.cell 0).trans rfl
  have n1 : W.cell? ⟨w.heap.size + 1, 1, none⟩ = some (.int .i64 k) := (hr.cell 1).trans rfl
  have n2 : W.cell? ⟨w.heap.size + 1, 2, none⟩ = some (.int .i64 i) := (hr.cell 2).trans rfl
  have n3 : W.cell? ⟨w.heap.size + 1, 3, none⟩ = some (.string s) := (hr.cell 3).trans rfl
  have n4 : W.cell? ⟨w.heap.size + 1, 4, none⟩ = some (.bool b) := (hr.cell 4).trans rfl
  clear hz hr hb HNR
  obtain ⟨hlt1, p10, p11, p12, p13, f10, f11, f12, f13⟩ := HZ1.out.facts
  go_wp2
  obtain ⟨k0, k1, k2, k3⟩ := four (put4 HZ1.out (.int .i64 k) (.int .i64 i) (.string s) (.bool b))
  exact bodyPost_ret (v := .tuple #[.agg #[.int .i64 k, .int .i64 i, .string s, .bool b], .bool true, .int .i64 (j : Int)]) (by simp [results, Try.results33, go_sem, k0, k1, k2, k3]; try rfl) rfl (rfpost_yes rfl (by first | exact below4 HB.out (w.heap.size) (Nat.le_refl _) _ _ _ _ | exact (below4 HB.out (w.heap.size) (Nat.le_refl _) _ _ _ _).drew))
set_option maxHeartbeats 4000000 in
theorem ref_not (v en : Value) (l : List Nd) (j fr : Nat) (r : Option VV) (w : World) (hl : Ns w w.heap.size v l) (hj : l[j + 1]? = some (opn 13)) (hcl : ∀ y, r = some y → In64 y.i)
    (hi : ∀ X, Below w.heap.size w X → Calls Try.prog 33 #[v, en, .int .i64 (j : Int)] X (RfPost X r fr)) :
    Calls Try.prog 33 #[v, en, .int .i64 ((j : Int) + 1)] w (RfPost w (r.bind fun x => opM 13 [x]) fr) := by
  have HI := Lib.hid hi
  unfold opn at hj
  obtain ⟨g, o, n, c, rfl, hjn, hnc, hc9, hg, c0, c1, c2, c3, c4, c5, c6⟩ := ns_at hl hj
  have hX : Below w.heap.size w (w.alloc (.cells #[.int .i64 0, .int .i64 0, .string ⟨#[]⟩, .bool false] 57)) := (Below.refl _ w).alloc (Nat.le_refl _) _
  dsimp only at c0 c1 c2 c3 c4 c5 c6
  have k0 := (hX.cell (p := ⟨g, o + (j + 1) * 7, none⟩) hg).trans c0
  have k1 := (hX.cell (p := ⟨g, o + (j + 1) * 7 + 1, none⟩) hg).trans c1
  have k2 := (hX.cell (p := ⟨g, o + (j + 1) * 7 + 2, none⟩) hg).trans c2
  have k3 := (hX.cell (p := ⟨g, o + (j + 1) * 7 + 3, none⟩) hg).trans c3
  have k4 := (hX.cell (p := ⟨g, o + (j + 1) * 7 + 4, none⟩) hg).trans c4
  have k5 := (hX.cell (p := ⟨g, o + (j + 1) * 7 + 5, none⟩) hg).trans c5
  have k6 := (hX.cell (p := ⟨g, o + (j + 1) * 7 + 6, none⟩) hg).trans c6
  have HNR : Hid (Rz ((w.alloc (.cells #[.int .i64 0, .int .i64 0, .string ⟨#[]⟩, .bool false] 57)).alloc (.cells #[.int .i64 13, .int .i64 0, .int .i64 0, .string ⟨#[]⟩, .bool false, .string ⟨#[]⟩, .string ⟨#[]⟩] 86)) w.heap.size ∧ Row ((w.alloc (.cells #[.int .i64 0, .int .i64 0, .string ⟨#[]⟩, .bool false] 57)).alloc (.cells #[.int .i64 13, .int .i64 0, .int .i64 0, .string ⟨#[]⟩, .bool false, .string ⟨#[]⟩, .string ⟨#[]⟩] 86)) (w.heap.size + 1) 86 #[.int .i64 13, .int .i64 0, .int .i64 0, .string ⟨#[]⟩, .bool false, .string ⟨#[]⟩, .string ⟨#[]⟩] ∧ Below w.heap.size w ((w.alloc (.cells #[.int .i64 0, .int .i64 0, .string ⟨#[]⟩, .bool false] 57)).alloc (.cells #[.int .i64 13, .int .i64 0, .int .i64 0, .string ⟨#[]⟩, .bool false, .string ⟨#[]⟩, .string ⟨#[]⟩] 86))) := Lib.hid nrows
  clear c0 c1 c2 c3 c4 c5 c6 hX hl hj
  have hjz : (j : Int) + 1 < (n : Int) := by omega
  have hjt : ((j : Int) + 1).toNat = j + 1 := by omega
  have HCL := Lib.hid hcl
  clear hi hcl
  go_enter Try.func33, Try.ntmps33
  go_wp2_with fail
  refine (refParts_is 13 1 _ rfl).mono ?_
  rintro e w1 ⟨rfl, rfl⟩
  generalize hW : ((w.alloc (.cells #[.int .i64 0, .int .i64 0, .string ⟨#[]⟩, .bool false] 57)).alloc (.cells #[.int .i64 13, .int .i64 0, .int .i64 0, .string ⟨#[]⟩, .bool false, .string ⟨#[]⟩, .string ⟨#[]⟩] 86)) = W at HNR ⊢
  clear hW k0 k1 k2 k3 k4 k5 k6
  obtain ⟨hz, hr, hb⟩ := HNR.out
  have HZ := Lib.hid hz
  have HB := Lib.hid hb
  have HR := Lib.hid hr
  clear hz hr hb HNR
  go_wp2_with fail
  refine (HI.out W HB.out).mono ?_
  rintro e w2 ⟨ck, ci, cs, cb, rfl, hy, hb2⟩
  have HB2 := Lib.hid (HB.out.trans (hb2.mono HB.out.size))
  have HZ2 : Hid (Rz w2 w.heap.size) := Lib.hid (Row.below HZ.out hb2 HZ.out.lt)
  have HR2 : Hid (Row w2 (w.heap.size + 1) 86 #[.int .i64 13, .int .i64 0, .int .i64 0, .string ⟨#[]⟩, .bool false, .string ⟨#[]⟩, .string ⟨#[]⟩]) := Lib.hid (Row.below HR.out hb2 HR.out.lt)
  have HY := Lib.hid hy
  obtain ⟨ok, hok⟩ : ∃ ok, r.isSome = ok := ⟨_, rfl⟩
  have HOK := Lib.hid hok
  rw [hok]
  clear hb2 hy HB HZ HR hok
  obtain ⟨W3, hW3⟩ : ∃ W3, w2.alloc (.cells #[.int .i64 ck, .int .i64 ci, .string cs, .bool cb] 57) = W3 := ⟨_, rfl⟩
  have HB3 : Hid (Below w.heap.size w W3) := Lib.hid (by rw [← hW3]; exact HB2.out.alloc HB2.out.size _)
  have HZ3 : Hid (Rz W3 w.heap.size) := Lib.hid (by rw [← hW3]; exact HZ2.out.alloc _)
  have HR3 : Hid (Row W3 (w.heap.size + 1) 86 #[.int .i64 13, .int .i64 0, .int .i64 0, .string ⟨#[]⟩, .bool false, .string ⟨#[]⟩, .string ⟨#[]⟩]) := Lib.hid (by rw [← hW3]; exact HR2.out.alloc _)
  have HV3 : Hid (Row W3 w2.heap.size 57 #[.int .i64 ck, .int .i64 ci, .string cs, .bool cb]) := Lib.hid (by rw [← hW3]; exact Row.made _ _ _)
  go_upto_region 19 with fail
  have hvb : w.heap.size < w2.heap.size := HZ2.out.lt
  generalize w2.heap.size = vb at HV3 hvb ⊢
  have hne1 : vb ≠ w.heap.size := by omega
  have hne2 : w.heap.size ≠ vb := by omega
  clear hW3 HB2 HZ2 HR2
  have n0 : W3.cell? ⟨w.heap.size + 1, 0, none⟩ = some (.int .i64 13) := (HR3.out.cell 0).trans rfl
  have v0 : W3.cell? ⟨vb, 0, none⟩ = some (.int .i64 ck) := (HV3.out.cell 0).trans rfl
  have v1 : W3.cell? ⟨vb, 1, none⟩ = some (.int .i64 ci) := (HV3.out.cell 1).trans rfl
  have v3 : W3.cell? ⟨vb, 3, none⟩ = some (.bool cb) := (HV3.out.cell 3).trans rfl
  obtain ⟨hlt3, p30, p31, p32, p33, f30, f31, f32, f33⟩ := HZ3.out.facts
  go_upto_region 20 with fail
  cases ok with
  | false =>
    have hr0 : r = none := by have := HOK.out; cases r with
      | none => rfl
      | some y => cases this
    subst hr0
    go_region
    go_wp2
    obtain ⟨k0, k1, k2, k3⟩ := four (put4 HZ3.out (.int .i64 3) (.int .i64 0) (.string ⟨#[]⟩) (.bool (!cb)))
    exact bodyPost_ret (v := .tuple #[.agg #[.int .i64 3, .int .i64 0, .string ⟨#[]⟩, .bool (!cb)], .bool false, .int .i64 (fr : Int)]) (by simp [results, Try.results33, go_sem, k0, k1, k2, k3]; try rfl) rfl (rfpost_no rfl (by first | exact below4 HB3.out (w.heap.size) (Nat.le_refl _) _ _ _ _ | exact (below4 HB3.out (w.heap.size) (Nat.le_refl _) _ _ _ _).drew))
  | true =>
    obtain ⟨y, rfl⟩ : ∃ y, r = some y := by have := HOK.out; cases r with
      | none => cases this
      | some y => exact ⟨y, rfl⟩
    obtain rfl := HY.out y rfl
    by_cases h3 : ck = 3
    · subst h3
      go_region
      go_wp2
      obtain ⟨k0, k1, k2, k3⟩ := four (put4 HZ3.out (.int .i64 3) (.int .i64 0) (.string ⟨#[]⟩) (.bool (!cb)))
      exact bodyPost_ret (v := .tuple #[.agg #[.int .i64 3, .int .i64 0, .string ⟨#[]⟩, .bool (!cb)], .bool true, .int .i64 (fr : Int)]) (by simp [results, Try.results33, go_sem, k0, k1, k2, k3]; try rfl) rfl (rfpost_yes (by simp [opM, trV]) (by first | exact below4 HB3.out (w.heap.size) (Nat.le_refl _) _ _ _ _ | exact (below4 HB3.out (w.heap.size) (Nat.le_refl _) _ _ _ _).drew))
    · have h3' : (ck == 3) = false := by simpa using h3
      have HH3 := Lib.hid h3
      clear h3
      go_region
      go_wp2
      obtain ⟨k0, k1, k2, k3⟩ := four (put4 HZ3.out (.int .i64 3) (.int .i64 0) (.string ⟨#[]⟩) (.bool (!cb)))
      exact bodyPost_ret (v := .tuple #[.agg #[.int .i64 3, .int .i64 0, .string ⟨#[]⟩, .bool (!cb)], .bool false, .int .i64 (fr : Int)]) (by simp [results, Try.results33, go_sem, k0, k1, k2, k3]; try rfl) rfl (rfpost_no (by have := HH3.out; simp [opM, this]) (by first | exact below4 HB3.out (w.heap.size) (Nat.le_refl _) _ _ _ _ | exact (below4 HB3.out (w.heap.size) (Nat.le_refl _) _ _ _ _).drew))
set_option maxHeartbeats 4000000 in
theorem ref_neg (v en : Value) (l : List Nd) (j fr : Nat) (r : Option VV) (w : World) (hl : Ns w w.heap.size v l) (hj : l[j + 1]? = some (opn 3)) (hcl : ∀ y, r = some y → In64 y.i)
    (hi : ∀ X, Below w.heap.size w X → Calls Try.prog 33 #[v, en, .int .i64 (j : Int)] X (RfPost X r fr)) :
    Calls Try.prog 33 #[v, en, .int .i64 ((j : Int) + 1)] w (RfPost w (r.bind fun x => opM 3 [x]) fr) := by
  have HI := Lib.hid hi
  unfold opn at hj
  obtain ⟨g, o, n, c, rfl, hjn, hnc, hc9, hg, c0, c1, c2, c3, c4, c5, c6⟩ := ns_at hl hj
  have hX : Below w.heap.size w (w.alloc (.cells #[.int .i64 0, .int .i64 0, .string ⟨#[]⟩, .bool false] 57)) := (Below.refl _ w).alloc (Nat.le_refl _) _
  dsimp only at c0 c1 c2 c3 c4 c5 c6
  have k0 := (hX.cell (p := ⟨g, o + (j + 1) * 7, none⟩) hg).trans c0
  have k1 := (hX.cell (p := ⟨g, o + (j + 1) * 7 + 1, none⟩) hg).trans c1
  have k2 := (hX.cell (p := ⟨g, o + (j + 1) * 7 + 2, none⟩) hg).trans c2
  have k3 := (hX.cell (p := ⟨g, o + (j + 1) * 7 + 3, none⟩) hg).trans c3
  have k4 := (hX.cell (p := ⟨g, o + (j + 1) * 7 + 4, none⟩) hg).trans c4
  have k5 := (hX.cell (p := ⟨g, o + (j + 1) * 7 + 5, none⟩) hg).trans c5
  have k6 := (hX.cell (p := ⟨g, o + (j + 1) * 7 + 6, none⟩) hg).trans c6
  have HNR : Hid (Rz ((w.alloc (.cells #[.int .i64 0, .int .i64 0, .string ⟨#[]⟩, .bool false] 57)).alloc (.cells #[.int .i64 3, .int .i64 0, .int .i64 0, .string ⟨#[]⟩, .bool false, .string ⟨#[]⟩, .string ⟨#[]⟩] 86)) w.heap.size ∧ Row ((w.alloc (.cells #[.int .i64 0, .int .i64 0, .string ⟨#[]⟩, .bool false] 57)).alloc (.cells #[.int .i64 3, .int .i64 0, .int .i64 0, .string ⟨#[]⟩, .bool false, .string ⟨#[]⟩, .string ⟨#[]⟩] 86)) (w.heap.size + 1) 86 #[.int .i64 3, .int .i64 0, .int .i64 0, .string ⟨#[]⟩, .bool false, .string ⟨#[]⟩, .string ⟨#[]⟩] ∧ Below w.heap.size w ((w.alloc (.cells #[.int .i64 0, .int .i64 0, .string ⟨#[]⟩, .bool false] 57)).alloc (.cells #[.int .i64 3, .int .i64 0, .int .i64 0, .string ⟨#[]⟩, .bool false, .string ⟨#[]⟩, .string ⟨#[]⟩] 86))) := Lib.hid nrows
  clear c0 c1 c2 c3 c4 c5 c6 hX hl hj
  have hjz : (j : Int) + 1 < (n : Int) := by omega
  have hjt : ((j : Int) + 1).toNat = j + 1 := by omega
  have HCL := Lib.hid hcl
  clear hi hcl
  go_enter Try.func33, Try.ntmps33
  go_wp2_with fail
  refine (refParts_is 3 1 _ rfl).mono ?_
  rintro e w1 ⟨rfl, rfl⟩
  generalize hW : ((w.alloc (.cells #[.int .i64 0, .int .i64 0, .string ⟨#[]⟩, .bool false] 57)).alloc (.cells #[.int .i64 3, .int .i64 0, .int .i64 0, .string ⟨#[]⟩, .bool false, .string ⟨#[]⟩, .string ⟨#[]⟩] 86)) = W at HNR ⊢
  clear hW k0 k1 k2 k3 k4 k5 k6
  obtain ⟨hz, hr, hb⟩ := HNR.out
  have HZ := Lib.hid hz
  have HB := Lib.hid hb
  have HR := Lib.hid hr
  clear hz hr hb HNR
  go_wp2_with fail
  refine (HI.out W HB.out).mono ?_
  rintro e w2 ⟨ck, ci, cs, cb, rfl, hy, hb2⟩
  have HB2 := Lib.hid (HB.out.trans (hb2.mono HB.out.size))
  have HZ2 : Hid (Rz w2 w.heap.size) := Lib.hid (Row.below HZ.out hb2 HZ.out.lt)
  have HR2 : Hid (Row w2 (w.heap.size + 1) 86 #[.int .i64 3, .int .i64 0, .int .i64 0, .string ⟨#[]⟩, .bool false, .string ⟨#[]⟩, .string ⟨#[]⟩]) := Lib.hid (Row.below HR.out hb2 HR.out.lt)
  have HY := Lib.hid hy
  obtain ⟨ok, hok⟩ : ∃ ok, r.isSome = ok := ⟨_, rfl⟩
  have HOK := Lib.hid hok
  rw [hok]
  clear hb2 hy HB HZ HR hok
  obtain ⟨W3, hW3⟩ : ∃ W3, w2.alloc (.cells #[.int .i64 ck, .int .i64 ci, .string cs, .bool cb] 57) = W3 := ⟨_, rfl⟩
  have HB3 : Hid (Below w.heap.size w W3) := Lib.hid (by rw [← hW3]; exact HB2.out.alloc HB2.out.size _)
  have HZ3 : Hid (Rz W3 w.heap.size) := Lib.hid (by rw [← hW3]; exact HZ2.out.alloc _)
  have HR3 : Hid (Row W3 (w.heap.size + 1) 86 #[.int .i64 3, .int .i64 0, .int .i64 0, .string ⟨#[]⟩, .bool false, .string ⟨#[]⟩, .string ⟨#[]⟩]) := Lib.hid (by rw [← hW3]; exact HR2.out.alloc _)
  have HV3 : Hid (Row W3 w2.heap.size 57 #[.int .i64 ck, .int .i64 ci, .string cs, .bool cb]) := Lib.hid (by rw [← hW3]; exact Row.made _ _ _)
  go_upto_region 19 with fail
  have hvb : w.heap.size < w2.heap.size := HZ2.out.lt
  generalize w2.heap.size = vb at HV3 hvb ⊢
  have hne1 : vb ≠ w.heap.size := by omega
  have hne2 : w.heap.size ≠ vb := by omega
  clear hW3 HB2 HZ2 HR2
  have n0 : W3.cell? ⟨w.heap.size + 1, 0, none⟩ = some (.int .i64 3) := (HR3.out.cell 0).trans rfl
  have v0 : W3.cell? ⟨vb, 0, none⟩ = some (.int .i64 ck) := (HV3.out.cell 0).trans rfl
  have v1 : W3.cell? ⟨vb, 1, none⟩ = some (.int .i64 ci) := (HV3.out.cell 1).trans rfl
  have v3 : W3.cell? ⟨vb, 3, none⟩ = some (.bool cb) := (HV3.out.cell 3).trans rfl
  obtain ⟨hlt3, p30, p31, p32, p33, f30, f31, f32, f33⟩ := HZ3.out.facts
  go_upto_region 21 with fail
  obtain ⟨z, hz⟩ : ∃ z, IntKind.i64.wrap (-ci) = z := ⟨_, rfl⟩
  cases ok with
  | false =>
    have hr0 : r = none := by have := HOK.out; cases r with
      | none => rfl
      | some y => cases this
    subst hr0
    go_region
    go_wp2
    obtain ⟨k0, k1, k2, k3⟩ := four (put4 HZ3.out (.int .i64 1) (.int .i64 z) (.string ⟨#[]⟩) (.bool false))
    exact bodyPost_ret (v := .tuple #[.agg #[.int .i64 1, .int .i64 z, .string ⟨#[]⟩, .bool false], .bool false, .int .i64 (fr : Int)]) (by simp [results, Try.results33, go_sem, k0, k1, k2, k3]; try rfl) rfl (rfpost_no rfl (by first | exact below4 HB3.out (w.heap.size) (Nat.le_refl _) _ _ _ _ | exact (below4 HB3.out (w.heap.size) (Nat.le_refl _) _ _ _ _).drew))
  | true =>
    obtain ⟨y, rfl⟩ : ∃ y, r = some y := by have := HOK.out; cases r with
      | none => cases this
      | some y => exact ⟨y, rfl⟩
    obtain rfl := HY.out y rfl
    have HIN := Lib.hid (HCL.out _ rfl)
    by_cases h1 : ck = 1
    · subst h1
      by_cases hm : ci = -9223372036854775808
      · have hm' : (ci != -9223372036854775808) = false := by simpa using hm
        have HE : Hid ((some (⟨1, ci, cs, cb⟩ : VV)).bind (fun x => opM 3 [x]) = none) := Lib.hid (by subst hm; simp [opM, inI])
        clear hm
        go_region
        go_wp2
        obtain ⟨k0, k1, k2, k3⟩ := four (put4 HZ3.out (.int .i64 1) (.int .i64 z) (.string ⟨#[]⟩) (.bool false))
        exact bodyPost_ret (v := .tuple #[.agg #[.int .i64 1, .int .i64 z, .string ⟨#[]⟩, .bool false], .bool false, .int .i64 (fr : Int)]) (by simp [results, Try.results33, go_sem, k0, k1, k2, k3]; try rfl) rfl (rfpost_no HE.out (by first | exact below4 HB3.out (w.heap.size) (Nat.le_refl _) _ _ _ _ | exact (below4 HB3.out (w.heap.size) (Nat.le_refl _) _ _ _ _).drew))
      · have hm' : (ci != -9223372036854775808) = true := by simpa using hm
        have HE : Hid ((some (⟨1, ci, cs, cb⟩ : VV)).bind (fun x => opM 3 [x]) = some ⟨1, z, ⟨#[]⟩, false⟩) := Lib.hid (by
          obtain ⟨i1, i2⟩ := HIN.out
          dsimp only at i1 i2
          have hin : -9223372036854775808 ≤ 0 - ci ∧ 0 - ci ≤ 9223372036854775807 := by omega
          have hzz : z = 0 - ci := by rw [← hz, IntKind.wrap_i64]; omega
          simp only [Option.bind, opM]
          rw [if_pos trivial, if_pos trivial, inI_yes hin, if_pos rfl, cutI_yes hin, hzz]
          rfl)
        clear hm
        go_region
        go_wp2
        obtain ⟨k0, k1, k2, k3⟩ := four (put4 HZ3.out (.int .i64 1) (.int .i64 z) (.string ⟨#[]⟩) (.bool false))
        exact bodyPost_ret (v := .tuple #[.agg #[.int .i64 1, .int .i64 z, .string ⟨#[]⟩, .bool false], .bool true, .int .i64 (fr : Int)]) (by simp [results, Try.results33, go_sem, k0, k1, k2, k3]; try rfl) rfl (rfpost_yes HE.out (by first | exact below4 HB3.out (w.heap.size) (Nat.le_refl _) _ _ _ _ | exact (below4 HB3.out (w.heap.size) (Nat.le_refl _) _ _ _ _).drew))
    · have h1' : (ck == 1) = false := by simpa using h1
      have HE : Hid ((some (⟨ck, ci, cs, cb⟩ : VV)).bind (fun x => opM 3 [x]) = none) := Lib.hid (by simp [opM, h1])
      clear h1
      go_region
      go_wp2
      obtain ⟨k0, k1, k2, k3⟩ := four (put4 HZ3.out (.int .i64 1) (.int .i64 z) (.string ⟨#[]⟩) (.bool false))
      exact bodyPost_ret (v := .tuple #[.agg #[.int .i64 1, .int .i64 z, .string ⟨#[]⟩, .bool false], .bool false, .int .i64 (fr : Int)]) (by simp [results, Try.results33, go_sem, k0, k1, k2, k3]; try rfl) rfl (rfpost_no HE.out (by first | exact below4 HB3.out (w.heap.size) (Nat.le_refl _) _ _ _ _ | exact (below4 HB3.out (w.heap.size) (Nat.le_refl _) _ _ _ _).drew))
end Go.Proofs.Ytopbildpeojgoaa.Evl
end

section
namespace Go.Proofs.Ytopbildpeojgoaa.Evl
open Go.RowKit Go.Proofs.Ytopbildpeojgoaa Go.Proofs.Ytopbildpeojgoaa.Ev Go.Proofs.Ytopbildpeojgoaa.Sch Go.Proofs.Ytopbildpeojgoaa.Ty Go.Proofs.Ytopbildpeojgoaa.Num
set_option linter.unusedVariables false
set_option maxRecDepth 100000
theorem opM_ne {o : Int} {a b : VV} (h : ¬ a.k = b.k) : opM o [a, b] = none := by
  simp only [opM]
  split
  · rw [if_neg (fun e => h (e.1.trans e.2.symm))]
  · split
    · rw [if_neg (fun e => h (e.1.trans e.2.symm))]
    · unfold ordV; rw [if_neg h]; rfl
set_option maxHeartbeats 4000000 in
theorem ref_bi (v en : Value) (l : List Nd) (j fa fb : Nat) (hfb : fb + 1 ≤ j) (op : Int) (h1 : 4 ≤ op) (h2 : op ≤ 15) (h3 : ¬ op = 13) (ra rb : Option VV) (w : World) (hl : Ns w w.heap.size v l) (hj : l[j + 1]? = some (opn op)) (ha : ∀ y, ra = some y → Cl y) (hb : ∀ y, rb = some y → Cl y)
    (hib : ∀ X, Below w.heap.size w X → Calls Try.prog 33 #[v, en, .int .i64 (j : Int)] X (RfPost X rb (fb + 1)))
    (hia : ∀ X, Below w.heap.size w X → Calls Try.prog 33 #[v, en, .int .i64 (fb : Int)] X (RfPost X ra fa)) :
    Calls Try.prog 33 #[v, en, .int .i64 ((j : Int) + 1)] w (RfPost w (ra.bind fun x => rb.bind fun y => opM op [x, y]) fa) := by
  have HIA := Lib.hid hia
  have HIB := Lib.hid hib
  have HCA := Lib.hid ha
  have HCB := Lib.hid hb
  have HP2 : Hid (partsI op = 2) := Lib.hid (partsI_2 (by omega) h2 (by omega))
  have HBO := Lib.hid (fun (a b : VV) hk ha hb X => both_any op h1 h2 h3 a b hk ha hb X)
  unfold opn at hj
  obtain ⟨g, o, n, c, rfl, hjn, hnc, hc9, hg, c0, c1, c2, c3, c4, c5, c6⟩ := ns_at hl hj
  have hX : Below w.heap.size w (w.alloc (.cells #[.int .i64 0, .int .i64 0, .string ⟨#[]⟩, .bool false] 57)) := (Below.refl _ w).alloc (Nat.le_refl _) _
  dsimp only at c0 c1 c2 c3 c4 c5 c6
  have k0 := (hX.cell (p := ⟨g, o + (j + 1) * 7, none⟩) hg).trans c0
  have k1 := (hX.cell (p := ⟨g, o + (j + 1) * 7 + 1, none⟩) hg).trans c1
  have k2 := (hX.cell (p := ⟨g, o + (j + 1) * 7 + 2, none⟩) hg).trans c2
  have k3 := (hX.cell (p := ⟨g, o + (j + 1) * 7 + 3, none⟩) hg).trans c3
  have k4 := (hX.cell (p := ⟨g, o + (j + 1) * 7 + 4, none⟩) hg).trans c4
  have k5 := (hX.cell (p := ⟨g, o + (j + 1) * 7 + 5, none⟩) hg).trans c5
  have k6 := (hX.cell (p := ⟨g, o + (j + 1) * 7 + 6, none⟩) hg).trans c6
  have HNR : Hid (Rz ((w.alloc (.cells #[.int .i64 0, .int .i64 0, .string ⟨#[]⟩, .bool false] 57)).alloc (.cells #[.int .i64 op, .int .i64 0, .int .i64 0, .string ⟨#[]⟩, .bool false, .string ⟨#[]⟩, .string ⟨#[]⟩] 86)) w.heap.size ∧ Row ((w.alloc (.cells #[.int .i64 0, .int .i64 0, .string ⟨#[]⟩, .bool false] 57)).alloc (.cells #[.int .i64 op, .int .i64 0, .int .i64 0, .string ⟨#[]⟩, .bool false, .string ⟨#[]⟩, .string ⟨#[]⟩] 86)) (w.heap.size + 1) 86 #[.int .i64 op, .int .i64 0, .int .i64 0, .string ⟨#[]⟩, .bool false, .string ⟨#[]⟩, .string ⟨#[]⟩] ∧ Below w.heap.size w ((w.alloc (.cells #[.int .i64 0, .int .i64 0, .string ⟨#[]⟩, .bool false] 57)).alloc (.cells #[.int .i64 op, .int .i64 0, .int .i64 0, .string ⟨#[]⟩, .bool false, .string ⟨#[]⟩, .string ⟨#[]⟩] 86))) := Lib.hid nrows
  clear c0 c1 c2 c3 c4 c5 c6 hX hl hj
  have hjz : (j : Int) + 1 < (n : Int) := by omega
  have hjt : ((j : Int) + 1).toNat = j + 1 := by omega
  have hfz : (fb : Int) + 1 ≤ (j : Int) := by omega
  clear ha hb hia hib h1 h2 h3 hfb
  go_enter Try.func33, Try.ntmps33
  go_wp2_with fail
  refine (refParts_is op 2 _ HP2.out).mono ?_
  rintro e w1 ⟨rfl, rfl⟩
  generalize hW : ((w.alloc (.cells #[.int .i64 0, .int .i64 0, .string ⟨#[]⟩, .bool false] 57)).alloc (.cells #[.int .i64 op, .int .i64 0, .int .i64 0, .string ⟨#[]⟩, .bool false, .string ⟨#[]⟩, .string ⟨#[]⟩] 86)) = W at HNR ⊢
  clear hW k0 k1 k2 k3 k4 k5 k6
  obtain ⟨hz, hr, hb⟩ := HNR.out
  have HZ := Lib.hid hz
  have HB := Lib.hid hb
  have HR := Lib.hid hr
  clear hz hr hb HNR
  go_wp2_with fail
  refine (HIB.out W HB.out).mono ?_
  rintro e w2 ⟨bk, bi, bs, bb, rfl, hy, hb2⟩
  have HYB := Lib.hid hy
  obtain ⟨okb, hokb⟩ : ∃ ok, rb.isSome = ok := ⟨_, rfl⟩
  have HOKB := Lib.hid hokb
  rw [hokb]
  obtain ⟨W3, hW3⟩ : ∃ W3, w2.alloc (.cells #[.int .i64 bk, .int .i64 bi, .string bs, .bool bb] 57) = W3 := ⟨_, rfl⟩
  have hg3 : Below W.heap.size W W3 := by rw [← hW3]; exact hb2.alloc hb2.size _
  have hv3 : Row W3 w2.heap.size 57 #[.int .i64 bk, .int .i64 bi, .string bs, .bool bb] := by rw [← hW3]; exact Row.made _ _ _
  have HG3 := Lib.hid hg3
  have HV3 := Lib.hid hv3
  have hvb : W.heap.size ≤ w2.heap.size := hb2.size
  clear hb2 hy hokb hg3 hv3
  go_wp2_with fail
  generalize w2.heap.size = vb at HV3 hvb ⊢
  clear hW3
  refine (HIA.out W3 (HB.out.trans (HG3.out.mono HB.out.size))).mono ?_
  rintro e w4 ⟨ak, ai, sa, ab, rfl, hy, hb4⟩
  have HYA := Lib.hid hy
  obtain ⟨oka, hoka⟩ : ∃ ok, ra.isSome = ok := ⟨_, rfl⟩
  have HOKA := Lib.hid hoka
  rw [hoka]
  obtain ⟨W5, hW5⟩ : ∃ W5, w4.alloc (.cells #[.int .i64 ak, .int .i64 ai, .string sa, .bool ab] 57) = W5 := ⟨_, rfl⟩
  have hg5 : Below W3.heap.size W3 W5 := by rw [← hW5]; exact hb4.alloc hb4.size _
  have HA5 : Hid (Row W5 w4.heap.size 57 #[.int .i64 ak, .int .i64 ai, .string sa, .bool ab]) := Lib.hid (by rw [← hW5]; exact Row.made _ _ _)
  have HV5 : Hid (Row W5 vb 57 #[.int .i64 bk, .int .i64 bi, .string bs, .bool bb]) := Lib.hid (Row.below HV3.out hg5 HV3.out.lt)
  have HZ5 : Hid (Rz W5 w.heap.size) := Lib.hid (Row.below (Row.below HZ.out HG3.out HZ.out.lt) hg5 (Nat.lt_of_lt_of_le HZ.out.lt HG3.out.size))
  have HR5 : Hid (Row W5 (w.heap.size + 1) 86 #[.int .i64 op, .int .i64 0, .int .i64 0, .string ⟨#[]⟩, .bool false, .string ⟨#[]⟩, .string ⟨#[]⟩]) := Lib.hid (Row.below (Row.below HR.out HG3.out HR.out.lt) hg5 (Nat.lt_of_lt_of_le HR.out.lt HG3.out.size))
  have HB5 : Hid (Below w.heap.size w W5) := Lib.hid ((HB.out.trans (HG3.out.mono HB.out.size)).trans (hg5.mono (HB.out.trans (HG3.out.mono HB.out.size)).size))
  clear hb4 hy hoka hg5
  go_upto_region 24 with fail
  generalize w4.heap.size = va at HA5 ⊢
  clear hW5 HV3 HG3 HZ HR HB hvb
  have n0 : W5.cell? ⟨w.heap.size + 1, 0, none⟩ = some (.int .i64 op) := (HR5.out.cell 0).trans rfl
  have v0 : W5.cell? ⟨vb, 0, none⟩ = some (.int .i64 bk) := (HV5.out.cell 0).trans rfl
  have v1 : W5.cell? ⟨vb, 1, none⟩ = some (.int .i64 bi) := (HV5.out.cell 1).trans rfl
  have v2 : W5.cell? ⟨vb, 2, none⟩ = some (.string bs) := (HV5.out.cell 2).trans rfl
  have v3 : W5.cell? ⟨vb, 3, none⟩ = some (.bool bb) := (HV5.out.cell 3).trans rfl
  have u0 : W5.cell? ⟨va, 0, none⟩ = some (.int .i64 ak) := (HA5.out.cell 0).trans rfl
  have u1 : W5.cell? ⟨va, 1, none⟩ = some (.int .i64 ai) := (HA5.out.cell 1).trans rfl
  have u2 : W5.cell? ⟨va, 2, none⟩ = some (.string sa) := (HA5.out.cell 2).trans rfl
  have u3 : W5.cell? ⟨va, 3, none⟩ = some (.bool ab) := (HA5.out.cell 3).trans rfl
  obtain ⟨hlt5, p50, p51, p52, p53, f50, f51, f52, f53⟩ := HZ5.out.facts
  cases oka with
  | false =>
    obtain rfl : ra = none := by have := HOKA.out; cases ra with
      | none => rfl
      | some y => cases this
    go_wp2
    obtain ⟨k0, k1, k2, k3⟩ := four (put4 HZ5.out (.int .i64 0) (.int .i64 0) (.string ⟨#[]⟩) (.bool false))
    exact bodyPost_ret (v := .tuple #[.agg #[.int .i64 0, .int .i64 0, .string ⟨#[]⟩, .bool false], .bool false, .int .i64 (fa : Int)]) (by simp [results, Try.results33, go_sem, k0, k1, k2, k3]; try rfl) rfl (rfpost_no rfl (by first | exact below4 HB5.out (w.heap.size) (Nat.le_refl _) _ _ _ _ | exact (below4 HB5.out (w.heap.size) (Nat.le_refl _) _ _ _ _).drew))
  | true =>
    obtain ⟨y, rfl⟩ : ∃ y, ra = some y := by have := HOKA.out; cases ra with
      | none => cases this
      | some y => exact ⟨y, rfl⟩
    obtain rfl := HYA.out y rfl
    cases okb with
    | false =>
      obtain rfl : rb = none := by have := HOKB.out; cases rb with
        | none => rfl
        | some y => cases this
      go_wp2
      obtain ⟨k0, k1, k2, k3⟩ := four (put4 HZ5.out (.int .i64 0) (.int .i64 0) (.string ⟨#[]⟩) (.bool false))
      exact bodyPost_ret (v := .tuple #[.agg #[.int .i64 0, .int .i64 0, .string ⟨#[]⟩, .bool false], .bool false, .int .i64 (fa : Int)]) (by simp [results, Try.results33, go_sem, k0, k1, k2, k3]; try rfl) rfl (rfpost_no rfl (by first | exact below4 HB5.out (w.heap.size) (Nat.le_refl _) _ _ _ _ | exact (below4 HB5.out (w.heap.size) (Nat.le_refl _) _ _ _ _).drew))
    | true =>
      obtain ⟨z, rfl⟩ : ∃ y, rb = some y := by have := HOKB.out; cases rb with
        | none => cases this
        | some y => exact ⟨y, rfl⟩
      obtain rfl := HYB.out z rfl
      by_cases hk : ak = bk
      · subst hk
        have HC := Lib.hid (HBO.out ⟨ak, ai, sa, ab⟩ ⟨ak, bi, bs, bb⟩ rfl (HCA.out _ rfl) (HCB.out _ rfl))
        clear HBO HIA HIB HYA HYB
        go_wp2_with fail
        refine (HC.out _).mono ?_
        rintro e w6 ⟨rk, ri, rs, rt, rfl, hy, hb6⟩
        have HY := Lib.hid hy
        obtain ⟨ro, hro⟩ : ∃ ro, (opM op [⟨ak, ai, sa, ab⟩, ⟨ak, bi, bs, bb⟩]).isSome = ro := ⟨_, rfl⟩
        have HRO := Lib.hid hro
        rw [hro]
        have HB6 := Lib.hid (HB5.out.trans (hb6.mono HB5.out.size))
        have HZ6 : Hid (Rz w6 w.heap.size) := Lib.hid (Row.below HZ5.out hb6 HZ5.out.lt)
        obtain ⟨W7, hW7⟩ : ∃ W7, w6.alloc (.cells #[.int .i64 rk, .int .i64 ri, .string rs, .bool rt] 57) = W7 := ⟨_, rfl⟩
        have HZ7 : Hid (Rz W7 w.heap.size) := Lib.hid (by rw [← hW7]; exact HZ6.out.alloc _)
        have HB7 : Hid (Below w.heap.size w W7) := Lib.hid (by rw [← hW7]; exact HB6.out.alloc HB6.out.size _)
        have HV7 : Hid (Row W7 w6.heap.size 57 #[.int .i64 rk, .int .i64 ri, .string rs, .bool rt]) := Lib.hid (by rw [← hW7]; exact Row.made _ _ _)
        clear hb6 hy hro p50 p51 p52 p53 f50 f51 f52 f53 hlt5 n0 v0 v1 v2 v3 u0 u1 u2 u3
        go_upto_region 27 with fail
        generalize w6.heap.size = vr at HV7 ⊢
        clear hW7
        have t0 : W7.cell? ⟨vr, 0, none⟩ = some (.int .i64 rk) := (HV7.out.cell 0).trans rfl
        have t1 : W7.cell? ⟨vr, 1, none⟩ = some (.int .i64 ri) := (HV7.out.cell 1).trans rfl
        have t2 : W7.cell? ⟨vr, 2, none⟩ = some (.string rs) := (HV7.out.cell 2).trans rfl
        have t3 : W7.cell? ⟨vr, 3, none⟩ = some (.bool rt) := (HV7.out.cell 3).trans rfl
        obtain ⟨hlt7, p70, p71, p72, p73, f70, f71, f72, f73⟩ := HZ7.out.facts
        go_wp2
        obtain ⟨k0, k1, k2, k3⟩ := four (put4 HZ7.out (.int .i64 rk) (.int .i64 ri) (.string rs) (.bool rt))
        exact bodyPost_ret (v := .tuple #[.agg #[.int .i64 rk, .int .i64 ri, .string rs, .bool rt], .bool ro, .int .i64 (fa : Int)]) (by simp [results, Try.results33, go_sem, k0, k1, k2, k3]; try rfl) rfl (⟨rk, ri, rs, rt, by rw [← HRO.out]; rfl, HY.out, by first | exact below4 HB7.out (w.heap.size) (Nat.le_refl _) _ _ _ _ | exact (below4 HB7.out (w.heap.size) (Nat.le_refl _) _ _ _ _).drew⟩)
      · have hkb : (ak != bk) = true := by simpa using hk
        have HE : Hid (((some (⟨ak, ai, sa, ab⟩ : VV)).bind fun x => (some (⟨bk, bi, bs, bb⟩ : VV)).bind fun y => opM op [x, y]) = none) := Lib.hid (opM_ne hk)
        clear hk
        go_wp2
        obtain ⟨k0, k1, k2, k3⟩ := four (put4 HZ5.out (.int .i64 0) (.int .i64 0) (.string ⟨#[]⟩) (.bool false))
        exact bodyPost_ret (v := .tuple #[.agg #[.int .i64 0, .int .i64 0, .string ⟨#[]⟩, .bool false], .bool false, .int .i64 (fa : Int)]) (by simp [results, Try.results33, go_sem, k0, k1, k2, k3]; try rfl) rfl (rfpost_no HE.out (by first | exact below4 HB5.out (w.heap.size) (Nat.le_refl _) _ _ _ _ | exact (below4 HB5.out (w.heap.size) (Nat.le_refl _) _ _ _ _).drew))
end Go.Proofs.Ytopbildpeojgoaa.Evl
end

section
namespace Go.Proofs.Ytopbildpeojgoaa.Evl
open Go.RowKit Go.Proofs.Ytopbildpeojgoaa Go.Proofs.Ytopbildpeojgoaa.Ev Go.Proofs.Ytopbildpeojgoaa.Sch Go.Proofs.Ytopbildpeojgoaa.Ty Go.Proofs.Ytopbildpeojgoaa.Num
set_option linter.unusedVariables false
set_option maxRecDepth 100000
/-- The reference's Eval at a tree, where its fields' parts are told of. -/
theorem ref_tree (v en : Value) (l : List Nd) (ts : List Ty) (es : List Bn) (w0 : World) (hl : Ns w0 w0.heap.size v l) (hec : EnC es)
    (hf : ∀ (j : Nat) (va fd : ByteArray), l[j]? = some ⟨2, 0, 0, ⟨#[]⟩, false, va, fd⟩ → ∀ w, Below w0.heap.size w0 w → Calls Try.prog 33 #[v, en, .int .i64 (j : Int)] w (RfPost w (fldM ts es va fd) j)) {t : Tr} (ht : t.Ok) :
    ∀ (pre post : List Nd), l = pre ++ (t.flat ++ post) → ∀ w, Below w0.heap.size w0 w → Calls Try.prog 33 #[v, en, .int .i64 ((pre.length + t.flat.length : Nat) - 1 : Int)] w (RfPost w (t.sem ts es) pre.length) := by
  induction ht with
  | @con k i s b hv hi =>
    intro pre post e w hw
    have hj : l[pre.length]? = some ⟨1, k, i, s, b, ⟨#[]⟩, ⟨#[]⟩⟩ := by rw [e]; simp [Tr.flat]
    have e1 : ((pre.length + (Tr.con k i s b).flat.length : Nat) - 1 : Int) = (pre.length : Int) := by simp [Tr.flat] <;> omega
    rw [e1]
    exact ref_con v en l pre.length k i s b w (hl.below hw hw.size) hj
  | fld va fd =>
    intro pre post e w hw
    have hj : l[pre.length]? = some ⟨2, 0, 0, ⟨#[]⟩, false, va, fd⟩ := by rw [e]; simp [Tr.flat]
    have e1 : ((pre.length + (Tr.fld va fd).flat.length : Nat) - 1 : Int) = (pre.length : Int) := by simp [Tr.flat] <;> omega
    rw [e1]
    exact hf pre.length va fd hj w hw
  | @un o a ho ha ih =>
    intro pre post e w hw
    have hp := a.flat_pos
    obtain ⟨m, hm⟩ : ∃ m, a.flat.length = m + 1 := ⟨a.flat.length - 1, by omega⟩
    have e' : l = pre ++ (a.flat ++ (opn o :: post)) := by rw [e]; simp [Tr.flat]
    have hj : l[pre.length + m + 1]? = some (opn o) := by
      rw [e', List.getElem?_append_right (by omega), List.getElem?_append_right (by omega)]
      have : pre.length + m + 1 - pre.length - a.flat.length = 0 := by omega
      rw [this]; rfl
    have e1 : ((pre.length + (Tr.un o a).flat.length : Nat) - 1 : Int) = ((pre.length + m : Nat) : Int) + 1 := by simp [Tr.flat, hm]; omega
    rw [e1]
    have hi : ∀ X, Below w.heap.size w X → Calls Try.prog 33 #[v, en, .int .i64 ((pre.length + m : Nat) : Int)] X (RfPost X (a.sem ts es) pre.length) := fun X hX => by
      have h := ih pre _ e' X (hw.trans (hX.mono hw.size))
      have e2 : ((pre.length + a.flat.length : Nat) - 1 : Int) = ((pre.length + m : Nat) : Int) := by omega
      rw [e2] at h
      exact h
    have hcl : ∀ y, a.sem ts es = some y → In64 y.i := fun y h => (sem_cl hec ha h).1
    rcases ho with rfl | rfl
    · exact ref_neg v en l (pre.length + m) pre.length (a.sem ts es) w (hl.below hw hw.size) hj hcl hi
    · exact ref_not v en l (pre.length + m) pre.length (a.sem ts es) w (hl.below hw hw.size) hj hcl hi
  | @bi o a b h1 h2 h3 ha hb iha ihb =>
    intro pre post e w hw
    have hpa := a.flat_pos
    have hpb := b.flat_pos
    obtain ⟨ma, hma⟩ : ∃ m, a.flat.length = m + 1 := ⟨a.flat.length - 1, by omega⟩
    obtain ⟨mb, hmb⟩ : ∃ m, b.flat.length = m + 1 := ⟨b.flat.length - 1, by omega⟩
    have ea : l = pre ++ (a.flat ++ (b.flat ++ (opn o :: post))) := by rw [e]; simp [Tr.flat]
    have eb : l = (pre ++ a.flat) ++ (b.flat ++ (opn o :: post)) := by rw [ea]; simp
    have hj : l[pre.length + ma + 1 + mb + 1]? = some (opn o) := by
      rw [eb, List.getElem?_append_right (by simp; omega), List.getElem?_append_right (by simp; omega)]
      have : pre.length + ma + 1 + mb + 1 - (pre ++ a.flat).length - b.flat.length = 0 := by simp; omega
      rw [this]; rfl
    have e1 : ((pre.length + (Tr.bi o a b).flat.length : Nat) - 1 : Int) = ((pre.length + ma + 1 + mb : Nat) : Int) + 1 := by simp [Tr.flat, hma, hmb]; omega
    rw [e1]
    have hib : ∀ X, Below w.heap.size w X → Calls Try.prog 33 #[v, en, .int .i64 ((pre.length + ma + 1 + mb : Nat) : Int)] X (RfPost X (b.sem ts es) (pre.length + ma + 1)) := fun X hX => by
      have h := ihb (pre ++ a.flat) _ eb X (hw.trans (hX.mono hw.size))
      have e2 : (((pre ++ a.flat).length + b.flat.length : Nat) - 1 : Int) = ((pre.length + ma + 1 + mb : Nat) : Int) := by simp; omega
      have e3 : (pre ++ a.flat).length = pre.length + ma + 1 := by simp; omega
      rw [e2, e3] at h
      exact h
    have hia : ∀ X, Below w.heap.size w X → Calls Try.prog 33 #[v, en, .int .i64 ((pre.length + ma : Nat) : Int)] X (RfPost X (a.sem ts es) pre.length) := fun X hX => by
      have h := iha pre _ ea X (hw.trans (hX.mono hw.size))
      have e2 : ((pre.length + a.flat.length : Nat) - 1 : Int) = ((pre.length + ma : Nat) : Int) := by omega
      rw [e2] at h
      exact h
    exact ref_bi v en l (pre.length + ma + 1 + mb) pre.length (pre.length + ma) (by omega) o (by omega) h2 (by omega) (a.sem ts es) (b.sem ts es) w (hl.below hw hw.size) hj (fun y h => sem_cl hec ha h) (fun y h => sem_cl hec hb h) hib hia
end Go.Proofs.Ytopbildpeojgoaa.Evl
end
