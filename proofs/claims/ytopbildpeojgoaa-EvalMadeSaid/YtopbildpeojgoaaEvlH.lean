/- A part, whatever it is; a stack of values. -/
import Derived.Test.YtopbildpeojgoaaEvlG
import Derived.Test.YtopbildpeojgoaaEvlE
import Derived.Test.YtopbildpeojgoaaTyJ
namespace Go.Proofs.Ytopbildpeojgoaa.Evl
open Go.RowKit Go.Proofs.Ytopbildpeojgoaa Go.Proofs.Ytopbildpeojgoaa.Ev Go.Proofs.Ytopbildpeojgoaa.Sch Go.Proofs.Ytopbildpeojgoaa.Ty Go.Proofs.Ytopbildpeojgoaa.Num
set_option linter.unusedVariables false
set_option maxRecDepth 100000
/-- What a part comes to. -/
def partM (ts : List Ty) (es : List Bn) (n : Nd) (L : List VV) : Option VV := if n.op = 1 then some ⟨n.k, n.i, n.s, n.b⟩ else if n.op = 2 then fldM ts es n.v n.f else opM n.op L
theorem partsI_1 {o : Int} (h : o = 3 ∨ o = 13) : partsI o = 1 := by rcases h with rfl | rfl <;> rfl
theorem partsI_2 {o : Int} (h1 : 3 ≤ o) (h2 : o ≤ 15) (h3 : ¬ (o = 3 ∨ o = 13)) : partsI o = 2 := by
  have : o = 4 ∨ o = 5 ∨ o = 6 ∨ o = 7 ∨ o = 8 ∨ o = 9 ∨ o = 10 ∨ o = 11 ∨ o = 12 ∨ o = 14 ∨ o = 15 := by omega
  rcases this with rfl | rfl | rfl | rfl | rfl | rfl | rfl | rfl | rfl | rfl | rfl <;> rfl
theorem part_any (p : Option Addr) (ts : List Ty) (en : Value) (es : List Bn) (nd : Nd) (v : Value) (L : List VV) (w : World) (hs : Sc w w.heap.size p ts) (he : En w w.heap.size en es) (hn : OkN nd) (hL : VL w w.heap.size v L) (hlen : (L.length : Int) = partsI nd.op) (hli : ∀ x ∈ L, In64 x.i) :
    Calls Try.prog 93 #[.pointer p, en, .agg #[.int .i64 nd.op, .int .i64 nd.k, .int .i64 nd.i, .string nd.s, .bool nd.b, .string nd.v, .string nd.f], v] w (RPost w (partM ts es nd L)) := by
  cases hn with
  | const h => exact part_con p en _ _ _ _ v w
  | field hv hf => exact part_fld p ts en es _ _ v w hs he
  | op o g1 g2 =>
    have e : partM ts es ⟨o, 0, 0, ⟨#[]⟩, false, ⟨#[]⟩, ⟨#[]⟩⟩ L = opM o L := by
      unfold partM
      dsimp only
      rw [if_neg (by omega), if_neg (by omega)]
    rw [e]
    dsimp only at hlen ⊢
    by_cases h1 : o = 3 ∨ o = 13
    · rw [partsI_1 h1] at hlen
      match L, hlen, hL, hli with
      | [a], _, hL, hli =>
        have ha := hli a (by simp)
        rcases h1 with rfl | rfl
        · exact part_neg _ en v a w hL ha
        · exact part_not _ en v a w hL
      | [], hlen, _, _ => simp at hlen
      | _ :: _ :: _, hlen, _, _ => simp at hlen; omega
    · rw [partsI_2 g1 g2 h1] at hlen
      match L, hlen, hL, hli with
      | [a, b], _, hL, hli =>
        have ha := hli a (by simp)
        have hb := hli b (by simp)
        by_cases h2 : o ≤ 6
        · exact part_ari _ en v o (by omega) a b w hL ha hb
        · by_cases h3 : o ≤ 12
          · exact part_cmp _ en v o (by omega) h3 a b w hL
          · have h4 : o = 14 ∨ o = 15 := by omega
            rcases h4 with rfl | rfl
            · exact part_and _ en v a b w hL
            · exact part_or _ en v a b w hL
      | [], hlen, _, _ => simp at hlen
      | [_], hlen, _, _ => simp at hlen
      | _ :: _ :: _ :: _, hlen, _, _ => simp at hlen; omega
/-- Numbers stay in their bounds. -/
theorem in_zero : In64 0 := ⟨by decide, by decide⟩
theorem cutI_in (x : Int) : In64 (cutI x) := by
  unfold cutI
  split
  · assumption
  · exact in_zero
theorem opM_in {o : Int} {L : List VV} {y : VV} (h : opM o L = some y) : In64 y.i := by
  match L, h with
  | [a], h =>
    simp only [opM] at h
    split at h
    · split at h
      · split at h
        · injection h with h; subst h; exact cutI_in _
        · cases h
      · cases h
    · split at h
      · injection h with h; subst h; exact in_zero
      · cases h
  | [a, b], h =>
    simp only [opM] at h
    split at h
    · split at h
      · split at h
        · injection h with h; subst h; exact cutI_in _
        · cases h
      · cases h
    · split at h
      · split at h
        · injection h with h; subst h; exact in_zero
        · cases h
      · rw [Option.map_eq_some_iff] at h
        obtain ⟨r, _, h⟩ := h
        subst h; exact in_zero
  | [], h => simp [opM] at h
  | _ :: _ :: _ :: _, h => simp [opM] at h
def EnB (es : List Bn) : Prop := ∀ b ∈ es, ∀ x ∈ b.ev.vs, In64 x.i
theorem getM_in {ts : List Ty} {e : Evt} {f : ByteArray} {y : VV} (he : ∀ x ∈ e.vs, In64 x.i) (h : getM ts e f = some y) : In64 y.i := by
  unfold getM at h
  split at h
  · cases h
  · exact he _ (List.mem_of_getElem? h)
theorem fldM_in {ts : List Ty} {es : List Bn} {v f : ByteArray} {y : VV} (he : EnB es) (h : fldM ts es v f = some y) : In64 y.i := by
  unfold fldM at h
  split at h
  · cases h
  · rename_i b hb
    split at h
    · cases h
    · exact getM_in (he b (List.mem_of_getElem? hb)) h
theorem partM_in {ts : List Ty} {es : List Bn} {n : Nd} {L : List VV} {y : VV} (hn : In64 n.i) (he : EnB es) (h : partM ts es n L = some y) : In64 y.i := by
  unfold partM at h
  split at h
  · injection h with h; subst h; exact hn
  · split at h
    · exact fldM_in he h
    · exact opM_in h
/-- The reckoning, over a stack. -/
def evM (ts : List Ty) (es : List Bn) : List Nd → List VV → Option VV
  | [], st => st.head?
  | n :: r, st => match partM ts es n (st.drop (st.length - (partsI n.op).toNat)) with
    | none => none
    | some y => evM ts es r (st.take (st.length - (partsI n.op).toNat) ++ [y])
theorem evM_no {ts : List Ty} {es : List Bn} {n : Nd} {r : List Nd} {st : List VV} {cu : Nat} (hc : st.length - (partsI n.op).toNat = cu) (h : partM ts es n (st.drop cu) = none) : evM ts es (n :: r) st = none := by
  simp only [evM]; rw [hc, h]
theorem evM_yes {ts : List Ty} {es : List Bn} {n : Nd} {r : List Nd} {st : List VV} {cu : Nat} {y : VV} (hc : st.length - (partsI n.op).toNat = cu) (h : partM ts es n (st.drop cu) = some y) : evM ts es (n :: r) st = evM ts es r (st.take cu ++ [y]) := by
  simp only [evM]; rw [hc, h]
/-- Cells of values. -/
theorem vcells_cons (v : VV) (L : List VV) : vcells (v :: L) = v.cells ++ vcells L := by simp [vcells]
theorem vcells_len (L : List VV) : (vcells L).length = L.length * 4 := by
  induction L with
  | nil => rfl
  | cons v L ih => rw [vcells_cons, List.length_append, ih]; simp [VV.cells]; omega
theorem vcells_get : ∀ (L : List VV) (k : Nat) (h : k < L.length) (j : Nat) (u : Value), (L[k].cells)[j]? = some u → (vcells L)[k * 4 + j]? = some u
  | v :: L, 0, _, j, u, hj => by
    rw [vcells_cons, List.getElem?_append_left (by obtain ⟨h, _⟩ := List.getElem?_eq_some_iff.1 hj; simp at h ⊢; omega)]
    simpa using hj
  | v :: L, k + 1, h, j, u, hj => by
    rw [vcells_cons, List.getElem?_append_right (by simp [VV.cells]; omega)]
    have e : (k + 1) * 4 + j - v.cells.length = k * 4 + j := by simp [VV.cells]; omega
    rw [e]
    exact vcells_get L k (by simp at h; omega) j u (by simpa using hj)
theorem vcells_append (L M : List VV) : vcells (L ++ M) = vcells L ++ vcells M := by simp [vcells]
theorem vcells_drop (L : List VV) (k : Nat) : (vcells L).drop (k * 4) = vcells (L.drop k) := by
  induction L generalizing k with
  | nil => simp [vcells]
  | cons v L ih =>
    cases k with
    | zero => simp
    | succ k =>
      rw [vcells_cons, List.drop_append, List.drop_of_length_le (by simp [VV.cells]; omega)]
      have e : (k + 1) * 4 - v.cells.length = k * 4 := by simp [VV.cells]; omega
      rw [e, ih]
      rfl
theorem vcells_take (L : List VV) (k : Nat) : (vcells L).take (k * 4) = vcells (L.take k) := by
  induction L generalizing k with
  | nil => simp [vcells]
  | cons v L ih =>
    cases k with
    | zero => simp [vcells]
    | succ k =>
      rw [vcells_cons, List.take_append, List.take_of_length_le (by simp [VV.cells]; omega)]
      have e : (k + 1) * 4 - v.cells.length = k * 4 := by simp [VV.cells]; omega
      rw [e, ih]
      simp [vcells_cons]
theorem vl_of_seg {w : World} {A : Option Addr} {n c : Nat} {L : List VV} {ob : Option Nat} (h : Seg w 57 4 (.slice A n c) n (vcells L) ob) (hn : L.length = n) : VL w w.heap.size (.slice A n c) L := by
  obtain ⟨_, c', e, h1, h2⟩ := h.form
  injection e with e1 e2 e3
  subst e1 e3
  subst hn
  refine ⟨_, _, rfl, h1, by unfold maxLen at h2; omega, fun k hk => ?_⟩
  obtain ⟨g, o, cap, e, ho, _, _, hc, _⟩ := h.shape (by omega)
  injection e with e1 e2 e3
  subst e1
  refine ⟨g, o, rfl, h.lt g ho, fun j u hj => ?_⟩
  have := hc (k * 4 + j) u (vcells_get L k hk j u hj)
  simpa [Nat.add_assoc] using this
theorem value_info : (Try.prog.info? 57).map (fun i => (i.zero, i.size, i.bytes)) = some (some (.agg #[.int .i64 0, .int .i64 0, .string ⟨#[]⟩, .bool false]), 4, 40) := by kernel_rfl
/-- The values so far. -/
structure Kv (w wr : World) (v : Value) (st : List VV) : Prop where
  be : Below w.heap.size w wr
  sg : (st = [] ∧ v = .slice none 0 0) ∨ (st ≠ [] ∧ ∃ g, Seg wr 57 4 v st.length (vcells st) (some g) ∧ w.heap.size ≤ g)
theorem Kv.call {w w1 w2 : World} {v : Value} {st : List VV} (h : Kv w w1 v st) (g : Below w1.heap.size w1 w2) : Kv w w2 v st := by
  refine ⟨h.be.trans (g.mono h.be.size), ?_⟩
  rcases h.sg with h1 | ⟨h1, b, h2, h3⟩
  · exact .inl h1
  · exact .inr ⟨h1, b, h2.turns (Turns.of_below g) (fun _ _ x => x), h3⟩
theorem Kv.seg {w wr : World} {v : Value} {st : List VV} (h : Kv w wr v st) : ∃ ob, Seg wr 57 4 v st.length (vcells st) ob ∧ ∀ g, ob = some g → w.heap.size ≤ g := by
  rcases h.sg with ⟨rfl, rfl⟩ | ⟨h1, b, h2, h3⟩
  · exact ⟨none, Seg.nil _ _ _, fun g h => by cases h⟩
  · exact ⟨some b, h2, fun g h => by cases h; exact h3⟩
theorem Kv.push {w wr w2 : World} {v v2 : Value} {st : List VV} {k : Nat} {x : VV} {ob ob2 : Option Nat} (h : Below w.heap.size w wr) (hk : k ≤ st.length) (ho : ∀ g, ob = some g → w.heap.size ≤ g)
    (hs : Seg w2 57 4 v2 (k + 1) ((vcells st).take (k * 4) ++ x.cells) ob2) (ht : Turns wr w2 (fun g => ob = some g)) (ho2 : ob2 = ob ∨ ∃ g, ob2 = some g ∧ wr.heap.size ≤ g) : Kv w w2 v2 (st.take k ++ [x]) := by
  have hz := h.size
  refine ⟨ht.below h (by omega) (fun j hj e => by have := ho _ e; omega), .inr ⟨by simp, ?_⟩⟩
  have e : vcells (st.take k ++ [x]) = (vcells st).take (k * 4) ++ x.cells := by rw [vcells_append, vcells_take]; simp [vcells]
  have hl : (st.take k ++ [x]).length = k + 1 := by simp; omega
  have hb : ∃ g, ob2 = some g := by
    cases ob2 with
    | some g => exact ⟨g, rfl⟩
    | none =>
      exfalso
      obtain ⟨_, A', cap', _, r1, _, ⟨r2, _⟩ | ⟨_, _, _, _, r3, _⟩⟩ := hs
      · omega
      · cases r3
  obtain ⟨g, rfl⟩ := hb
  refine ⟨g, by rw [e, hl]; exact hs, ?_⟩
  rcases ho2 with e2 | ⟨g', e2, hg'⟩
  · exact ho g e2.symm
  · cases e2
    omega
end Go.Proofs.Ytopbildpeojgoaa.Evl
