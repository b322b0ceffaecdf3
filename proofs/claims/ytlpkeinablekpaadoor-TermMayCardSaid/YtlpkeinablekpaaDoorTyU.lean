/- Whether something is so of all kinds. -/
import Derived.Test.YtlpkeinablekpaaDoorTyD
import Derived.Test.YtlpkeinablekpaaDoorSfD
import Derived.Deep.RegionWith
import Derived.Deep.Cut
import Derived.Deep.DeepCutAuto
import Derived.Test.YtlpkeinablekpaaDoorBits
namespace Go.Proofs.YtlpkeinablekpaaDoor.Ty
open Go.RowKit Go.Proofs.YtlpkeinablekpaaDoor Go.Proofs.YtlpkeinablekpaaDoor.Sch
set_option linter.unusedVariables false
set_option maxRecDepth 100000
/-- Numbers as they lie in memory. -/
def IL (w : World) (B : Nat) (v : Value) (L : List Int) : Prop :=
  ∃ A c, v = .slice A L.length c ∧ L.length ≤ c ∧ c ≤ 9223372036854775807 ∧ ∀ k (h : k < L.length), ∃ g o, A = some ⟨g, o, none⟩ ∧ g < B ∧ w.cell? ⟨g, o + k, none⟩ = some (.int .i64 L[k])
theorem IL.below {w w' : World} {B B' : Nat} {v : Value} {L : List Int} (h : IL w B v L) (hb : Below B w w') (hB : B ≤ B') : IL w' B' v L := by
  obtain ⟨A, c, rfl, h1, h2, h3⟩ := h
  refine ⟨A, c, rfl, h1, h2, fun k hk => ?_⟩
  obtain ⟨g, o, e, hg, hc⟩ := h3 k hk
  exact ⟨g, o, e, by omega, (hb.cell (p := ⟨g, o + k, none⟩) hg).trans hc⟩
theorem IL.zero (w : World) (B : Nat) : IL w B (.slice none 0 0) [] := ⟨none, 0, rfl, by simp, by omega, fun k hk => by simp at hk⟩
/-- Where the first thing stands of which something is so; -1: nowhere. -/
def fstI (f : Int → Bool) (L : List Int) : Int := match L.findIdx? f with
  | some k => k
  | none => -1
def NoneUp (f : Int → Bool) (L : List Int) (k : Nat) : Prop := ∀ j (h : j < L.length), j < k → f L[j] = false
theorem fst_at {f : Int → Bool} {L : List Int} {k : Nat} (hk : k < L.length) (h : f L[k] = true) (hn : NoneUp f L k) : fstI f L = k := by
  unfold fstI
  have : L.findIdx? f = some k := by
    rw [List.findIdx?_eq_some_iff_getElem]
    exact ⟨hk, h, fun j hj => by have := hn j (by omega) hj; simp [this]⟩
  rw [this]
theorem fst_no {f : Int → Bool} {L : List Int} (hn : NoneUp f L L.length) : fstI f L = -1 := by
  unfold fstI
  have : L.findIdx? f = none := by
    rw [List.findIdx?_eq_none_iff]
    intro x hx
    obtain ⟨j, hj, rfl⟩ := List.getElem_of_mem hx
    exact hn j hj hj
  rw [this]
theorem noneUp_succ {f : Int → Bool} {L : List Int} {k : Nat} (h : NoneUp f L k) (hk : k < L.length) (g : f L[k] = false) : NoneUp f L (k + 1) := fun j hj h1 => by
  by_cases e : j = k
  · subst e; exact g
  · exact h j hj (by omega)
theorem fst_all (f : Int → Bool) (L : List Int) : decide (fstI (fun x => !f x) L < 0) = L.all f := by
  unfold fstI
  cases h : L.findIdx? (fun x => !f x) with
  | none =>
    rw [List.findIdx?_eq_none_iff] at h
    have : L.all f = true := List.all_eq_true.2 fun x hx => by simpa using h x hx
    rw [this]
    decide
  | some k =>
    rw [List.findIdx?_eq_some_iff_getElem] at h
    obtain ⟨hk, h1, _⟩ := h
    have : L.all f = false := List.all_eq_false.2 ⟨L[k], List.getElem_mem hk, by simpa using h1⟩
    rw [this]
    have : ¬ ((k : Int) < 0) := by omega
    exact decide_eq_false this
end Go.Proofs.YtlpkeinablekpaaDoor.Ty

/- The kind of a part that is of others. -/
namespace Go.Proofs.YtlpkeinablekpaaDoor.Ty
open Go.RowKit Go.Proofs.YtlpkeinablekpaaDoor Go.Proofs.YtlpkeinablekpaaDoor.Sch
set_option linter.unusedVariables false
set_option maxRecDepth 100000
/-- A kind, if what it asks for is so. -/
def ask (k : Int) (so : Bool) : Int × Int := if so = true then (k, 0) else (0, 10)
/-- What a part of an op comes to, by the kinds that it is of. -/
def opK (o : Int) (L : List Int) : Int × Int :=
  if o ≤ 6 then ask 1 (L.all (fun x => x == 1)) else if 13 ≤ o then ask 3 (L.all (fun x => x == 3)) else ask 3 (L.all (fun x => x == L.headD 0))
def KPost (w : World) (r : Int × Int) (e : Ending) (w' : World) : Prop := e = .returned (.tuple #[.int .i64 r.1, .int .i64 r.2]) ∧ Below w.heap.size w w'
theorem kpost_mk {w w' : World} {r r' : Int × Int} (h : r = r') (hb : Below w.heap.size w w') : KPost w r' (.returned (.tuple #[.int .i64 r.1, .int .i64 r.2])) w' := ⟨by rw [h], hb⟩
end Go.Proofs.YtlpkeinablekpaaDoor.Ty

/- What variables stand for; where the one of a name stands; fields of a schema, whatever is asked. -/
namespace Go.Proofs.YtlpkeinablekpaaDoor.Ty
open Go.RowKit Go.Proofs.YtlpkeinablekpaaDoor Go.Proofs.YtlpkeinablekpaaDoor.Sch
set_option linter.unusedVariables false
set_option maxRecDepth 100000
/-- Texts as they lie in memory. -/
def SL (w : World) (B : Nat) (v : Value) (L : List ByteArray) : Prop :=
  ∃ A c, v = .slice A L.length c ∧ L.length ≤ c ∧ c ≤ 9223372036854775807 ∧ ∀ k (h : k < L.length), ∃ g o, A = some ⟨g, o, none⟩ ∧ g < B ∧ w.cell? ⟨g, o + k, none⟩ = some (.string L[k])
theorem SL.below {w w' : World} {B B' : Nat} {v : Value} {L : List ByteArray} (h : SL w B v L) (hb : Below B w w') (hB : B ≤ B') : SL w' B' v L := by
  obtain ⟨A, c, rfl, h1, h2, h3⟩ := h
  refine ⟨A, c, rfl, h1, h2, fun k hk => ?_⟩
  obtain ⟨g, o, e, hg, hc⟩ := h3 k hk
  exact ⟨g, o, e, by omega, (hb.cell (p := ⟨g, o + k, none⟩) hg).trans hc⟩
abbrev Bd := ByteArray × List ByteArray
/-- What variables stand for, as it lies in memory. -/
def Bs (w : World) (B : Nat) (v : Value) (bs : List Bd) : Prop :=
  ∃ A c, v = .slice A bs.length c ∧ bs.length ≤ c ∧ c ≤ 9223372036854775807 ∧
    ∀ k (h : k < bs.length), ∃ g o tv, A = some ⟨g, o, none⟩ ∧ g < B ∧ w.cell? ⟨g, o + k * 2, none⟩ = some (.string bs[k].1) ∧ w.cell? ⟨g, o + k * 2 + 1, none⟩ = some tv ∧ SL w B tv bs[k].2
theorem Bs.below {w w' : World} {B B' : Nat} {v : Value} {bs : List Bd} (h : Bs w B v bs) (hb : Below B w w') (hB : B ≤ B') : Bs w' B' v bs := by
  obtain ⟨A, c, rfl, h1, h2, h3⟩ := h
  refine ⟨A, c, rfl, h1, h2, fun k hk => ?_⟩
  obtain ⟨g, o, tv, e, hg, c0, c1, hs⟩ := h3 k hk
  exact ⟨g, o, tv, e, by omega, (hb.cell (p := ⟨g, o + k * 2, none⟩) hg).trans c0, (hb.cell (p := ⟨g, o + k * 2 + 1, none⟩) hg).trans c1, hs.below hb hB⟩
/-- The place and the kind of a type's field. -/
def fieldS (ts : List Ty) (n f : ByteArray) : Int × Int :=
  match ts[(idx (ts.map Prod.fst) n).toNat]? with
  | none => (-1, 0)
  | some t => if idx (ts.map Prod.fst) n < 0 then (-1, 0) else match t.2[(idx (t.2.map Prod.fst) f).toNat]? with
    | none => (-1, 0)
    | some x => if idx (t.2.map Prod.fst) f < 0 then (-1, 0) else (idx (t.2.map Prod.fst) f, x.2)
theorem fieldS_any (p : Option Addr) (ts : List Ty) (n f : ByteArray) (w : World) (hs : Sc w w.heap.size p ts) :
    Calls Tryd.prog 56 #[.pointer p, .string n, .string f] w fun e w' => e = .returned (.tuple #[.int .i64 (fieldS ts n f).1, .int .i64 (fieldS ts n f).2]) ∧ Below w.heap.size w w' := by
  obtain ⟨hi1, hi2⟩ := idx_lt (l := ts.map Prod.fst) (nm := n)
  rw [List.length_map] at hi1
  by_cases h0 : idx (ts.map Prod.fst) n < 0
  · have e : fieldS ts n f = (-1, 0) := by
      unfold fieldS
      split
      · rfl
      · rw [if_pos h0]
    rw [e]
    exact field_no1 p ts n f w hs h0
  · obtain ⟨i, hi⟩ : ∃ i : Nat, idx (ts.map Prod.fst) n = i := ⟨(idx (ts.map Prod.fst) n).toNat, by omega⟩
    have hil : i < ts.length := by omega
    have hti : ts[i]? = some (ts[i].1, ts[i].2) := List.getElem?_eq_getElem hil
    obtain ⟨hj1, hj2⟩ := idx_lt (l := (ts[i].2).map Prod.fst) (nm := f)
    rw [List.length_map] at hj1
    by_cases h1 : idx ((ts[i].2).map Prod.fst) f < 0
    · have e : fieldS ts n f = (-1, 0) := by
        unfold fieldS
        rw [hi, Int.toNat_natCast, hti]
        dsimp only
        rw [if_neg (by omega)]
        split
        · rfl
        · rw [if_pos h1]
      rw [e]
      exact field_no2 p ts n f i _ w hs hi hti h1
    · obtain ⟨j, hj⟩ : ∃ j : Nat, idx ((ts[i].2).map Prod.fst) f = j := ⟨(idx ((ts[i].2).map Prod.fst) f).toNat, by omega⟩
      have hjl : j < (ts[i].2).length := by omega
      have htj : (ts[i].2)[j]? = some ((ts[i].2)[j].1, (ts[i].2)[j].2) := List.getElem?_eq_getElem hjl
      have e : fieldS ts n f = ((j : Int), (ts[i].2)[j].2) := by
        unfold fieldS
        rw [hi, Int.toNat_natCast, hti]
        dsimp only
        rw [if_neg (by omega), hj, Int.toNat_natCast, htj]
        dsimp only
        rw [if_neg (by omega)]
      rw [e]
      exact field_yes p ts n f w.heap.size i j _ w hs (Nat.le_refl _) hi hti hj htj
end Go.Proofs.YtlpkeinablekpaaDoor.Ty

/- The kind of a variable's field. -/
namespace Go.Proofs.YtlpkeinablekpaaDoor.Ty
open Go.RowKit Go.Proofs.YtlpkeinablekpaaDoor Go.Proofs.YtlpkeinablekpaaDoor.Sch
set_option linter.unusedVariables false
set_option maxRecDepth 100000
/-- Where the first text stands of which something is so; -1: nowhere. -/
def fstS (f : ByteArray → Bool) (L : List ByteArray) : Int := match L.findIdx? f with
  | some k => k
  | none => -1
def NoneUpS (f : ByteArray → Bool) (L : List ByteArray) (k : Nat) : Prop := ∀ j (h : j < L.length), j < k → f L[j] = false
theorem fstS_at {f : ByteArray → Bool} {L : List ByteArray} {k : Nat} (hk : k < L.length) (h : f L[k] = true) (hn : NoneUpS f L k) : fstS f L = k := by
  unfold fstS
  have : L.findIdx? f = some k := by
    rw [List.findIdx?_eq_some_iff_getElem]
    exact ⟨hk, h, fun j hj => by have := hn j (by omega) hj; simp [this]⟩
  rw [this]
theorem fstS_no {f : ByteArray → Bool} {L : List ByteArray} (hn : NoneUpS f L L.length) : fstS f L = -1 := by
  unfold fstS
  have : L.findIdx? f = none := by
    rw [List.findIdx?_eq_none_iff]
    intro x hx
    obtain ⟨j, hj, rfl⟩ := List.getElem_of_mem hx
    exact hn j hj hj
  rw [this]
theorem noneUpS_succ {f : ByteArray → Bool} {L : List ByteArray} {k : Nat} (h : NoneUpS f L k) (hk : k < L.length) (g : f L[k] = false) : NoneUpS f L (k + 1) := fun j hj h1 => by
  by_cases e : j = k
  · subst e; exact g
  · exact h j hj (by omega)
theorem fstS_all (f : ByteArray → Bool) (L : List ByteArray) : decide (fstS (fun x => !f x) L < 0) = L.all f := by
  unfold fstS
  cases h : L.findIdx? (fun x => !f x) with
  | none =>
    rw [List.findIdx?_eq_none_iff] at h
    have : L.all f = true := List.all_eq_true.2 fun x hx => by simpa using h x hx
    rw [this]
    decide
  | some k =>
    rw [List.findIdx?_eq_some_iff_getElem] at h
    obtain ⟨hk, h1, _⟩ := h
    have : L.all f = false := List.all_eq_false.2 ⟨L[k], List.getElem_mem hk, by simpa using h1⟩
    rw [this]
    have : ¬ ((k : Int) < 0) := by omega
    exact decide_eq_false this
/-- What the closure has at hand: the schema, the field's name, the kind. -/
structure Cl (w : World) (b3 b5 b11 : Nat) (p : Option Addr) (ts : List Ty) (f : ByteArray) (kd : Int) : Prop where
  c3 : w.cell? ⟨b3, 0, none⟩ = some (.pointer p)
  c5 : w.cell? ⟨b5, 6, none⟩ = some (.string f)
  c11 : w.cell? ⟨b11, 0, none⟩ = some (.int .i64 kd)
  sc : Sc w w.heap.size p ts
theorem Cl.call {w w' : World} {b3 b5 b11 : Nat} {p : Option Addr} {ts : List Ty} {f : ByteArray} {kd : Int} (h : Cl w b3 b5 b11 p ts f kd) (g : Below w.heap.size w w') : Cl w' b3 b5 b11 p ts f kd :=
  ⟨(g.cell (p := ⟨b3, 0, none⟩) (World.block_lt_of_cell? w ⟨b3, 0, none⟩ h.c3)).trans h.c3, (g.cell (p := ⟨b5, 6, none⟩) (World.block_lt_of_cell? w ⟨b5, 6, none⟩ h.c5)).trans h.c5, (g.cell (p := ⟨b11, 0, none⟩) (World.block_lt_of_cell? w ⟨b11, 0, none⟩ h.c11)).trans h.c11, h.sc.below g g.size⟩
def clF (ts : List Ty) (f : ByteArray) (kd : Int) (nm : ByteArray) : Bool := (fieldS ts nm f).2 == kd
end Go.Proofs.YtlpkeinablekpaaDoor.Ty

/- The kind of a variable's field: typing.field. -/
namespace Go.Proofs.YtlpkeinablekpaaDoor.Ty
open Go.RowKit Go.Proofs.YtlpkeinablekpaaDoor Go.Proofs.YtlpkeinablekpaaDoor.Sch
set_option linter.unusedVariables false
set_option maxRecDepth 100000
/-- The kind of a variable's field. -/
def fieldK (ts : List Ty) (bs : List Bd) (v f : ByteArray) : Int × Int :=
  match bs[(idx (bs.map Prod.fst) v).toNat]? with
  | none => (0, 3)
  | some b => if idx (bs.map Prod.fst) v < 0 then (0, 3) else match b.2 with
    | [] => (0, 10)
    | t :: r => ask (fieldS ts t f).2 (decide (0 ≤ (fieldS ts t f).1) && (t :: r).all (clF ts f (fieldS ts t f).2))
theorem fieldK_no {ts : List Ty} {bs : List Bd} {v f : ByteArray} (h : idx (bs.map Prod.fst) v < 0) : fieldK ts bs v f = (0, 3) := by
  unfold fieldK
  split
  · rfl
  · rw [if_pos h]
theorem fieldK_at {ts : List Ty} {bs : List Bd} {v f : ByteArray} {i : Nat} {b : Bd} (h : idx (bs.map Prod.fst) v = i) (hb : bs[i]? = some b) :
    fieldK ts bs v f = match b.2 with
    | [] => (0, 10)
    | t :: r => ask (fieldS ts t f).2 (decide (0 ≤ (fieldS ts t f).1) && (t :: r).all (clF ts f (fieldS ts t f).2)) := by
  unfold fieldK
  rw [h, Int.toNat_natCast, hb]
  dsimp only
  rw [if_neg (by omega)]
end Go.Proofs.YtlpkeinablekpaaDoor.Ty

/- The kind of what a predicate comes to: typing.Kind. -/
namespace Go.Proofs.YtlpkeinablekpaaDoor.Ty
open Go.RowKit Go.Proofs.YtlpkeinablekpaaDoor Go.Proofs.YtlpkeinablekpaaDoor.Sch
set_option linter.unusedVariables false
set_option maxRecDepth 100000
/-- The kind of a part, by the kinds of those that it is of. -/
def partK (ts : List Ty) (bs : List Bd) (n : Nd) (L : List Int) : Int × Int := if n.op = 1 then (n.k, 0) else if n.op = 2 then fieldK ts bs n.v n.f else opK n.op L
theorem one_newsI (w : World) (x : Value) : ∀ j u, [x][j]? = some u → (w.alloc (.cells #[x] 3)).cell? ((⟨w.heap.size, 0, none⟩ : Addr).add j) = some u := by
  intro j u hj
  match j, hj with
  | 0, hj => simp at hj; subst hj; simp [Addr.add]
def stepK (ts : List Ty) (bs : List Bd) (st : List Int) (n : Nd) : Int × Int := partK ts bs n (st.drop (st.length - (partsI n.op).toNat))
/-- The kind of a predicate, and what is wrong. -/
def kindS (ts : List Ty) (bs : List Bd) : List Nd → List Int → Int × Int
  | [], st => (st.headD 0, 0)
  | n :: r, st => if (stepK ts bs st n).2 = 0 then kindS ts bs r (st.take (st.length - (partsI n.op).toNat) ++ [(stepK ts bs st n).1]) else (0, (stepK ts bs st n).2)
theorem Seg.front {w : World} {e : TypeId} {size n cap : Nat} {A : Option Addr} {xs : List Value} {ob : Option Nat} (h : Seg w e size (.slice A n cap) n xs ob) (k : Nat) (hk : k ≤ n) : Seg w e size (.slice A k cap) k (xs.take (k * size)) ob := by
  obtain ⟨h0, A', c, hv, h1, h2, h3⟩ := h
  injection hv with e1 e2 e3
  subst e1 e3
  have hks : k * size ≤ n * size := Nat.mul_le_mul_right _ hk
  refine ⟨by rw [List.length_take, h0]; omega, _, _, rfl, by omega, h2, ?_⟩
  rcases h3 with h3 | ⟨g, o, cur, a1, a2, a3, a4, a5⟩
  · exact .inl h3
  · refine .inr ⟨g, o, cur, a1, a2, a3, a4, ?_⟩
    rw [← a5, List.take_take, Nat.min_eq_left hks]
theorem il_of_seg {w : World} {A : Option Addr} {n c : Nat} {L : List Int} {ob : Option Nat} (h : Seg w 3 1 (.slice A n c) n (L.map (Value.int .i64)) ob) (hn : L.length = n) : IL w w.heap.size (.slice A n c) L := by
  obtain ⟨_, c', e, h1, h2⟩ := h.form
  injection e with e1 e2 e3
  subst e1 e3
  subst hn
  refine ⟨_, _, rfl, h1, by unfold maxLen at h2; omega, fun k hk => ?_⟩
  obtain ⟨g, o, cap, e, ho, _, _, hc, _⟩ := h.shape (by omega)
  injection e with e1 e2 e3
  subst e1
  exact ⟨g, o, rfl, h.lt g ho, hc k _ (by rw [List.getElem?_map, List.getElem?_eq_getElem hk]; rfl)⟩
theorem int_info : (Tryd.prog.info? 3).map (fun i => (i.zero, i.size, i.bytes)) = some (some (.int .i64 0), 1, 8) := by kernel_rfl
/-- The kinds so far. -/
structure Ks (w wr : World) (v : Value) (st : List Int) : Prop where
  be : Below w.heap.size w wr
  sg : (st = [] ∧ v = .slice none 0 0) ∨ (st ≠ [] ∧ ∃ g, Seg wr 3 1 v st.length (st.map (Value.int .i64)) (some g) ∧ w.heap.size ≤ g)
theorem Ks.call {w w1 w2 : World} {v : Value} {st : List Int} (h : Ks w w1 v st) (g : Below w1.heap.size w1 w2) : Ks w w2 v st := by
  refine ⟨h.be.trans (g.mono h.be.size), ?_⟩
  rcases h.sg with h1 | ⟨h1, b, h2, h3⟩
  · exact .inl h1
  · exact .inr ⟨h1, b, h2.turns (Turns.of_below g) (fun _ _ x => x), h3⟩
theorem Ks.seg {w wr : World} {v : Value} {st : List Int} (h : Ks w wr v st) : ∃ ob, Seg wr 3 1 v st.length (st.map (Value.int .i64)) ob ∧ ∀ g, ob = some g → w.heap.size ≤ g := by
  rcases h.sg with ⟨rfl, rfl⟩ | ⟨h1, b, h2, h3⟩
  · exact ⟨none, Seg.nil _ _ _, fun g h => by cases h⟩
  · exact ⟨some b, h2, fun g h => by cases h; exact h3⟩
theorem Ks.push {w wr w2 : World} {v v2 : Value} {st : List Int} {k : Nat} {x : Int} {ob ob2 : Option Nat} {o : Obj} (h : Ks w wr v st) (hk : k ≤ st.length) (ho : ∀ g, ob = some g → w.heap.size ≤ g)
    (hs : Seg w2 3 1 v2 (k + 1) ((st.map (Value.int .i64)).take (k * 1) ++ [.int .i64 x]) ob2) (ht : Turns (wr.alloc o) w2 (fun g => ob = some g)) (ho2 : ob2 = ob ∨ ∃ g, ob2 = some g ∧ (wr.alloc o).heap.size ≤ g) : Ks w w2 v2 (st.take k ++ [x]) := by
  have hz := h.be.size
  refine ⟨ht.below (h.be.alloc hz o) (by simp; omega) (fun j hj e => by have := ho _ e; omega), .inr ⟨by simp, ?_⟩⟩
  have e : ((st.take k ++ [x]).map (Value.int .i64)) = (st.map (Value.int .i64)).take (k * 1) ++ [.int .i64 x] := by simp
  have hl : (st.take k ++ [x]).length = k + 1 := by simp; omega
  have hb : ∃ g, ob2 = some g := by
    cases ob2 with
    | some g => exact ⟨g, rfl⟩
    | none =>
      exfalso
      obtain ⟨_, A', cap', _, r1, _, ⟨r2, _⟩ | ⟨_, _, _, _, r3, _⟩⟩ := hs
      · omega
      · cases r3
  obtain ⟨g, rfl⟩ := hb
  refine ⟨g, by rw [e, hl]; exact hs, ?_⟩
  rcases ho2 with e2 | ⟨g', e2, hg'⟩
  · exact ho g e2.symm
  · cases e2
    simp at hg'
    omega
/-- What the loop holds. -/
structure Kl (w wr : World) (ts : List Ty) (bs : List Bd) (l : List Nd) (v : Value) (k : Nat) (R : Int × Int) : Prop where
  st : ∃ st, Ks w wr v st ∧ dep (l.take k) = st.length ∧ kindS ts bs (l.drop k) st = R
end Go.Proofs.YtlpkeinablekpaaDoor.Ty

/- What three variables stand for; awake of layer 13. -/
namespace Go.Proofs.YtlpkeinablekpaaDoor.Ty
open Go.RowKit Go.Proofs.YtlpkeinablekpaaDoor Go.Proofs.YtlpkeinablekpaaDoor.Sch
set_option linter.unusedVariables false
set_option maxRecDepth 100000
def sc0 : List Bd := [(⟨#[97]⟩, [⟨#[65]⟩]), (⟨#[98]⟩, [⟨#[65]⟩]), (⟨#[99]⟩, [⟨#[65]⟩])]
def ScPost (w : World) (e : Ending) (w' : World) : Prop := ∃ v, e = .returned v ∧ Bs w' w'.heap.size v sc0 ∧ Below w.heap.size w w'
/-- Parts in a row of cells. -/
def ncells (l : List Nd) : List Value := l.flatMap Nd.cells
theorem ncells_len : ∀ l : List Nd, (ncells l).length = l.length * 7
  | [] => rfl
  | x :: r => by
    show (x.cells ++ ncells r).length = _
    rw [List.length_append, ncells_len r, List.length_cons]
    have : x.cells.length = 7 := rfl
    omega
theorem ncells_get : ∀ (l : List Nd) (i : Nat) (h : i < l.length) (j : Nat) (u : Value), (l[i].cells)[j]? = some u → (ncells l)[i * 7 + j]? = some u
  | y :: r, 0, h, j, u, hj => by
    show (y.cells ++ ncells r)[0 * 7 + j]? = some u
    have : j < y.cells.length := (List.getElem?_eq_some_iff.1 hj).1
    rw [Nat.zero_mul, Nat.zero_add, List.getElem?_append_left this]
    exact hj
  | y :: r, i + 1, h, j, u, hj => by
    have ih := ncells_get r i (by simpa using h) j u (by simpa using hj)
    have hl : y.cells.length = 7 := rfl
    show (y.cells ++ ncells r)[(i + 1) * 7 + j]? = some u
    rw [List.getElem?_append_right (by omega), ← ih]
    congr 1
    omega
theorem ns_row {w : World} {g : Nat} {cs : Array Value} {l : List Nd} {n : Nat} (h : Row w g 25 cs) (hc : cs.toList = ncells l) (hn : l.length = n) (hn9 : n ≤ 1000) : Ns w w.heap.size (.slice (some ⟨g, 0, none⟩) n n) l := by
  subst hn
  exact ⟨_, _, rfl, Nat.le_refl _, by omega, fun k hk => ⟨g, 0, rfl, h.lt, fun j u hj => by
    have h1 := ncells_get l k hk j u hj
    rw [← hc] at h1
    rw [h.cell, Nat.zero_add]
    simpa using h1⟩⟩
theorem ns_seg {w : World} {A : Option Addr} {n c : Nat} {l : List Nd} {ob : Option Nat} (h : Seg w 25 7 (.slice A n c) n (ncells l) ob) (hn : l.length = n) : Ns w w.heap.size (.slice A n c) l := by
  obtain ⟨_, c', e, h1, h2⟩ := h.form
  injection e with e1 e2 e3
  subst e1 e3
  subst hn
  refine ⟨_, _, rfl, h1, by unfold maxLen at h2; omega, fun k hk => ?_⟩
  obtain ⟨g, o, cap, e, ho, _, _, hc, _⟩ := h.shape (by omega)
  injection e with e1 e2 e3
  subst e1
  exact ⟨g, o, rfl, h.lt g ho, fun j u hj => by rw [Nat.add_assoc]; exact hc _ _ (ncells_get l k hk j u hj)⟩
def awL : List Nd := [⟨2, 0, 0, ⟨#[]⟩, false, ⟨#[97]⟩, ⟨#[120]⟩⟩, ⟨1, 1, 3, ⟨#[]⟩, false, ⟨#[]⟩, ⟨#[]⟩⟩, ⟨11, 0, 0, ⟨#[]⟩, false, ⟨#[]⟩, ⟨#[]⟩⟩]
theorem awL_good : Good awL := by
  refine ⟨by decide, fun k hk => ?_, fun k hk => ?_, by decide⟩
  · match k, hk with
    | 0, _ => exact .field rfl rfl
    | 1, _ => exact .const (.num 3 rfl)
    | 2, _ => exact .op 11 (by decide) (by decide)
  · match k, hk with
    | 0, _ => show partsI 2 ≤ _; decide
    | 1, _ => show partsI 1 ≤ _; decide
    | 2, _ => show partsI 11 ≤ _; decide
end Go.Proofs.YtlpkeinablekpaaDoor.Ty

/- awake of layer 13; the walk of the law TypingKinds. -/
namespace Go.Proofs.YtlpkeinablekpaaDoor.Ty
open Go.RowKit Go.Proofs.YtlpkeinablekpaaDoor Go.Proofs.YtlpkeinablekpaaDoor.Sch
set_option linter.unusedVariables false
set_option maxRecDepth 100000
theorem fieldS_Ax : fieldS typesL ⟨#[65]⟩ ⟨#[120]⟩ = (0, 1) := by
  have h1 : idx (typesL.map Prod.fst) ⟨#[65]⟩ = 0 := by rw [idx_data]; rfl
  have h2 : idx (([(sx, 1), (ss, 2)] : List Fld).map Prod.fst) ⟨#[120]⟩ = 0 := by rw [idx_data]; rfl
  unfold fieldS
  rw [h1, show typesL[(0 : Int).toNat]? = some ((⟨#[65]⟩ : ByteArray), ([(sx, 1), (ss, 2)] : List Fld)) from rfl]
  dsimp only
  rw [h2, if_neg (by decide), show ([(sx, 1), (ss, 2)] : List Fld)[(0 : Int).toNat]? = some (sx, 1) from rfl]
  rfl
theorem fieldK_aw : fieldK typesL sc0 ⟨#[97]⟩ ⟨#[120]⟩ = (1, 0) := by
  have h1 : idx (sc0.map Prod.fst) ⟨#[97]⟩ = (0 : Nat) := by rw [idx_data]; rfl
  rw [fieldK_at h1 (b := (⟨#[97]⟩, [⟨#[65]⟩])) rfl]
  dsimp only
  rw [fieldS_Ax]
  simp [ask, clF, fieldS_Ax]
theorem kindS_aw : kindS typesL sc0 awL [] = (3, 0) := by
  unfold awL kindS
  have e1 : stepK typesL sc0 [] ⟨2, 0, 0, ⟨#[]⟩, false, ⟨#[97]⟩, ⟨#[120]⟩⟩ = (1, 0) := by
    unfold stepK partK
    dsimp only
    rw [if_neg (by decide), if_pos rfl, fieldK_aw]
  rw [e1]
  rfl
/-- What the law wants. -/
def wantK (o x y : Int) : Int := if 7 ≤ o ∧ o ≤ 12 then (if x = y then 3 else 0) else if o ≤ 6 then (if x = 1 ∧ y = 1 then 1 else 0) else if x = 3 ∧ y = 3 then 3 else 0
def errK (k : Int) : Int := if k = 0 then 10 else 0
def lawL (o x y : Int) : List Nd := if partsI o = 2 then [⟨1, x, 0, ⟨#[]⟩, false, ⟨#[]⟩, ⟨#[]⟩⟩, ⟨1, y, 0, ⟨#[]⟩, false, ⟨#[]⟩, ⟨#[]⟩⟩, ⟨o, 0, 0, ⟨#[]⟩, false, ⟨#[]⟩, ⟨#[]⟩⟩] else [⟨1, x, 0, ⟨#[]⟩, false, ⟨#[]⟩, ⟨#[]⟩⟩, ⟨o, 0, 0, ⟨#[]⟩, false, ⟨#[]⟩, ⟨#[]⟩⟩]
theorem law_parts (o : Int) (h1 : 3 ≤ o) (h2 : o ≤ 15) : (partsI o = 1 ∧ (o = 3 ∨ o = 13)) ∨ (partsI o = 2 ∧ ¬ (o = 3 ∨ o = 13)) := by
  unfold partsI
  rw [if_neg (by omega)]
  by_cases h : o = 3 ∨ o = 13
  · rw [if_pos h]; exact .inl ⟨rfl, h⟩
  · rw [if_neg h, if_pos (by omega)]; exact .inr ⟨rfl, h⟩
theorem ask_end (ts : List Ty) (bs : List Bd) (k : Int) (so : Bool) : (if (ask k so).2 = 0 then kindS ts bs [] [(ask k so).1] else (0, (ask k so).2)) = ask k so := by
  cases so
  · rfl
  · rfl
theorem opK_ask (o : Int) (L : List Int) : ∃ k so, opK o L = ask k so := by
  unfold opK
  split
  · exact ⟨_, _, rfl⟩
  · split
    · exact ⟨_, _, rfl⟩
    · exact ⟨_, _, rfl⟩
theorem law_kind (ts : List Ty) (bs : List Bd) (o x y : Int) (h1 : 3 ≤ o) (h2 : o ≤ 15) : kindS ts bs (lawL o x y) [] = opK o (if partsI o = 2 then [x, y] else [x]) := by
  have hp : ∀ L, partK ts bs ⟨o, 0, 0, ⟨#[]⟩, false, ⟨#[]⟩, ⟨#[]⟩⟩ L = opK o L := fun L => by
    unfold partK
    dsimp only
    rw [if_neg (by omega), if_neg (by omega)]
  have hc : ∀ k st, stepK ts bs st ⟨1, k, 0, ⟨#[]⟩, false, ⟨#[]⟩, ⟨#[]⟩⟩ = (k, 0) := fun k st => rfl
  have h10 : partsI 1 = 0 := by decide
  rcases law_parts o h1 h2 with ⟨hq, _⟩ | ⟨hq, _⟩
  · unfold lawL
    rw [if_neg (by omega), if_neg (by omega)]
    have e2 : stepK ts bs [x] ⟨o, 0, 0, ⟨#[]⟩, false, ⟨#[]⟩, ⟨#[]⟩⟩ = opK o [x] := by
      unfold stepK
      rw [hp, hq]
      rfl
    unfold kindS
    rw [hc]
    dsimp only
    rw [if_pos rfl, h10]
    unfold kindS
    show (if (stepK ts bs [x] _).2 = 0 then kindS ts bs [] (List.take ([x].length - (partsI o).toNat) [x] ++ [(stepK ts bs [x] _).1]) else (0, (stepK ts bs [x] _).2)) = _
    rw [e2, hq]
    obtain ⟨k, so, e⟩ := opK_ask o [x]
    rw [e]
    exact ask_end ts bs k so
  · unfold lawL
    rw [if_pos hq, if_pos hq]
    have e2 : stepK ts bs [x, y] ⟨o, 0, 0, ⟨#[]⟩, false, ⟨#[]⟩, ⟨#[]⟩⟩ = opK o [x, y] := by
      unfold stepK
      rw [hp, hq]
      rfl
    unfold kindS
    rw [hc]
    dsimp only
    rw [if_pos rfl, h10]
    unfold kindS
    rw [hc]
    dsimp only
    rw [if_pos rfl, h10]
    unfold kindS
    show (if (stepK ts bs [x, y] _).2 = 0 then kindS ts bs [] (List.take ([x, y].length - (partsI o).toNat) [x, y] ++ [(stepK ts bs [x, y] _).1]) else (0, (stepK ts bs [x, y] _).2)) = _
    rw [e2, hq]
    obtain ⟨k, so, e⟩ := opK_ask o [x, y]
    rw [e]
    exact ask_end ts bs k so
theorem law_want (o x y : Int) (h1 : 3 ≤ o) (h2 : o ≤ 15) (hxy : ¬ partsI o = 2 → y = x) : opK o (if partsI o = 2 then [x, y] else [x]) = (wantK o x y, errK (wantK o x y)) := by
  have hE : ∀ (k : Int) (so : Bool) (r : Int), k ≠ 0 → (so = true → r = k) → (so = false → r = 0) → ask k so = (r, errK r) := fun k so r hk ht hf => by
    cases so
    · rw [hf rfl]; rfl
    · rw [ht rfl]
      unfold ask errK
      rw [if_pos rfl, if_neg hk]
  rcases law_parts o h1 h2 with ⟨hq, hqo⟩ | ⟨hq, hqo⟩
  · have : y = x := hxy (by omega)
    subst this
    rw [if_neg (by omega)]
    unfold opK wantK
    rcases hqo with rfl | rfl
    · rw [if_pos (by omega)]
      refine hE _ _ _ (by decide) (fun h => ?_) (fun h => ?_)
      · simp at h; simp [h]
      · simp at h; simp [h]
    · rw [if_neg (by omega), if_pos (by omega)]
      refine hE _ _ _ (by decide) (fun h => ?_) (fun h => ?_)
      · simp at h; simp [h]
      · simp at h; simp [h]
  · rw [if_pos hq]
    unfold opK wantK
    by_cases h6 : o ≤ 6
    · rw [if_pos h6, if_neg (by omega), if_pos h6]
      refine hE _ _ _ (by decide) (fun h => ?_) (fun h => ?_)
      · simp at h; rw [if_pos h]
      · rw [if_neg (fun g => by simp [g] at h)]
    · rw [if_neg h6]
      by_cases h13 : 13 ≤ o
      · rw [if_pos h13, if_neg (by omega), if_neg h6]
        refine hE _ _ _ (by decide) (fun h => ?_) (fun h => ?_)
        · simp at h; rw [if_pos h]
        · rw [if_neg (fun g => by simp [g] at h)]
      · rw [if_neg h13, if_pos (by omega)]
        refine hE _ _ _ (by decide) (fun h => ?_) (fun h => ?_)
        · simp at h; rw [if_pos h.symm]
        · rw [if_neg (fun g => by simp [g] at h)]
end Go.Proofs.YtlpkeinablekpaaDoor.Ty

/- What the law TypingFields asks of its own schema. -/
namespace Go.Proofs.YtlpkeinablekpaaDoor.Ty
open Go.RowKit Go.Proofs.YtlpkeinablekpaaDoor Go.Proofs.YtlpkeinablekpaaDoor.Sch
set_option linter.unusedVariables false
set_option maxRecDepth 100000
def nA : ByteArray := ⟨#[65]⟩
def nB : ByteArray := ⟨#[66]⟩
def nC : ByteArray := ⟨#[67]⟩
def nv : ByteArray := ⟨#[118]⟩
def nw : ByteArray := ⟨#[119]⟩
def ny : ByteArray := ⟨#[121]⟩
def typesF : List Ty := [(nA, [(sx, 1)]), (nB, [(sx, 2)]), (nC, [(ny, 3)])]
theorem typesF_may : ∀ k (h : k < typesF.length), MayT typesF[k]
  | 0, _ => ⟨rfl, le8 rfl, fun
    | 0, _ => ⟨rfl, rfl, by rw [idx_data]; exact neg1⟩
    | k + 1, h => absurd (show k + 1 < 1 from h) (by omega)⟩
  | 1, _ => ⟨rfl, le8 rfl, fun
    | 0, _ => ⟨rfl, rfl, by rw [idx_data]; exact neg1⟩
    | k + 1, h => absurd (show k + 1 < 1 from h) (by omega)⟩
  | 2, _ => ⟨rfl, le8 rfl, fun
    | 0, _ => ⟨rfl, rfl, by rw [idx_data]; exact neg1⟩
    | k + 1, h => absurd (show k + 1 < 1 from h) (by omega)⟩
  | k + 3, h => absurd (show k + 3 < 3 from h) (by omega)
theorem typesF_names : ∀ k (h : k < typesF.length), idx ((typesF.take k).map Prod.fst) typesF[k].1 < 0
  | 0, _ => by rw [idx_data]; exact neg1
  | 1, _ => by rw [idx_data]; exact neg1
  | 2, _ => by rw [idx_data]; exact neg1
  | k + 3, h => absurd (show k + 3 < 3 from h) (by omega)
theorem typesF_ok {c : Int} (h : NewR typesF c) : c = 0 := by
  rcases h with ⟨h, _⟩ | ⟨_, k, hk, _, h, _⟩ | ⟨_, k, hk, _, _, h, _⟩ | ⟨_, _, h⟩
  · simp [typesF] at h
  · exact absurd (typesF_may k hk) h
  · have := typesF_names k hk; omega
  · exact h
/-- The name at a place. -/
def nmAt (i : Nat) : ByteArray := if i = 0 then nA else if i = 1 then nB else nC
/-- The names that the bits of q pick, of the first i. -/
def subs (q : Nat) : Nat → List ByteArray
  | 0 => []
  | i + 1 => if q / 2 ^ i % 2 = 1 then subs q i ++ [nmAt i] else subs q i
theorem fsAt {n f : ByteArray} {i j : Nat} {t : Ty} {x : Fld} (h1 : idx (typesF.map Prod.fst) n = (i : Nat)) (ht : typesF[i]? = some t) (h2 : idx (t.2.map Prod.fst) f = (j : Nat)) (hx : t.2[j]? = some x) : fieldS typesF n f = (((j : Nat) : Int), x.2) := by
  unfold fieldS
  rw [h1, Int.toNat_natCast, ht]
  dsimp only
  rw [h2, if_neg (by omega), Int.toNat_natCast, hx]
  dsimp only
  rw [if_neg (by omega)]
theorem fsNo {n f : ByteArray} {i : Nat} {t : Ty} (h1 : idx (typesF.map Prod.fst) n = (i : Nat)) (ht : typesF[i]? = some t) (h2 : idx (t.2.map Prod.fst) f < 0) : fieldS typesF n f = (-1, 0) := by
  unfold fieldS
  rw [h1, Int.toNat_natCast, ht]
  dsimp only
  rw [if_neg (by omega)]
  split
  · rfl
  · rw [if_pos h2]
theorem fAx : fieldS typesF nA sx = (0, 1) := fsAt (i := 0) (j := 0) (by rw [idx_data]; rfl) rfl (by rw [idx_data]; rfl) rfl
theorem fBx : fieldS typesF nB sx = (0, 2) := fsAt (i := 1) (j := 0) (by rw [idx_data]; rfl) rfl (by rw [idx_data]; rfl) rfl
theorem fCx : fieldS typesF nC sx = (-1, 0) := fsNo (i := 2) (by rw [idx_data]; rfl) rfl (by rw [idx_data]; exact neg1)
theorem fAy : fieldS typesF nA ny = (-1, 0) := fsNo (i := 0) (by rw [idx_data]; rfl) rfl (by rw [idx_data]; exact neg1)
theorem fBy : fieldS typesF nB ny = (-1, 0) := fsNo (i := 1) (by rw [idx_data]; rfl) rfl (by rw [idx_data]; exact neg1)
theorem fCy : fieldS typesF nC ny = (0, 3) := fsAt (i := 2) (j := 0) (by rw [idx_data]; rfl) rfl (by rw [idx_data]; rfl) rfl
def scF (q : Nat) : List Bd := [(nv, subs q 3)]
theorem idxv (q : Nat) : idx ((scF q).map Prod.fst) nv = (0 : Nat) := by rw [idx_data]; rfl
theorem idxw (q : Nat) : idx ((scF q).map Prod.fst) nw < 0 := by rw [idx_data]; exact neg1
theorem subs8 : subs 0 3 = [] ∧ subs 1 3 = [nA] ∧ subs 2 3 = [nB] ∧ subs 3 3 = [nA, nB] ∧ subs 4 3 = [nC] ∧ subs 5 3 = [nA, nC] ∧ subs 6 3 = [nB, nC] ∧ subs 7 3 = [nA, nB, nC] := by
  refine ⟨?_, ?_, ?_, ?_, ?_, ?_, ?_, ?_⟩ <;> simp [subs, nmAt]
def okx (q : Nat) : Int × Int := if q = 1 then (1, 0) else if q = 2 then (2, 0) else (0, 10)
def oky (q : Nat) : Int × Int := if q = 4 then (3, 0) else (0, 10)
theorem fkx (q : Nat) (h : q < 8) : fieldK typesF (scF q) nv sx = okx q := by
  rw [fieldK_at (idxv q) (b := (nv, subs q 3)) rfl]
  obtain ⟨e0, e1, e2, e3, e4, e5, e6, e7⟩ := subs8
  dsimp only
  match q, h with
  | 0, _ => rw [e0]; rfl
  | 1, _ => rw [e1]; simp [ask, clF, fAx, okx]
  | 2, _ => rw [e2]; simp [ask, clF, fBx, okx]
  | 3, _ => rw [e3]; simp [ask, clF, fAx, fBx, okx]
  | 4, _ => rw [e4]; simp [ask, clF, fCx, okx]
  | 5, _ => rw [e5]; simp [ask, clF, fAx, fCx, okx]
  | 6, _ => rw [e6]; simp [ask, clF, fBx, fCx, okx]
  | 7, _ => rw [e7]; simp [ask, clF, fAx, fBx, fCx, okx]
theorem fky (q : Nat) (h : q < 8) : fieldK typesF (scF q) nv ny = oky q := by
  rw [fieldK_at (idxv q) (b := (nv, subs q 3)) rfl]
  obtain ⟨e0, e1, e2, e3, e4, e5, e6, e7⟩ := subs8
  dsimp only
  match q, h with
  | 0, _ => rw [e0]; rfl
  | 1, _ => rw [e1]; simp [ask, clF, fAy, oky]
  | 2, _ => rw [e2]; simp [ask, clF, fBy, oky]
  | 3, _ => rw [e3]; simp [ask, clF, fAy, fBy, oky]
  | 4, _ => rw [e4]; simp [ask, clF, fCy, oky]
  | 5, _ => rw [e5]; simp [ask, clF, fAy, fCy, oky]
  | 6, _ => rw [e6]; simp [ask, clF, fBy, fCy, oky]
  | 7, _ => rw [e7]; simp [ask, clF, fAy, fBy, fCy, oky]
def ndF (v f : ByteArray) : List Nd := [⟨2, 0, 0, ⟨#[]⟩, false, v, f⟩]
theorem kind_one {ts : List Ty} {bs : List Bd} {v f : ByteArray} {k : Int × Int} (h : fieldK ts bs v f = k) (h0 : k.2 ≠ 0 → k.1 = 0) : kindS ts bs (ndF v f) [] = k := by
  unfold ndF kindS
  have e1 : stepK ts bs [] ⟨2, 0, 0, ⟨#[]⟩, false, v, f⟩ = k := by
    unfold stepK partK
    dsimp only
    rw [if_neg (by decide), if_pos rfl, h]
  rw [e1]
  obtain ⟨a, b⟩ := k
  by_cases hb : b = 0
  · subst hb; rfl
  · have := h0 hb
    simp at this
    subst this
    simp [hb]
theorem ndF_good {v f : ByteArray} (hn : OkN ⟨2, 0, 0, ⟨#[]⟩, false, v, f⟩) : Good (ndF v f) := by
  refine ⟨(show 1 ≤ 64 by decide), fun k hk => ?_, fun k hk => ?_, rfl⟩
  · match k, hk with
    | 0, _ => exact hn
  · match k, hk with
    | 0, _ => exact (show partsI 2 ≤ dep [] by decide)
theorem kx (q : Nat) (h : q < 8) : kindS typesF (scF q) (ndF nv sx) [] = okx q := kind_one (fkx q h) (by unfold okx; split; simp; split <;> simp)
theorem ky (q : Nat) (h : q < 8) : kindS typesF (scF q) (ndF nv ny) [] = oky q := kind_one (fky q h) (by unfold oky; split <;> simp)
theorem kw (q : Nat) : kindS typesF (scF q) (ndF nw sx) [] = (0, 3) := kind_one (fieldK_no (idxw q)) (by simp)
theorem gvx : Good (ndF nv sx) := ndF_good (.field rfl rfl)
theorem gvy : Good (ndF nv ny) := ndF_good (.field rfl rfl)
theorem gwx : Good (ndF nw sx) := ndF_good (.field rfl rfl)
/-- The law's own types lie in a row. -/
theorem ts_made (w : World) : Ts ((((w.alloc (.cells #[.string ⟨#[120]⟩, .int .i64 1] 85)).alloc (.cells #[.string ⟨#[120]⟩, .int .i64 2] 85)).alloc (.cells #[.string ⟨#[121]⟩, .int .i64 3] 85)).alloc
      (.cells #[.string ⟨#[65]⟩, .slice (some ⟨w.heap.size, 0, none⟩) 1 1, .string ⟨#[66]⟩, .slice (some ⟨w.heap.size + 1, 0, none⟩) 1 1, .string ⟨#[67]⟩, .slice (some ⟨w.heap.size + 1 + 1, 0, none⟩) 1 1] 80))
    (w.heap.size + 1 + 1 + 1 + 1) (.slice (some ⟨w.heap.size + 1 + 1 + 1, 0, none⟩) 3 3) typesF := by
  have r0 := (((Row.made w 85 #[.string ⟨#[120]⟩, .int .i64 1]).alloc (.cells #[.string ⟨#[120]⟩, .int .i64 2] 85)).alloc (.cells #[.string ⟨#[121]⟩, .int .i64 3] 85)).alloc (.cells #[.string ⟨#[65]⟩, .slice (some ⟨w.heap.size, 0, none⟩) 1 1, .string ⟨#[66]⟩, .slice (some ⟨w.heap.size + 1, 0, none⟩) 1 1, .string ⟨#[67]⟩, .slice (some ⟨w.heap.size + 1 + 1, 0, none⟩) 1 1] 80)
  have r1 := ((row_at (w := w.alloc (.cells #[.string ⟨#[120]⟩, .int .i64 1] 85)) (n := w.heap.size + 1) (by simp) 85 #[.string ⟨#[120]⟩, .int .i64 2]).alloc (.cells #[.string ⟨#[121]⟩, .int .i64 3] 85)).alloc (.cells #[.string ⟨#[65]⟩, .slice (some ⟨w.heap.size, 0, none⟩) 1 1, .string ⟨#[66]⟩, .slice (some ⟨w.heap.size + 1, 0, none⟩) 1 1, .string ⟨#[67]⟩, .slice (some ⟨w.heap.size + 1 + 1, 0, none⟩) 1 1] 80)
  have r2 := (row_at (w := (w.alloc (.cells #[.string ⟨#[120]⟩, .int .i64 1] 85)).alloc (.cells #[.string ⟨#[120]⟩, .int .i64 2] 85)) (n := w.heap.size + 1 + 1) (by simp) 85 #[.string ⟨#[121]⟩, .int .i64 3]).alloc (.cells #[.string ⟨#[65]⟩, .slice (some ⟨w.heap.size, 0, none⟩) 1 1, .string ⟨#[66]⟩, .slice (some ⟨w.heap.size + 1, 0, none⟩) 1 1, .string ⟨#[67]⟩, .slice (some ⟨w.heap.size + 1 + 1, 0, none⟩) 1 1] 80)
  have r6 := row_at (w := ((w.alloc (.cells #[.string ⟨#[120]⟩, .int .i64 1] 85)).alloc (.cells #[.string ⟨#[120]⟩, .int .i64 2] 85)).alloc (.cells #[.string ⟨#[121]⟩, .int .i64 3] 85)) (n := w.heap.size + 1 + 1 + 1) (by simp) 80 #[.string ⟨#[65]⟩, .slice (some ⟨w.heap.size, 0, none⟩) 1 1, .string ⟨#[66]⟩, .slice (some ⟨w.heap.size + 1, 0, none⟩) 1 1, .string ⟨#[67]⟩, .slice (some ⟨w.heap.size + 1 + 1, 0, none⟩) 1 1]
  refine ⟨_, 3, rfl, Nat.le_refl 3, by omega, fun k h => ?_⟩
  match k, h with
  | 0, _ => exact ⟨_, 0, _, rfl, by omega, (r6.cell 0).trans rfl, (r6.cell 1).trans rfl, fs_of_row [(sx, 1)] r0 rfl rfl (by omega) (by omega)⟩
  | 1, _ => exact ⟨_, 0, _, rfl, by omega, (r6.cell 2).trans rfl, (r6.cell 3).trans rfl, fs_of_row [(sx, 2)] r1 rfl rfl (by omega) (by omega)⟩
  | 2, _ => exact ⟨_, 0, _, rfl, by omega, (r6.cell 4).trans rfl, (r6.cell 5).trans rfl, fs_of_row [(ny, 3)] r2 rfl rfl (by omega) (by omega)⟩
  | k + 3, h => exact absurd (show k + 3 < 3 from h) (by omega)
end Go.Proofs.YtlpkeinablekpaaDoor.Ty

/- Predicates put together: what they come to. -/
namespace Go.Proofs.YtlpkeinablekpaaDoor.Ty
open Go.RowKit Go.Proofs.YtlpkeinablekpaaDoor Go.Proofs.YtlpkeinablekpaaDoor.Sch
set_option linter.unusedVariables false
set_option maxRecDepth 100000
theorem dep_app (l r : List Nd) : dep (l ++ r) = dep l + dep r := by
  unfold dep
  rw [List.map_append, List.sum_append]
/-- A predicate that comes to a kind, whatever is ahead of it. -/
structure PL (ts : List Ty) (bs : List Bd) (kd : Int) (B : Nat) (L : List Nd) : Prop where
  len : L.length ≤ B
  ok : ∀ k (h : k < L.length), OkN L[k]
  low : ∀ k (h : k < L.length), partsI L[k].op ≤ dep (L.take k)
  one : dep L = 1
  sem : ∀ st rest, kindS ts bs (L ++ rest) st = kindS ts bs rest (st ++ [kd])
  num : ∀ n ∈ L, -9223372036854775808 ≤ n.i ∧ n.i ≤ 9223372036854775807
theorem PL.good {ts : List Ty} {bs : List Bd} {kd : Int} {B : Nat} {L : List Nd} (h : PL ts bs kd B L) (hB : B ≤ 64) : Good L := ⟨Nat.le_trans h.len hB, h.ok, h.low, h.one⟩
theorem PL.kind {ts : List Ty} {bs : List Bd} {kd : Int} {B : Nat} {L : List Nd} (h : PL ts bs kd B L) : kindS ts bs L [] = (kd, 0) := by
  have := h.sem [] []
  rw [List.append_nil] at this
  rw [this]
  rfl
theorem PL.more {ts : List Ty} {bs : List Bd} {kd : Int} {B C : Nat} {L : List Nd} (h : PL ts bs kd B L) (hB : B ≤ C) : PL ts bs kd C L := ⟨Nat.le_trans h.len hB, h.ok, h.low, h.one, h.sem, h.num⟩
theorem kindS_cons (ts : List Ty) (bs : List Bd) (n : Nd) (r : List Nd) (st : List Int) : kindS ts bs (n :: r) st = if (stepK ts bs st n).2 = 0 then kindS ts bs r (st.take (st.length - (partsI n.op).toNat) ++ [(stepK ts bs st n).1]) else (0, (stepK ts bs st n).2) := rfl
def opn (o : Int) : Nd := ⟨o, 0, 0, ⟨#[]⟩, false, ⟨#[]⟩, ⟨#[]⟩⟩
theorem PL.leaf {ts : List Ty} {bs : List Bd} {kd : Int} (nd : Nd) (hok : OkN nd) (hp : partsI nd.op = 0) (hk : ∀ L, partK ts bs nd L = (kd, 0)) (hi : -9223372036854775808 ≤ nd.i ∧ nd.i ≤ 9223372036854775807 := by first | decide | (dsimp only; decide)) : PL ts bs kd 1 [nd] := by
  refine ⟨Nat.le_refl _, fun k h => ?_, fun k h => ?_, ?_, fun st rest => ?_, fun n hn => by obtain rfl := List.mem_singleton.1 hn; exact hi⟩
  · match k, h with
    | 0, _ => exact hok
  · match k, h with
    | 0, _ => show partsI nd.op ≤ dep []; rw [hp]; decide
  · show (1 - partsI nd.op) + 0 = 1
    omega
  · show kindS ts bs (nd :: rest) st = _
    have e : stepK ts bs st nd = (kd, 0) := hk _
    rw [kindS_cons, e, if_pos rfl, hp]
    simp
theorem low_app {l r : List Nd} (h1 : ∀ k (h : k < l.length), partsI l[k].op ≤ dep (l.take k)) (d1 : 0 ≤ dep l) (h2 : ∀ k (h : k < r.length), partsI r[k].op ≤ dep l + dep (r.take k)) : ∀ k (h : k < (l ++ r).length), partsI (l ++ r)[k].op ≤ dep ((l ++ r).take k) := by
  intro k hk
  by_cases h : k < l.length
  · rw [List.getElem_append_left h, List.take_append_of_le_length (by omega)]
    exact h1 k h
  · have hr : k - l.length < r.length := by simp at hk; omega
    rw [List.getElem_append_right (by omega), List.take_append, List.take_of_length_le (by omega), dep_app]
    exact h2 _ hr
theorem PL.op1 {ts : List Ty} {bs : List Bd} {kd kr : Int} {B : Nat} {l : List Nd} (h : PL ts bs kd B l) (o : Int) (h1 : 3 ≤ o) (h2 : o ≤ 15) (hp : partsI o = 1) (hk : opK o [kd] = (kr, 0)) : PL ts bs kr (B + 1) (l ++ [opn o]) := by
  refine ⟨by have := h.len; simp; omega, fun k hk => ?_, low_app h.low (by have := h.one; omega) (fun k hk => ?_), ?_, fun st rest => ?_, fun n hn => by
    rcases List.mem_append.1 hn with hn | hn
    · exact h.num n hn
    · obtain rfl := List.mem_singleton.1 hn; exact (show -9223372036854775808 ≤ (0 : Int) ∧ (0 : Int) ≤ 9223372036854775807 by decide)⟩
  · by_cases hh : k < l.length
    · rw [List.getElem_append_left hh]; exact h.ok k hh
    · have e : k = l.length := by simp at hk; omega
      subst e
      simp [opn]
      exact .op o h1 h2
  · match k, hk with
    | 0, _ => show partsI o ≤ dep l + 0; rw [hp, h.one]; decide
  · rw [dep_snoc, h.one]
    show 1 + (1 - partsI o) = 1
    omega
  · rw [List.append_assoc, h.sem]
    show kindS ts bs (opn o :: rest) (st ++ [kd]) = _
    have e : stepK ts bs (st ++ [kd]) (opn o) = (kr, 0) := by
      unfold stepK partK
      rw [if_neg (show ¬ (opn o).op = 1 from (show ¬ o = 1 by omega)), if_neg (show ¬ (opn o).op = 2 from (show ¬ o = 2 by omega))]
      have : (st ++ [kd]).drop ((st ++ [kd]).length - (partsI (opn o).op).toNat) = [kd] := by
        show (st ++ [kd]).drop ((st ++ [kd]).length - (partsI o).toNat) = [kd]
        rw [hp]
        simp
      rw [this]
      exact hk
    rw [kindS_cons, e, if_pos rfl]
    show kindS ts bs rest ((st ++ [kd]).take ((st ++ [kd]).length - (partsI o).toNat) ++ [kr]) = _
    rw [hp]
    simp
theorem PL.op2 {ts : List Ty} {bs : List Bd} {k1 k2 kr : Int} {B C : Nat} {l r : List Nd} (h : PL ts bs k1 B l) (g : PL ts bs k2 C r) (o : Int) (h1 : 3 ≤ o) (h2 : o ≤ 15) (hp : partsI o = 2) (hk : opK o [k1, k2] = (kr, 0)) : PL ts bs kr (B + C + 1) ((l ++ r) ++ [opn o]) := by
  have hlr : ∀ k (h : k < (l ++ r).length), partsI (l ++ r)[k].op ≤ dep ((l ++ r).take k) := low_app h.low (by have := h.one; omega) (fun k hk => by have := g.low k hk; have := h.one; omega)
  have hd : dep (l ++ r) = 2 := by rw [dep_app, h.one, g.one]; rfl
  refine ⟨by have := h.len; have := g.len; simp; omega, fun k hk => ?_, low_app hlr (by omega) (fun k hk => ?_), ?_, fun st rest => ?_, fun n hn => by
    rcases List.mem_append.1 hn with hn | hn
    · rcases List.mem_append.1 hn with hn | hn
      · exact h.num n hn
      · exact g.num n hn
    · obtain rfl := List.mem_singleton.1 hn; exact (show -9223372036854775808 ≤ (0 : Int) ∧ (0 : Int) ≤ 9223372036854775807 by decide)⟩
  · by_cases hh : k < (l ++ r).length
    · rw [List.getElem_append_left hh]
      by_cases hl : k < l.length
      · rw [List.getElem_append_left hl]; exact h.ok k hl
      · rw [List.getElem_append_right (by omega)]; exact g.ok _ _
    · have e : k = (l ++ r).length := by simp at hk hh; simp; omega
      subst e
      simp [opn]
      exact .op o h1 h2
  · match k, hk with
    | 0, _ => show partsI o ≤ dep (l ++ r) + 0; rw [hp, hd]; decide
  · rw [dep_snoc, hd]
    show 2 + (1 - partsI o) = 1
    omega
  · rw [List.append_assoc, List.append_assoc, h.sem, g.sem]
    show kindS ts bs (opn o :: rest) ((st ++ [k1]) ++ [k2]) = _
    have e : stepK ts bs ((st ++ [k1]) ++ [k2]) (opn o) = (kr, 0) := by
      unfold stepK partK
      rw [if_neg (show ¬ (opn o).op = 1 from (show ¬ o = 1 by omega)), if_neg (show ¬ (opn o).op = 2 from (show ¬ o = 2 by omega))]
      have : ((st ++ [k1]) ++ [k2]).drop (((st ++ [k1]) ++ [k2]).length - (partsI (opn o).op).toNat) = [k1, k2] := by
        show ((st ++ [k1]) ++ [k2]).drop (((st ++ [k1]) ++ [k2]).length - (partsI o).toNat) = [k1, k2]
        rw [hp]
        simp
      rw [this]
      exact hk
    rw [kindS_cons, e, if_pos rfl]
    show kindS ts bs rest (((st ++ [k1]) ++ [k2]).take (((st ++ [k1]) ++ [k2]).length - (partsI o).toNat) ++ [kr]) = _
    rw [hp]
    simp
/-- What three variables stand for, by a number's bits. -/
def lsAt (i : Nat) : List ByteArray := if i = 0 then [nA] else if i = 1 then [nA, nB] else if i = 2 then [nC, nA] else [nB, nC]
def scN (x y z : Nat) : List Bd := [(⟨#[97]⟩, lsAt x), (⟨#[98]⟩, lsAt y), (⟨#[99]⟩, lsAt z)]
def vAt (i : Nat) : ByteArray := if i = 0 then ⟨#[97]⟩ else if i = 1 then ⟨#[98]⟩ else ⟨#[99]⟩
end Go.Proofs.YtlpkeinablekpaaDoor.Ty

/- What three variables stand for, by a number; what their fields come to. -/
namespace Go.Proofs.YtlpkeinablekpaaDoor.Ty
open Go.RowKit Go.Proofs.YtlpkeinablekpaaDoor Go.Proofs.YtlpkeinablekpaaDoor.Sch
set_option linter.unusedVariables false
set_option maxRecDepth 100000
theorem gAt {n f : ByteArray} {i j : Nat} {t : Ty} {x : Fld} (h1 : idx (typesL.map Prod.fst) n = (i : Nat)) (ht : typesL[i]? = some t) (h2 : idx (t.2.map Prod.fst) f = (j : Nat)) (hx : t.2[j]? = some x) : fieldS typesL n f = (((j : Nat) : Int), x.2) := by
  unfold fieldS
  rw [h1, Int.toNat_natCast, ht]
  dsimp only
  rw [h2, if_neg (by omega), Int.toNat_natCast, hx]
  dsimp only
  rw [if_neg (by omega)]
theorem gAx : fieldS typesL nA sx = (0, 1) := gAt (i := 0) (j := 0) (by rw [idx_data]; rfl) rfl (by rw [idx_data]; rfl) rfl
theorem gBx : fieldS typesL nB sx = (0, 1) := gAt (i := 1) (j := 0) (by rw [idx_data]; rfl) rfl (by rw [idx_data]; rfl) rfl
theorem gCx : fieldS typesL nC sx = (1, 1) := gAt (i := 2) (j := 1) (by rw [idx_data]; rfl) rfl (by rw [idx_data]; rfl) rfl
theorem gAs : fieldS typesL nA ss = (1, 2) := gAt (i := 0) (j := 1) (by rw [idx_data]; rfl) rfl (by rw [idx_data]; rfl) rfl
theorem gBs : fieldS typesL nB ss = (1, 2) := gAt (i := 1) (j := 1) (by rw [idx_data]; rfl) rfl (by rw [idx_data]; rfl) rfl
theorem gCs : fieldS typesL nC ss = (0, 2) := gAt (i := 2) (j := 0) (by rw [idx_data]; rfl) rfl (by rw [idx_data]; rfl) rfl
def askL (L : List ByteArray) (f : ByteArray) : Int × Int := match L with
  | [] => (0, 10)
  | t :: r => ask (fieldS typesL t f).2 (decide (0 ≤ (fieldS typesL t f).1) && (t :: r).all (clF typesL f (fieldS typesL t f).2))
theorem askx (j : Nat) : askL (lsAt j) sx = (1, 0) := by
  unfold lsAt
  split
  · simp [askL, ask, clF, gAx]
  · split
    · simp [askL, ask, clF, gAx, gBx]
    · split
      · simp [askL, ask, clF, gCx, gAx]
      · simp [askL, ask, clF, gBx, gCx]
theorem asks (j : Nat) : askL (lsAt j) ss = (2, 0) := by
  unfold lsAt
  split
  · simp [askL, ask, clF, gAs]
  · split
    · simp [askL, ask, clF, gAs, gBs]
    · split
      · simp [askL, ask, clF, gCs, gAs]
      · simp [askL, ask, clF, gBs, gCs]
theorem fieldN (x y z i : Nat) (hi : i < 3) (f : ByteArray) (k : Int × Int) (h : ∀ j, askL (lsAt j) f = k) : fieldK typesL (scN x y z) (vAt i) f = k := by
  match i, hi with
  | 0, _ =>
    rw [fieldK_at (i := 0) (by rw [idx_data]; rfl) (b := (⟨#[97]⟩, lsAt x)) rfl]
    exact h x
  | 1, _ =>
    rw [fieldK_at (i := 1) (by rw [idx_data]; rfl) (b := (⟨#[98]⟩, lsAt y)) rfl]
    exact h y
  | 2, _ =>
    rw [fieldK_at (i := 2) (by rw [idx_data]; rfl) (b := (⟨#[99]⟩, lsAt z)) rfl]
    exact h z
def ln4 (j : Nat) : Nat := if j = 0 then 1 else 2
def tvAt (B j : Nat) : Value := .slice (some ⟨B + j, 0, none⟩) (ln4 j) (ln4 j)
def ScN (w : World) (e : Ending) (w' : World) : Prop := ∃ v x y z, e = .returned v ∧ Bs w' w'.heap.size v (scN x y z) ∧ Below w.heap.size w w'
theorem sl_row {w : World} {g : Nat} {L : List ByteArray} {n : Nat} (h : Row w g 9 (L.map Value.string).toArray) (hn : L.length = n) (h9 : n ≤ 100) : SL w w.heap.size (.slice (some ⟨g, 0, none⟩) n n) L := by
  subst hn
  refine ⟨_, _, rfl, Nat.le_refl _, by omega, fun k hk => ⟨g, 0, rfl, h.lt, ?_⟩⟩
  rw [h.cell]
  simp [hk]
end Go.Proofs.YtlpkeinablekpaaDoor.Ty

