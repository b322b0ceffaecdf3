/- Those of some messages that go to a part. -/
import Derived.Test.YtpgacadnmekdhaaMsH
import Derived.Test.YtpgacadnmekdhaaMsF
namespace Go.Proofs.Ytpgacadnmekdhaa.Ms
open Go.RowKit Go.Proofs.Ytpgacadnmekdhaa Go.Proofs.Ytpgacadnmekdhaa.Ev
set_option linter.unusedVariables false
set_option maxRecDepth 100000
def TwinEnd (w : World) (kind tick : Int) (ty key : ByteArray) (t q : Int) (vs : List VV) (T : Int) (id : ByteArray) (win cap : Int) (e : Ending) (w' : World) : Prop :=
  ∃ yA yc yob, e = .returned (.agg #[.int .i64 kind, .int .i64 tick, .string ty, .string key, .int .i64 t, .int .i64 q, .slice yA vs.length yc, .int .i64 T, .string id, .slice none 0 0, .int .i64 win, .int .i64 cap]) ∧ Cpy w w' vs yA yc yob
/-- What is asked of twin. -/
def TwinAny : Prop := ∀ (kind tick : Int) (ty key : ByteArray) (t q : Int) (A : Option Addr) (c : Nat) (vs : List VV) (T : Int) (id : ByteArray) (win cap : Int) (w : World) (h : Vls w A c vs),
    Calls Try.prog 105 #[.agg #[.int .i64 kind, .int .i64 tick, .string ty, .string key, .int .i64 t, .int .i64 q, .slice A vs.length c, .int .i64 T, .string id, .slice none 0 0, .int .i64 win, .int .i64 cap]] w (TwinEnd w kind tick ty key t q vs T id win cap)
/-- A list of messages of the law's, where it lies. -/
structure Lst (w : World) (v : Value) (ms : List Mg) : Prop where
  seg : ∃ ob, Seg w 85 12 v ms.length (mcells ms) ob
  ok : ∀ (i : Nat) (m : Mg), ms[i]? = some m → MgOk w m
theorem mcells_get : ∀ (ms : List Mg) (i : Nat) (m : Mg) (j : Nat) (u : Value), ms[i]? = some m → m.cells[j]? = some u → (mcells ms)[i * 12 + j]? = some u
  | [], i, m, j, u, h, _ => by simp at h
  | y :: r, 0, m, j, u, h, hj => by
    simp at h
    subst h
    show (y.cells ++ mcells r)[0 * 12 + j]? = some u
    have : j < y.cells.length := (List.getElem?_eq_some_iff.1 hj).1
    rw [Nat.zero_mul, Nat.zero_add, List.getElem?_append_left this]
    exact hj
  | y :: r, i + 1, m, j, u, h, hj => by
    have ih := mcells_get r i m j u (by simpa using h) hj
    show (y.cells ++ mcells r)[(i + 1) * 12 + j]? = some u
    rw [List.getElem?_append_right (by simp [Mg.cells]; omega)]
    rw [← ih]
    congr 1
    simp [Mg.cells]
    omega
theorem Lst.call {w w' : World} {v : Value} {ms : List Mg} (h : Lst w v ms) (g : Below w.heap.size w w') : Lst w' v ms := by
  obtain ⟨ob, hs⟩ := h.seg
  exact ⟨⟨ob, hs.turns (Turns.of_below g) (fun _ _ x => x)⟩, fun i m hm => (h.ok i m hm).call g⟩
theorem Lst.at {w : World} {v : Value} {ms : List Mg} (h : Lst w v ms) {i : Nat} {m : Mg} (hm : ms[i]? = some m) :
    ∃ g o cap, v = .slice (some ⟨g, o, none⟩) ms.length cap ∧ ms.length ≤ cap ∧ cap ≤ 9223372036854775807 ∧ g < w.heap.size ∧ ∀ j u, m.cells[j]? = some u → w.cell? ⟨g, o + i * 12 + j, none⟩ = some u := by
  obtain ⟨ob, hs⟩ := h.seg
  have hi : i < ms.length := (List.getElem?_eq_some_iff.1 hm).1
  obtain ⟨g, o, cap, hv, hob, h1, h2, hc, _⟩ := hs.shape (by omega)
  exact ⟨g, o, cap, hv, h1, by unfold maxLen at h2; omega, hs.lt g hob, fun j u hj => by rw [Nat.add_assoc]; exact hc _ _ (mcells_get ms i m j u hm hj)⟩
/-- b is a's twin: all but where its values lie. -/
structure Tw (w : World) (a b : Mg) : Prop where
  eq : b = { a with vA := b.vA, vc := b.vc, eA := none, en := 0, ec := 0 }
  vl : ∃ yob, Seg w 94 4 (.slice b.vA b.vs.length b.vc) b.vs.length (vcells b.vs) yob
theorem Tw.turns {w w' : World} {a b : Mg} {S : Nat → Prop} (h : Tw w a b) (g : Turns w w' S) (hs : ∀ b, S b → ∃ t c, t ≠ 94 ∧ Row w b t c) : Tw w' a b := by
  obtain ⟨yob, h1⟩ := h.vl
  refine ⟨h.eq, yob, h1.turns g (fun k hk hS => ?_)⟩
  subst hk
  obtain ⟨c, hr⟩ := seg_row h1
  obtain ⟨t, c', hn, hr'⟩ := hs k hS
  exact row_ne hr hr' (fun e => hn e.symm) rfl
theorem Tw.call {w w' : World} {a b : Mg} (h : Tw w a b) (g : Below w.heap.size w w') : Tw w' a b := h.turns (Turns.of_below g) (fun _ x => x.elim)
structure ForI (w0 w : World) (v : Value) (ob : Option Nat) (xs ys : List Mg) : Prop where
  be : Below w0.heap.size w0 w
  seg : Seg w 85 12 v ys.length (mcells ys) ob
  ge : ∀ g, ob = some g → w0.heap.size ≤ g
  ln : ys.length = xs.length
  tw : ∀ (i : Nat) (a b : Mg), xs[i]? = some a → ys[i]? = some b → Tw w a b
def ForEnd (w : World) (xs : List Mg) (e : Ending) (w' : World) : Prop := ∃ v ob ys, e = .returned v ∧ ForI w w' v ob xs ys
section
variable {w0 w w' : World} {v : Value} {ob : Option Nat} {xs ys : List Mg}
theorem ForI.call (h : ForI w0 w v ob xs ys) (g : Below w.heap.size w w') : ForI w0 w' v ob xs ys :=
  ⟨h.be.trans (g.mono h.be.size), h.seg.turns (Turns.of_below g) (fun _ _ x => x), h.ge, h.ln, fun i a b h1 h2 => (h.tw i a b h1 h2).call g⟩
theorem ForI.more {w3 : World} {v2 : Value} {ob2 : Option Nat} {a b : Mg} (h : ForI w0 w v ob xs ys) (ht : Tw w a b) (o : Obj) (hs2 : Seg w3 85 12 v2 (ys.length + 1) (mcells ys ++ b.cells) ob2) (ht2 : Turns (w.alloc o) w3 (fun j => ob = some j)) (ho2 : ob2 = ob ∨ ∃ g, ob2 = some g ∧ (w.alloc o).heap.size ≤ g) :
    ForI w0 w3 v2 ob2 (xs ++ [a]) (ys ++ [b]) := by
  have ha := h.call ((Below.refl _ w).alloc (Nat.le_refl _) o)
  have hta := ht.call ((Below.refl _ w).alloc (Nat.le_refl _) o)
  have hS : ∀ b, ob = some b → ∃ t c, t ≠ 94 ∧ Row (w.alloc o) b t c := fun b hb => by
    have := ha.seg
    rw [hb] at this
    obtain ⟨c, hr⟩ := seg_row this
    exact ⟨_, c, by decide, hr⟩
  refine ⟨ht2.below ha.be ha.be.size (fun j hj e => by have := h.ge j e; omega), ?_, ?_, ?_, ?_⟩
  · have : mcells (ys ++ [b]) = mcells ys ++ b.cells := by simp [mcells]
    rw [this, List.length_append]
    exact hs2
  · intro g hg
    rcases ho2 with rfl | ⟨g', rfl, hg'⟩
    · exact h.ge g hg
    · cases hg
      have := ha.be.size
      omega
  · rw [List.length_append, List.length_append, h.ln]
    rfl
  · intro i a' b' h1 h2
    rw [List.getElem?_append] at h1 h2
    rw [h.ln] at h2
    split at h1
    · rename_i hlt
      rw [if_pos hlt] at h2
      exact (ha.tw i a' b' h1 h2).turns ht2 hS
    · rename_i hge
      rw [if_neg hge] at h2
      have hi : i - xs.length = 0 := by
        have := (List.getElem?_eq_some_iff.1 h1).1
        simp at this
        omega
      rw [hi] at h1 h2
      simp at h1 h2
      subst h1 h2
      exact hta.turns ht2 hS
end
theorem filter_take_succ (p : Mg → Bool) (ms : List Mg) (k : Nat) (m : Mg) (h : ms[k]? = some m) : (ms.take (k + 1)).filter p = (ms.take k).filter p ++ if p m = true then [m] else [] := by
  have hk := (List.getElem?_eq_some_iff.1 h).1
  rw [List.take_add_one, h, List.filter_append]
  simp only [Option.toList_some]
  split <;> rename_i hp <;> simp [hp]
end Go.Proofs.Ytpgacadnmekdhaa.Ms
