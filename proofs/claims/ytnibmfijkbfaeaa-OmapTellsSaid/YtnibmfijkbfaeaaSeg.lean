/- Slices of the call's own, wherever they begin in their block: read, cut, appended to; and which blocks a call may have turned. -/
import Derived.Test.YtnibmfijkbfaeaaMem
import Derived.ArgAppend
namespace Go.Proofs.Ytnibmfijkbfaeaa
open Go.RowKit
set_option linter.unusedVariables false

/-- Of the blocks that there were, only such as are in S have turned. -/
structure Turns (w w' : World) (S : Nat → Prop) : Prop where
  os : w'.os = w.os
  tape : w'.tape = w.tape
  output : w'.output = w.output
  size : w.heap.size ≤ w'.heap.size
  block : ∀ k, k < w.heap.size → ¬ S k → w'.heap[k]? = w.heap[k]?
section
variable {w w1 w2 : World} {S S' : Nat → Prop}
theorem Turns.refl (w : World) (S : Nat → Prop) : Turns w w S := ⟨rfl, rfl, rfl, Nat.le_refl _, fun _ _ _ => rfl⟩
theorem Turns.trans (h : Turns w w1 S) (g : Turns w1 w2 S') (hs : ∀ k, k < w.heap.size → S' k → S k) : Turns w w2 S :=
  ⟨g.os.trans h.os, g.tape.trans h.tape, g.output.trans h.output, Nat.le_trans h.size g.size, fun k hk hn => (g.block k (Nat.lt_of_lt_of_le hk h.size) (fun e => hn (hs k hk e))).trans (h.block k hk hn)⟩
theorem Turns.mono (h : Turns w w1 S) (hs : ∀ k, k < w.heap.size → S k → S' k) : Turns w w1 S' := ⟨h.os, h.tape, h.output, h.size, fun k hk hn => h.block k hk (fun e => hn (hs k hk e))⟩
theorem Turns.of_grown {r : Option Nat} (h : w.grownBy w1 r) : Turns w w1 (fun k => r = some k) := ⟨h.os, h.tape, h.output, h.size, fun k hk hn => h.block k hk (fun e => hn e.symm)⟩
theorem Turns.of_below (h : Below w.heap.size w w1) : Turns w w1 (fun _ => False) := ⟨h.os, h.tape, h.output, h.size, fun k hk _ => h.block k hk⟩
theorem Turns.alloc (h : Turns w w1 S) (o : Obj) : Turns w (w1.alloc o) S := h.trans (of_grown (grown_alloc w1 o none)) (fun _ _ e => by cases e)
theorem Turns.drewN (h : Turns w w1 S) (n : Nat) : Turns w (w1.drewN n) S := h.trans (of_grown (grown_drewN w1 n none)) (fun _ _ e => by cases e)
theorem Turns.put (h : Turns w w1 S) (b i : Nat) (u : Value) (hb : b < w.heap.size → S b) : Turns w (w1.setCell ⟨b, i, none⟩ u) S :=
  h.trans (of_grown (grown_set w1 b i u)) (fun k hk e => by cases e; exact hb hk)
theorem Turns.below {B : Nat} {w0 : World} (h : Turns w w1 S) (h0 : Below B w0 w) (hB : B ≤ w.heap.size) (hs : ∀ k, k < B → ¬ S k) : Below B w0 w1 :=
  h0.trans ⟨h.os, h.tape, h.output, h.size, fun k hk => h.block k (by omega) (hs k hk)⟩
theorem Row.turns {b : Nat} {t : TypeId} {cs : Array Value} (h : Row w b t cs) (g : Turns w w1 S) (hb : ¬ S b) : Row w1 b t cs := (g.block b h.lt hb).trans h
end

/-- A slice of n things of so many cells each: its cells are xs; it lies in block ob (none: it has no room for anything). -/
def Seg (w : World) (e : TypeId) (size : Nat) (v : Value) (n : Nat) (xs : List Value) (ob : Option Nat) : Prop :=
  xs.length = n * size ∧ ∃ A cap, v = .slice A n cap ∧ n ≤ cap ∧ cap ≤ maxLen ∧
    ((cap = 0 ∧ ob = none ∧ (A = none → True)) ∨ ∃ g o cur, A = some ⟨g, o, none⟩ ∧ ob = some g ∧ w.heap[g]? = some (.cells cur e (0, 0)) ∧ o + cap * size ≤ cur.size ∧ (cur.toList.drop o).take (n * size) = xs)
section
variable {P : Program} {w w' : World} {e : TypeId} {size : Nat} {v : Value} {n : Nat} {xs : List Value} {ob : Option Nat}
theorem Seg.nil (w : World) (e : TypeId) (size : Nat) : Seg w e size (.slice none 0 0) 0 [] none := ⟨by simp, _, 0, rfl, Nat.le_refl _, by unfold maxLen; omega, .inl ⟨rfl, rfl, fun _ => trivial⟩⟩
theorem Seg.lt (h : Seg w e size v n xs ob) : ∀ g, ob = some g → g < w.heap.size := by
  intro g hg
  obtain ⟨_, A, cap, _, _, _, ⟨_, h2, _⟩ | ⟨g', o, cur, _, h2, h3, _⟩⟩ := h
  · rw [h2] at hg; cases hg
  · rw [h2] at hg; cases hg; exact (Array.getElem?_eq_some_iff.1 h3).1
theorem Seg.keep (h : Seg w e size v n xs ob) (hk : ∀ g, ob = some g → w'.heap[g]? = w.heap[g]?) : Seg w' e size v n xs ob := by
  obtain ⟨h0, A, cap, hv, h1, h2, h3⟩ := h
  refine ⟨h0, A, cap, hv, h1, h2, ?_⟩
  rcases h3 with h3 | ⟨g, o, cur, a1, a2, a3, a4, a5⟩
  · exact .inl h3
  · exact .inr ⟨g, o, cur, a1, a2, by rw [hk g a2]; exact a3, a4, a5⟩
theorem Seg.turns {S : Nat → Prop} (h : Seg w e size v n xs ob) (g : Turns w w' S) (hs : ∀ b, ob = some b → ¬ S b) : Seg w' e size v n xs ob :=
  h.keep fun b hb => g.block b (h.lt b hb) (hs b hb)
theorem Seg.alloc (h : Seg w e size v n xs ob) (o : Obj) : Seg (w.alloc o) e size v n xs ob := h.keep fun g hg => Below.heap_alloc w o g (h.lt g hg)
theorem Seg.drewN (h : Seg w e size v n xs ob) (k : Nat) : Seg (w.drewN k) e size v n xs ob := h
theorem Seg.past (h : Seg w e size v n xs ob) {p : Addr} (hp : ob ≠ some p.block) (u : Value) : Seg (w.setCell p u) e size v n xs ob :=
  h.keep fun g hg => heap_setCell_other w p g u (fun he => hp (by rw [hg, he]))
/-- A slice that has a thing has an address; its cells lie there. -/
theorem Seg.shape (h : Seg w e size v n xs ob) (hn : 0 < n) : ∃ g o cap, v = .slice (some ⟨g, o, none⟩) n cap ∧ ob = some g ∧ n ≤ cap ∧ cap ≤ maxLen ∧ (∀ j u, xs[j]? = some u → w.cell? ⟨g, o + j, none⟩ = some u) ∧ (∀ j, w.frozen? ⟨g, j, none⟩ = false) := by
  obtain ⟨h0, A, cap, hv, h1, h2, h3⟩ := h
  rcases h3 with ⟨h3, _⟩ | ⟨g, o, cur, rfl, a2, a3, a4, a5⟩
  · omega
  · refine ⟨g, o, cap, hv, a2, h1, h2, fun j u hj => ?_, fun j => frozen_of_row w g j cur e a3⟩
    rw [cell_of_row w g (o + j) cur e (0, 0) a3]
    rw [← a5, List.getElem?_take] at hj
    split at hj
    · rw [List.getElem?_drop] at hj
      simpa using hj
    · cases hj
theorem Seg.form (h : Seg w e size v n xs ob) : ∃ A cap, v = .slice A n cap ∧ n ≤ cap ∧ cap ≤ maxLen := by
  obtain ⟨_, A, cap, hv, h1, h2, _⟩ := h
  exact ⟨A, cap, hv, h1, h2⟩
theorem Seg.of_owns {base : Nat} (h : w.ownsRow base e size v n xs) : ∃ ob, Seg w e size v n xs ob ∧ ∀ g, ob = some g → base ≤ g := by
  obtain ⟨h0, ⟨rfl, rfl⟩ | ⟨g, cap, cur, rfl, hg, hh, h1, h2, h3, h4⟩⟩ := h
  · obtain rfl : xs = [] := List.eq_nil_of_length_eq_zero (by simpa using h0)
    exact ⟨none, Seg.nil w e size, fun _ hg => by cases hg⟩
  · exact ⟨some g, ⟨h0, _, cap, rfl, h1, h2, .inr ⟨g, 0, cur, rfl, rfl, hh, by omega, by simpa using h4⟩⟩, fun _ e => by cases e; exact hg⟩
/-- What is left behind the first k things. -/
theorem Seg.cut {A : Option Addr} {cap : Nat} (h : Seg w e size (.slice A n cap) n xs ob) {k : Nat} (hk : k ≤ n) (hkc : k < cap) :
    Seg w e size (.slice (A.map (·.add (k * size))) (n - k) (cap - k)) (n - k) (xs.drop (k * size)) ob := by
  obtain ⟨h0, A', cap', hv, h1, h2, h3⟩ := h
  injection hv with e1 e2 e3
  subst e1 e3
  refine ⟨by rw [List.length_drop, h0, Nat.sub_mul], _, _, rfl, by omega, by omega, ?_⟩
  rcases h3 with ⟨h3, _⟩ | ⟨g, o, cur, rfl, a2, a3, a4, a5⟩
  · omega
  · have hm : k * size + (cap - k) * size = cap * size := by rw [← Nat.add_mul]; congr 1; omega
    refine .inr ⟨g, o + k * size, cur, ?_, a2, a3, by omega, ?_⟩
    · simp only [Option.map_some, Addr.add_lit]
    · rw [← a5, List.drop_take, List.drop_drop, Nat.sub_mul]
theorem Seg.cut_all {A : Option Addr} {cap : Nat} (h : Seg w e size (.slice A n cap) n xs ob) {k : Nat} (hk : k ≤ n) (hkc : k = cap) (A' : Option Addr) :
    Seg w e size (.slice A' (n - k) (cap - k)) (n - k) (xs.drop (k * size)) none := by
  obtain ⟨h0, A'', cap', hv, h1, h2, h3⟩ := h
  injection hv with e1 e2 e3
  subst e1 e3
  refine ⟨by rw [List.length_drop, h0, Nat.sub_mul], _, _, rfl, by omega, by omega, .inl ⟨by omega, rfl, fun _ => trivial⟩⟩

theorem setCells_row (e : TypeId) (g : Nat) : ∀ (news : List Value) (o : Nat) (w : World) (cur : Array Value), w.heap[g]? = some (.cells cur e (0, 0)) → o + news.length ≤ cur.size →
    ∃ cur', (w.setCells g o news).heap[g]? = some (.cells cur' e (0, 0)) ∧ cur'.size = cur.size ∧ cur'.toList = cur.toList.take o ++ news ++ cur.toList.drop (o + news.length) ∧ w.grownBy (w.setCells g o news) (some g)
  | [], o, w, cur, h, _ => ⟨cur, h, rfl, by simp, grown_refl _ _⟩
  | x :: r, o, w, cur, h, hl => by
    have h1 : (w.setCell ⟨g, o, none⟩ x).heap[g]? = some (.cells (cur.setIfInBounds o x) e (0, 0)) := Row.put h o x
    obtain ⟨cur', a1, a2, a3, a4⟩ := setCells_row e g r (o + 1) _ _ h1 (by simp at hl ⊢; omega)
    refine ⟨cur', a1, by simpa using a2, ?_, grown_trans (grown_set w g o x) a4⟩
    rw [a3]
    simp only [List.length_cons] at hl ⊢
    have hlt : o < cur.toList.length := by simp; omega
    simp only [Array.toList_setIfInBounds, List.drop_set, List.take_set]
    rw [if_pos (by omega), List.take_succ_eq_append_getElem hlt, List.set_append_right _ _ (by simp; omega), List.length_take, Nat.min_eq_left (by omega), Nat.sub_self]
    simp [Nat.add_assoc, Nat.add_comm 1]

theorem run_append_seg (t ty : TypeId) (i : TypeInfo) (z : Value) (bytes : Nat) (ht : P.underlying t = some (.slice e)) (hi : P.info? e = some i) (hz : i.zero = some z)
    (hsize : i.size = size) (hby : i.bytes = bytes) (hzs : z.cells.size = size) (hsz : 0 < size) (h : Seg w e size v n xs ob)
    (a : Addr) (m c : Nat) (news : List Value) (hl : news.length = m * size) (hnews : ∀ j u, news[j]? = some u → w.cell? (a.add j) = some u) (h1 : ∀ u ∈ news, u.oneCell' = true) (hm : 0 < m)
    (h63 : n + m ≤ maxLen) (hbytes : (n + m) * bytes ≤ 140737488355328) :
    ∃ v' w' ob', (Builtin.append_ #[t, t] ty #[v, .slice (some a) m c]).run P w = .ok v' w' ∧ Seg w' e size v' (n + m) (xs ++ news) ob' ∧ Turns w w' (fun k => ob = some k) ∧ (ob' = ob ∨ ∃ g, ob' = some g ∧ w.heap.size ≤ g) := by
  obtain ⟨h0, A, cap, rfl, hn, hc, h3⟩ := h
  by_cases hr : n + m ≤ cap
  · rcases h3 with ⟨h3, _⟩ | ⟨g, o, cur, rfl, rfl, a3, a4, a5⟩
    · omega
    · subst hsize
      have hmul : n * i.size + m * i.size ≤ cap * i.size := by rw [← Nat.add_mul]; exact Nat.mul_le_mul_right _ hr
      have hrun := run_append_room_cells (P := P) w t ty e i ht hi g o n cap a m c news hl hnews h1 hr
        (fun j hj => by rw [cell_of_row w g _ cur e (0, 0) a3, Array.getElem?_eq_getElem (by omega)]; rfl) (fun j hj => frozen_of_row w g _ cur e a3)
      obtain ⟨cur', b1, b2, b3, b4⟩ := setCells_row e g news (o + n * i.size) w cur a3 (by omega)
      refine ⟨_, _, some g, hrun, ⟨by rw [List.length_append, h0, hl, Nat.add_mul], _, cap, rfl, hr, hc, .inr ⟨g, o, cur', rfl, rfl, b1, by rw [b2]; exact a4, ?_⟩⟩, (Turns.of_grown b4), .inl rfl⟩
      rw [b3]
      have e1 : (List.take (o + n * i.size) cur.toList).length = o + n * i.size := by rw [List.length_take]; simp; omega
      rw [List.append_assoc, List.drop_append_of_le_length (by omega), List.drop_take, Nat.add_sub_cancel_left, a5, ← List.append_assoc, List.take_append_of_le_length (by rw [List.length_append, h0, hl, Nat.add_mul]; exact Nat.le_refl _),
        List.take_of_length_le (by rw [List.length_append, h0, hl, Nat.add_mul]; exact Nat.le_refl _)]
  · have grow : ∃ v' w', (Builtin.append_ #[t, t] ty #[.slice A n cap, .slice (some a) m c]).run P w = .ok v' w' ∧ w'.ownsRow w.heap.size e size v' (n + m) (xs ++ news) ∧ w.grownBy w' none := by
      rcases h3 with ⟨h3, h4, _⟩ | ⟨g, o, cur, rfl, rfl, a3, a4, a5⟩
      · obtain rfl : n = 0 := by omega
        obtain rfl : xs = [] := List.eq_nil_of_length_eq_zero (by simpa using h0)
        cases A with
        | none =>
          subst h3
          obtain ⟨v', w', q1, q2, q3, _⟩ := run_append_own (P := P) w w.heap.size t ty e i z size bytes ht hi hz hsize hby hzs hsz (.slice none 0 0) 0 [] (World.ownsRow_nil w _ e size) a m c news hl hnews h1 h63 hbytes (Nat.le_refl _)
          exact ⟨v', w', q1, q2, q3⟩
        | some b => exact run_append_arg_grows (P := P) w t ty e i z size bytes ht hi hz hsize hby hzs hsz b 0 cap [] (by simp) (fun j u hj => by simp at hj) a m c news hl hnews (by omega) h63 hbytes
      · refine run_append_arg_grows (P := P) w t ty e i z size bytes ht hi hz hsize hby hzs hsz ⟨g, o, none⟩ n cap xs h0 (fun j u hj => ?_) a m c news hl hnews (by omega) h63 hbytes
        rw [Addr.add_lit, cell_of_row w g (o + j) cur e (0, 0) a3]
        rw [← a5, List.getElem?_take] at hj
        split at hj
        · rw [List.getElem?_drop] at hj
          simpa using hj
        · cases hj
    obtain ⟨v', w', q1, q2, q3⟩ := grow
    obtain ⟨ob', q4, q5⟩ := Seg.of_owns q2
    refine ⟨v', w', ob', q1, q4, (Turns.of_grown q3).mono (fun _ _ e => by cases e), ?_⟩
    cases ob' with
    | none =>
      exfalso
      obtain ⟨_, A', cap', _, r1, _, ⟨r2, _⟩ | ⟨_, _, _, _, r3, _⟩⟩ := q4
      · omega
      · cases r3
    | some g => exact .inr ⟨g, rfl, q5 g rfl⟩

theorem wpList_append_seg {ops : Array Oper} {rest : List Oper} {o : Oper} {a : Act} {Q : Exit → Act → World → Prop} (w : World) (hgd : o.guard = none) (s x : Operand) (t : TypeId)
    (hop : o.op = .call { callee := .builtin .append, args := #[s, x], argTypes := #[t, t] })
    (e : TypeId) (i : TypeInfo) (z : Value) (size bytes : Nat) (ht : P.underlying t = some (.slice e)) (hi : P.info? e = some i) (hz : i.zero = some z)
    (hsize : i.size = size) (hby : i.bytes = bytes) (hzs : z.cells.size = size) (hsz : 0 < size) (v : Value) (n : Nat) (xs : List Value) (ob : Option Nat) (hs : a.eval s = v) (h : Seg w e size v n xs ob)
    (ad : Addr) (m c : Nat) (news : List Value) (hx : a.eval x = .slice (some ad) m c) (hl : news.length = m * size) (hnews : ∀ j u, news[j]? = some u → w.cell? (ad.add j) = some u) (h1 : ∀ u ∈ news, u.oneCell' = true) (hm : 0 < m)
    (h63 : n + m ≤ maxLen) (hbytes : (n + m) * bytes ≤ 140737488355328)
    (hK : ∀ v' w' ob', Seg w' e size v' (n + m) (xs ++ news) ob' → Turns w w' (fun k => ob = some k) → (ob' = ob ∨ ∃ g, ob' = some g ∧ w.heap.size ≤ g) → wpList P ops Q rest (a.put o.dst v') w') :
    wpList P ops Q (o :: rest) a w := by
  refine wpList_plain hgd fun K hK' => ?_
  obtain ⟨v', w', ob', hrun, r1, r2, r3⟩ := run_append_seg (P := P) t o.type i z bytes ht hi hz hsize hby hzs hsz h ad m c news hl hnews h1 hm h63 hbytes
  unfold Oper.wp
  simp [execOp, hop, resolve, invoke, builtin, hs, hx, hrun, Result.andThen]
  exact hK' _ _ (hK v' w' ob' r1 r2 r3)
end
end Go.Proofs.Ytnibmfijkbfaeaa
