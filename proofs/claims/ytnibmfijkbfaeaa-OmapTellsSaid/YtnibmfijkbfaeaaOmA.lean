/- Maps as trees and as lists: plain mathematics. -/
import Derived.Test.YtnibmfijkbfaeaaRows
namespace Go.Proofs.Ytnibmfijkbfaeaa.Om
set_option linter.unusedVariables false
/-- What keys are: they stand in one order. -/
class Key (K : Type) where
  lt : K → K → Prop
  dec : ∀ a b, Decidable (lt a b)
  irr : ∀ a, ¬ lt a a
  tr : ∀ {a b c}, lt a b → lt b c → lt a c
  tri : ∀ {a b}, ¬ lt a b → ¬ lt b a → a = b
open Key (lt)
instance {K : Type} [Key K] (a b : K) : Decidable (lt a b) := Key.dec a b
inductive Tr (K V : Type) where
  | leaf
  | node (l : Tr K V) (k : K) (v : V) (r : Tr K V)
variable {K V : Type}
def Tr.size : Tr K V → Nat
  | .leaf => 0
  | .node l _ _ r => l.size + 1 + r.size
def Tr.toL : Tr K V → List (K × V)
  | .leaf => []
  | .node l k v r => l.toL ++ (k, v) :: r.toL
theorem Tr.len (t : Tr K V) : t.toL.length = t.size := by
  induction t with
  | leaf => rfl
  | node l k v r ih1 ih2 => simp only [Tr.toL, List.length_append, List.length_cons, Tr.size, ih1, ih2]; omega
def lessHigh (l : Tr K V) (k : K) (v : V) : Tr K V → Tr K V
  | .leaf => .leaf
  | .node .leaf hk hv hh => .node (.node l k v .leaf) hk hv hh
  | .node (.node ml mk mv mr) hk hv hh =>
    if (Tr.node ml mk mv mr).size < 2 * hh.size then .node (.node l k v (.node ml mk mv mr)) hk hv hh else .node (.node l k v ml) mk mv (.node mr hk hv hh)
def lessLow (r : Tr K V) (k : K) (v : V) : Tr K V → Tr K V
  | .leaf => .leaf
  | .node ll lk lv .leaf => .node ll lk lv (.node .leaf k v r)
  | .node ll lk lv (.node ml mk mv mr) =>
    if (Tr.node ml mk mv mr).size < 2 * ll.size then .node ll lk lv (.node (.node ml mk mv mr) k v r) else .node (.node ll lk lv ml) mk mv (.node mr k v r)
def bet (l : Tr K V) (k : K) (v : V) (r : Tr K V) : Tr K V :=
  if l.size + r.size < 2 then .node l k v r
  else if 3 * l.size < r.size then lessHigh l k v r
  else if 3 * r.size < l.size then lessLow r k v l
  else .node l k v r
theorem size_pos {t : Tr K V} (h : 0 < t.size) : ∃ l k v r, t = .node l k v r := by
  cases t with
  | leaf => exact absurd h (Nat.lt_irrefl 0)
  | node l k v r => exact ⟨l, k, v, r, rfl⟩
theorem lessHigh_toL (l : Tr K V) (k : K) (v : V) (r : Tr K V) (h : 0 < r.size) : (lessHigh l k v r).toL = l.toL ++ (k, v) :: r.toL := by
  obtain ⟨m, hk, hv, hh, rfl⟩ := size_pos h
  cases m with
  | leaf => simp [lessHigh, Tr.toL]
  | node ml mk mv mr =>
    simp only [lessHigh]
    split <;> simp [Tr.toL]
theorem lessLow_toL (r : Tr K V) (k : K) (v : V) (l : Tr K V) (h : 0 < l.size) : (lessLow r k v l).toL = l.toL ++ (k, v) :: r.toL := by
  obtain ⟨m, hk, hv, hh, rfl⟩ := size_pos h
  cases hh with
  | leaf => simp [lessLow, Tr.toL]
  | node ml mk mv mr =>
    simp only [lessLow]
    split <;> simp [Tr.toL]
theorem bet_toL (l : Tr K V) (k : K) (v : V) (r : Tr K V) : (bet l k v r).toL = l.toL ++ (k, v) :: r.toL := by
  unfold bet
  split
  · rfl
  · split
    · exact lessHigh_toL _ _ _ _ (by omega)
    · split
      · exact lessLow_toL _ _ _ _ (by omega)
      · rfl
theorem bet_size (l : Tr K V) (k : K) (v : V) (r : Tr K V) : (bet l k v r).size = l.size + 1 + r.size := by
  rw [← Tr.len, bet_toL, List.length_append, List.length_cons, Tr.len, Tr.len]; omega
def fst? : Tr K V → Option (K × V)
  | .leaf => none
  | .node .leaf k v _ => some (k, v)
  | .node l _ _ _ => fst? l
def lst? : Tr K V → Option (K × V)
  | .leaf => none
  | .node _ k v .leaf => some (k, v)
  | .node _ _ _ r => lst? r
theorem fst_toL : ∀ t : Tr K V, fst? t = t.toL.head?
  | .leaf => rfl
  | .node .leaf k v _ => rfl
  | .node (.node a b c d) k v r => by
    show fst? (.node a b c d) = _
    rw [fst_toL (.node a b c d)]
    simp only [Tr.toL]
    cases a.toL <;> simp
theorem lst_toL : ∀ t : Tr K V, lst? t = t.toL.getLast?
  | .leaf => rfl
  | .node l k v .leaf => by simp [lst?, Tr.toL]
  | .node l k v (.node a b c d) => by
    show lst? (.node a b c d) = _
    rw [lst_toL (.node a b c d)]
    simp only [Tr.toL]
    simp [List.getLast?_append, List.getLast?_cons]
variable [Key K]
def put (k : K) (v : V) : List (K × V) → List (K × V)
  | [] => [(k, v)]
  | (a, b) :: r => if lt k a then (k, v) :: (a, b) :: r else if lt a k then (a, b) :: put k v r else (a, v) :: r
def del (k : K) (l : List (K × V)) : List (K × V) := l.filter fun x => decide (lt k x.1 ∨ lt x.1 k)
def get (k : K) : List (K × V) → Option V
  | [] => none
  | (a, b) :: r => if lt k a ∨ lt a k then get k r else some b
def Up (l : List (K × V)) : Prop := l.Pairwise fun x y => lt x.1 y.1
def wth (k : K) (v : V) : Tr K V → Tr K V
  | .leaf => .node .leaf k v .leaf
  | .node l a b r => if lt k a then bet (wth k v l) a b r else if lt a k then bet l a b (wth k v r) else .node l a v r
def wout (k : K) : Tr K V → Tr K V
  | .leaf => .leaf
  | .node l a b r =>
    if lt k a then bet (wout k l) a b r else if lt a k then bet l a b (wout k r)
    else match l, r with
      | .leaf, r => r
      | l, .leaf => l
      | l, r => match fst? r with
        | none => .leaf
        | some (x, y) => bet l x y (wout x r)
def find (k : K) : Tr K V → Option V
  | .leaf => none
  | .node l a b r => if lt k a then find k l else if lt a k then find k r else some b
def blw (k : K) : Tr K V → Nat
  | .leaf => 0
  | .node l a _ r => if lt a k then l.size + 1 + blw k r else blw k l
def frm (k : K) : Tr K V → List (K × V)
  | .leaf => []
  | .node l a b r => if lt a k then frm k r else frm k l ++ (a, b) :: r.toL
theorem up_node {l r : List (K × V)} {a : K} {b : V} (h : Up (l ++ (a, b) :: r)) : Up l ∧ Up r ∧ (∀ x ∈ l, lt x.1 a) ∧ (∀ y ∈ r, lt a y.1) ∧ ∀ x ∈ l, ∀ y ∈ r, lt x.1 y.1 := by
  obtain ⟨h1, h2, h3⟩ := List.pairwise_append.1 h
  obtain ⟨h4, h5⟩ := List.pairwise_cons.1 h2
  exact ⟨h1, h5, fun x hx => h3 x hx (a, b) (by simp), h4, fun x hx y hy => h3 x hx y (by simp [hy])⟩
theorem put_app {k : K} {v : V} {l r : List (K × V)} {a : K} {b : V} (h : Up (l ++ (a, b) :: r)) :
    put k v (l ++ (a, b) :: r) = if lt k a then put k v l ++ (a, b) :: r else if lt a k then l ++ (a, b) :: put k v r else l ++ (a, v) :: r := by
  induction l with
  | nil =>
    show put k v ((a, b) :: r) = _
    simp only [put]
    split
    · simp
    · split <;> simp
  | cons x l ih =>
    obtain ⟨x, y⟩ := x
    have hxa : lt x a := (up_node h).2.2.1 (x, y) (by simp)
    have hu : Up (l ++ (a, b) :: r) := (List.pairwise_cons.1 h).2
    have ih := ih hu
    show put k v ((x, y) :: (l ++ (a, b) :: r)) = _
    by_cases h1 : lt k a
    · rw [if_pos h1] at ih ⊢
      show put k v ((x, y) :: (l ++ (a, b) :: r)) = put k v ((x, y) :: l) ++ (a, b) :: r
      simp only [put]
      split
      · simp
      · split
        · rw [ih]; simp
        · simp
    · have hkx : ¬ lt k x := fun e => h1 (Key.tr e hxa)
      rw [if_neg h1] at ih ⊢
      have hxk : lt x k := by
        by_cases e : lt x k
        · exact e
        · have e2 := Key.tri e hkx
          rw [e2] at hxa
          exact absurd hxa h1
      simp only [put]
      rw [if_neg hkx, if_pos hxk, ih]
      split <;> simp
theorem put_mem {k : K} {v : V} {l : List (K × V)} {x : K × V} (h : x ∈ put k v l) : x.1 = k ∨ x ∈ l := by
  induction l with
  | nil => simp [put] at h; exact .inl (by rw [h])
  | cons y l ih =>
    obtain ⟨a, b⟩ := y
    simp only [put] at h
    split at h
    · simp at h
      rcases h with h | h | h
      · exact .inl (by rw [h])
      · exact .inr (by simp [h])
      · exact .inr (by simp [h])
    · split at h
      · rcases List.mem_cons.1 h with h | h
        · exact .inr (by simp [h])
        · exact (ih h).imp_right (fun h => by simp [h])
      · rcases List.mem_cons.1 h with h | h
        · rename_i h1 h2 _
          exact .inl (by rw [h]; exact Key.tri h2 h1)
        · exact .inr (by simp [h])
theorem put_up {k : K} {v : V} {l : List (K × V)} (h : Up l) : Up (put k v l) := by
  induction l with
  | nil => exact List.pairwise_singleton _ _
  | cons y l ih =>
    obtain ⟨a, b⟩ := y
    obtain ⟨h1, h2⟩ := List.pairwise_cons.1 h
    simp only [put]
    split
    · rename_i hk
      refine List.pairwise_cons.2 ⟨fun y hy => ?_, h⟩
      rcases List.mem_cons.1 hy with rfl | hy
      · exact hk
      · exact Key.tr hk (h1 _ hy)
    · split
      · rename_i hk
        refine List.pairwise_cons.2 ⟨fun y hy => ?_, ih h2⟩
        rcases put_mem hy with e | e
        · show lt a y.1; rw [e]; exact hk
        · exact h1 _ e
      · exact List.pairwise_cons.2 ⟨h1, h2⟩
theorem wth_toL (k : K) (v : V) : ∀ t : Tr K V, Up t.toL → (wth k v t).toL = put k v t.toL
  | .leaf, _ => rfl
  | .node l a b r, h => by
    obtain ⟨h1, h2, h3, h4, _⟩ := up_node (show Up (l.toL ++ (a, b) :: r.toL) from h)
    show _ = put k v (l.toL ++ (a, b) :: r.toL)
    rw [put_app h]
    unfold wth
    split
    · rw [bet_toL, wth_toL k v l h1]
    · split
      · rw [bet_toL, wth_toL k v r h2]
      · rfl
theorem del_none {k : K} {l : List (K × V)} (h : ∀ x ∈ l, lt k x.1 ∨ lt x.1 k) : del k l = l := List.filter_eq_self.2 fun x hx => by simpa using h x hx
theorem del_app (k : K) (l r : List (K × V)) (x : K × V) : del k (l ++ x :: r) = del k l ++ (if lt k x.1 ∨ lt x.1 k then [x] else []) ++ del k r := by
  unfold del
  rw [List.filter_append, List.filter_cons]
  split
  · rename_i h; rw [if_pos (by simpa using h)]; simp
  · rename_i h; rw [if_neg (by simpa using h)]; simp
theorem del_up {k : K} {l : List (K × V)} (h : Up l) : Up (del k l) := h.sublist List.filter_sublist
theorem wout_toL : ∀ (t : Tr K V) (k : K), Up t.toL → (wout k t).toL = del k t.toL
  | .leaf, _, _ => rfl
  | .node l a b r, k, h => by
    obtain ⟨h1, h2, h3, h4, h5⟩ := up_node (show Up (l.toL ++ (a, b) :: r.toL) from h)
    show _ = del k (l.toL ++ (a, b) :: r.toL)
    rw [del_app]
    unfold wout
    by_cases c1 : lt k a
    · rw [if_pos c1, bet_toL, wout_toL l k h1, if_pos (.inl c1), del_none (l := r.toL) (fun x hx => .inl (Key.tr c1 (h4 x hx)))]
      simp
    · rw [if_neg c1]
      by_cases c2 : lt a k
      · rw [if_pos c2, bet_toL, wout_toL r k h2, if_pos (.inr c2), del_none (l := l.toL) (fun x hx => .inr (Key.tr (h3 x hx) c2))]
        simp
      · have e : a = k := Key.tri c2 c1
        subst e
        rw [if_neg c2, if_neg (fun e => e.elim c1 c2), del_none (l := l.toL) (fun x hx => .inr (h3 x hx)), del_none (l := r.toL) (fun x hx => .inl (h4 x hx)), List.append_nil]
        cases l with
        | leaf => simp [Tr.toL]
        | node la lb lc ld =>
          cases r with
          | leaf => simp [Tr.toL]
          | node ra rb rc rd =>
            obtain ⟨R, hR⟩ : ∃ R, Tr.node ra rb rc rd = R := ⟨_, rfl⟩
            have hne : R.toL ≠ [] := by rw [← hR]; simp [Tr.toL]
            have hf : fst? R = R.toL.head? := fst_toL R
            have ih := fun x => wout_toL (.node ra rb rc rd) x h2
            rw [hR] at ih h2
            show (match fst? (Tr.node ra rb rc rd) with
              | none => Tr.leaf
              | some (x, y) => bet (.node la lb lc ld) x y (wout x (Tr.node ra rb rc rd))).toL = (Tr.node la lb lc ld).toL ++ (Tr.node ra rb rc rd).toL
            rw [hR, hf]
            cases hl : R.toL with
            | nil => exact absurd hl hne
            | cons q w =>
              obtain ⟨x, y⟩ := q
              show (bet (.node la lb lc ld) x y (wout x R)).toL = _
              rw [bet_toL, ih x, hl]
              have hup : Up ((x, y) :: w) := by rw [← hl]; exact h2
              have hw := (List.pairwise_cons.1 hup).1
              have : del x ((x, y) :: w) = w := by
                show List.filter _ ((x, y) :: w) = w
                rw [List.filter_cons_of_neg (by simpa using Key.irr x)]
                exact del_none (fun z hz => .inl (hw z hz))
              rw [this]
theorem get_lt {k : K} {l : List (K × V)} (h : ∀ x ∈ l, lt k x.1 ∨ lt x.1 k) : get k l = none := by
  induction l with
  | nil => rfl
  | cons y l ih =>
    obtain ⟨a, b⟩ := y
    simp only [get]
    rw [if_pos (h (a, b) (by simp)), ih (fun x hx => h x (by simp [hx]))]
theorem get_app {k : K} {l : List (K × V)} (r : List (K × V)) (h : ∀ x ∈ l, lt k x.1 ∨ lt x.1 k) : get k (l ++ r) = get k r := by
  induction l with
  | nil => rfl
  | cons y l ih =>
    obtain ⟨a, b⟩ := y
    show get k ((a, b) :: (l ++ r)) = _
    simp only [get]
    rw [if_pos (h (a, b) (by simp)), ih (fun x hx => h x (by simp [hx]))]
theorem get_app_right {k : K} (l : List (K × V)) {r : List (K × V)} (h : ∀ x ∈ r, lt k x.1 ∨ lt x.1 k) : get k (l ++ r) = get k l := by
  induction l with
  | nil => exact get_lt h
  | cons y l ih =>
    obtain ⟨a, b⟩ := y
    show get k ((a, b) :: (l ++ r)) = get k ((a, b) :: l)
    simp only [get, ih]
theorem find_toL (k : K) : ∀ t : Tr K V, Up t.toL → find k t = get k t.toL
  | .leaf, _ => rfl
  | .node l a b r, h => by
    obtain ⟨h1, h2, h3, h4, h5⟩ := up_node (show Up (l.toL ++ (a, b) :: r.toL) from h)
    show _ = get k (l.toL ++ (a, b) :: r.toL)
    unfold find
    split
    · rename_i c
      rw [get_app_right _ (fun x hx => ?_), find_toL k l h1]
      rcases List.mem_cons.1 hx with rfl | hx
      · exact .inl c
      · exact .inl (Key.tr c (h4 x hx))
    · rename_i c1
      split
      · rename_i c
        rw [get_app _ (fun x hx => .inr (Key.tr (h3 x hx) c)), find_toL k r h2]
        show _ = if lt k a ∨ lt a k then _ else _
        rw [if_pos (.inr c)]
      · rename_i c2
        have e : a = k := Key.tri c2 c1
        subst e
        rw [get_app _ (fun x hx => .inr (h3 x hx))]
        show _ = if lt a a ∨ lt a a then _ else _
        rw [if_neg (fun e => e.elim c1 c1)]
theorem get_put {k j : K} {v : V} {l : List (K × V)} (h : Up l) : get j (put k v l) = if lt j k ∨ lt k j then get j l else some v := by
  induction l with
  | nil => simp only [put, get]
  | cons y l ih =>
    obtain ⟨a, b⟩ := y
    obtain ⟨h1, h2⟩ := List.pairwise_cons.1 h
    have ih := ih h2
    simp only [put]
    by_cases c1 : lt k a
    · rw [if_pos c1]
      simp only [get]
    · rw [if_neg c1]
      by_cases c2 : lt a k
      · rw [if_pos c2]
        simp only [get, ih]
        by_cases c3 : lt j a ∨ lt a j
        · rw [if_pos c3, if_pos c3]
        · have e : j = a := Key.tri (fun e => c3 (.inl e)) (fun e => c3 (.inr e))
          subst e
          rw [if_neg c3, if_pos (.inl c2), if_neg c3]
      · rw [if_neg c2]
        have e : a = k := Key.tri c2 c1
        subst e
        simp only [get]
        split <;> rfl
theorem get_del {k j : K} {l : List (K × V)} (h : Up l) : get j (del k l) = if lt j k ∨ lt k j then get j l else none := by
  induction l with
  | nil => simp [del, get]
  | cons y l ih =>
    obtain ⟨a, b⟩ := y
    obtain ⟨h1, h2⟩ := List.pairwise_cons.1 h
    have ih := ih h2
    unfold del at ih ⊢
    rw [List.filter_cons]
    by_cases c1 : lt k a ∨ lt a k
    · rw [if_pos (by simpa using c1)]
      simp only [get, ih]
      by_cases c3 : lt j a ∨ lt a j
      · rw [if_pos c3, if_pos c3]
      · have e : j = a := Key.tri (fun e => c3 (.inl e)) (fun e => c3 (.inr e))
        subst e
        rw [if_neg c3, if_neg c3, if_pos c1.symm]
    · have e : a = k := Key.tri (fun e => c1 (.inr e)) (fun e => c1 (.inl e))
      subst e
      rw [if_neg (by simpa using c1), ih]
      simp only [get]
      by_cases c3 : lt j a ∨ lt a j
      · rw [if_pos c3, if_pos c3, if_pos c3]
      · rw [if_neg c3, if_neg c3]
theorem blw_toL (k : K) : ∀ t : Tr K V, Up t.toL → blw k t = (t.toL.filter fun x => decide (lt x.1 k)).length
  | .leaf, _ => rfl
  | .node l a b r, h => by
    obtain ⟨h1, h2, h3, h4, h5⟩ := up_node (show Up (l.toL ++ (a, b) :: r.toL) from h)
    show _ = ((l.toL ++ (a, b) :: r.toL).filter _).length
    rw [List.filter_append, List.filter_cons]
    unfold blw
    split
    · rename_i c
      rw [if_pos (by simpa using c), List.filter_eq_self.2 (fun x hx => by simpa using Key.tr (h3 x hx) c), blw_toL k r h2]
      simp [Tr.len]; omega
    · rename_i c
      rw [if_neg (by simpa using c), blw_toL k l h1]
      have : r.toL.filter (fun x => decide (lt x.1 k)) = [] := List.filter_eq_nil_iff.2 (fun x hx => by
        have h := h4 x hx
        simpa using fun e => c (Key.tr h e))
      rw [this, List.append_nil]
theorem frm_toL (k : K) : ∀ t : Tr K V, Up t.toL → frm k t = t.toL.filter fun x => decide (¬ lt x.1 k)
  | .leaf, _ => rfl
  | .node l a b r, h => by
    obtain ⟨h1, h2, h3, h4, h5⟩ := up_node (show Up (l.toL ++ (a, b) :: r.toL) from h)
    show _ = (l.toL ++ (a, b) :: r.toL).filter _
    rw [List.filter_append, List.filter_cons]
    unfold frm
    split
    · rename_i c
      rw [if_neg (by simpa using c), frm_toL k r h2]
      have : l.toL.filter (fun x => decide (¬ lt x.1 k)) = [] := List.filter_eq_nil_iff.2 (fun x hx => by simpa using Key.tr (h3 x hx) c)
      rw [this, List.nil_append]
    · rename_i c
      rw [if_pos (by simpa using c), frm_toL k l h1]
      have : r.toL.filter (fun x => decide (¬ lt x.1 k)) = r.toL := List.filter_eq_self.2 (fun x hx => by
        have h := h4 x hx
        simpa using fun e => c (Key.tr h e))
      rw [this]
theorem put_len {k : K} {v : V} {l : List (K × V)} (h : Up l) : (put k v l).length = l.length + (if (get k l).isSome then 0 else 1) := by
  induction l with
  | nil => rfl
  | cons y l ih =>
    obtain ⟨a, b⟩ := y
    obtain ⟨h1, h2⟩ := List.pairwise_cons.1 h
    have ih := ih h2
    simp only [put, get]
    by_cases c1 : lt k a
    · have e : get k l = none := get_lt (fun x hx => .inl (Key.tr c1 (h1 x hx)))
      simp [c1, e]
    · by_cases c2 : lt a k
      · simp only [c1, c2, if_true, if_false, or_true, List.length_cons, ih]
        omega
      · simp [c1, c2]
theorem wth_size (k : K) (v : V) (t : Tr K V) (h : Up t.toL) : (wth k v t).size = t.size + (if (find k t).isSome then 0 else 1) := by
  rw [← Tr.len, wth_toL _ _ _ h, put_len h, find_toL _ _ h, Tr.len]
theorem wth_le (k : K) (v : V) : ∀ t : Tr K V, (wth k v t).size ≤ t.size + 1
  | .leaf => Nat.le_refl _
  | .node l a b r => by
    have h1 := wth_le k v l
    have h2 := wth_le k v r
    unfold wth
    split
    · rw [bet_size]; simp only [Tr.size]; omega
    · split
      · rw [bet_size]; simp only [Tr.size]; omega
      · simp only [Tr.size]; omega
end Go.Proofs.Ytnibmfijkbfaeaa.Om
