/- Sorting, of whatever things: plain mathematics. -/
import Derived.Test.YtookojgemipakaaDoorE6C
namespace Go.Proofs.YtookojgemipakaaDoor.E6
open Go.RowKit Go.Proofs.YtookojgemipakaaDoor Go.Proofs.YtookojgemipakaaDoor.Ev Go.Proofs.YtookojgemipakaaDoor.E4
set_option linter.unusedVariables false
set_option maxRecDepth 100000
section
variable {α β : Type} (b : α → α → Bool) (b' : β → β → Bool)
def insAtG (x : α) (M : List α) : Nat → Nat
  | 0 => 0
  | j + 1 => match M[j]? with
    | some y => if b x y = true then insAtG x M j else j + 1
    | none => j + 1
def putAtG (x : α) (M : List α) (j : Nat) : List α := M.take j ++ x :: M.drop j
def insRG (x : α) (M : List α) : List α := putAtG x M (insAtG b x M M.length)
def isortG (L : List α) : List α := L.foldl (fun M x => insRG b x M) []
/-- Things one by one alike. -/
inductive Alike (R : α → β → Prop) : List α → List β → Prop where
  | nil : Alike R [] []
  | cons {x : α} {y : β} {l : List α} {m : List β} : R x y → Alike R l m → Alike R (x :: l) (y :: m)
variable {b b'} {R : α → β → Prop}
theorem Alike.len {l : List α} {m : List β} (h : Alike R l m) : l.length = m.length := by
  induction h with
  | nil => rfl
  | cons _ _ ih => simp [ih]
theorem Alike.get {l : List α} {m : List β} (h : Alike R l m) : ∀ (k : Nat) (x : α) (y : β), l[k]? = some x → m[k]? = some y → R x y := by
  induction h with
  | nil => intro k x y hx; simp at hx
  | cons h1 _ ih =>
    intro k x y hx hy
    cases k with
    | zero => simp at hx hy; subst hx hy; exact h1
    | succ k => exact ih k x y (by simpa using hx) (by simpa using hy)
theorem Alike.append {l l2 : List α} {m m2 : List β} (h : Alike R l m) (g : Alike R l2 m2) : Alike R (l ++ l2) (m ++ m2) := by
  induction h with
  | nil => exact g
  | cons h1 _ ih => exact .cons h1 ih
theorem Alike.take {l : List α} {m : List β} (h : Alike R l m) (k : Nat) : Alike R (l.take k) (m.take k) := by
  induction h generalizing k with
  | nil => simp; exact .nil
  | cons h1 _ ih => cases k with
    | zero => exact .nil
    | succ k => exact .cons h1 (ih k)
theorem Alike.drop {l : List α} {m : List β} (h : Alike R l m) (k : Nat) : Alike R (l.drop k) (m.drop k) := by
  induction h generalizing k with
  | nil => simp; exact .nil
  | cons h1 h2 ih => cases k with
    | zero => exact .cons h1 h2
    | succ k => exact ih k
theorem Alike.mono {R' : α → β → Prop} {l : List α} {m : List β} (h : Alike R l m) (hr : ∀ x y, R x y → R' x y) : Alike R' l m := by
  induction h with
  | nil => exact .nil
  | cons h1 _ ih => exact .cons (hr _ _ h1) ih
theorem insAtG_alike (hb : ∀ x y x' y', R x y → R x' y' → b x x' = b' y y') {x : α} {y : β} {l : List α} {m : List β} (hx : R x y) (h : Alike R l m) : ∀ j, insAtG b x l j = insAtG b' y m j
  | 0 => rfl
  | j + 1 => by
    unfold insAtG
    rcases Nat.lt_or_ge j l.length with hj | hj
    · have hj' : j < m.length := by rw [← h.len]; exact hj
      have e1 : l[j]? = some l[j] := List.getElem?_eq_getElem hj
      have e2 : m[j]? = some m[j] := List.getElem?_eq_getElem hj'
      rw [e1, e2]
      dsimp only
      rw [hb _ _ _ _ hx (h.get j _ _ e1 e2), insAtG_alike hb hx h j]
    · rw [List.getElem?_eq_none hj, List.getElem?_eq_none (by rw [← h.len]; exact hj)]
theorem insRG_alike (hb : ∀ x y x' y', R x y → R x' y' → b x x' = b' y y') {x : α} {y : β} {l : List α} {m : List β} (hx : R x y) (h : Alike R l m) : Alike R (insRG b x l) (insRG b' y m) := by
  unfold insRG putAtG
  rw [insAtG_alike hb hx h, h.len]
  exact (h.take _).append (.cons hx (h.drop _))
theorem isortG_alike (hb : ∀ x y x' y', R x y → R x' y' → b x x' = b' y y') {l : List α} {m : List β} (h : Alike R l m) : Alike R (isortG b l) (isortG b' m) := by
  have : ∀ {l : List α} {m : List β}, Alike R l m → ∀ {M : List α} {N : List β}, Alike R M N → Alike R (l.foldl (fun M x => insRG b x M) M) (m.foldl (fun M x => insRG b' x M) N) := by
    intro l m h
    induction h with
    | nil => intro M N hM; exact hM
    | cons h1 _ ih => intro M N hM; exact ih (insRG_alike hb h1 hM)
  exact this h .nil
end
theorem insAt_eq (x : Rc) (M : List Rc) : ∀ j, insAt x M j = insAtG Rc.bef x M j
  | 0 => rfl
  | j + 1 => by
    unfold insAt insAtG
    cases M[j]? with
    | none => rfl
    | some y =>
      dsimp only
      rw [insAt_eq x M j]
theorem isort_eq (L : List Rc) : isort L = isortG Rc.bef L := by
  unfold isort isortG
  congr 1
  funext M x
  unfold insR insRG putAt putAtG
  rw [insAt_eq]
/-- An event, by its contents. -/
structure Ec where
  ty : ByteArray
  key : ByteArray
  t : Int
  q : Int
  vs : List VV
def Ec.bef (x y : Ec) : Bool := E6.bef x.t x.q y.t y.q
end Go.Proofs.YtookojgemipakaaDoor.E6
