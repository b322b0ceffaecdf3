/- Predicates put together: what they come to. -/
import Derived.Test.YtfgnbdhnoclleaaTyN
namespace Go.Proofs.Ytfgnbdhnoclleaa.Ty
open Go.RowKit Go.Proofs.Ytfgnbdhnoclleaa Go.Proofs.Ytfgnbdhnoclleaa.Sch
set_option linter.unusedVariables false
set_option maxRecDepth 100000
theorem dep_app (l r : List Nd) : dep (l ++ r) = dep l + dep r := by
  unfold dep
  rw [List.map_append, List.sum_append]
/-- A predicate that comes to a kind, whatever is ahead of it. -/
structure PL (ts : List Ty) (bs : List Bd) (kd : Int) (B : Nat) (L : List Nd) : Prop where
  len : L.length ≤ B
  ok : ∀ k (h : k < L.length), OkN L[k]
  low : ∀ k (h : k < L.length), partsI L[k].op ≤ dep (L.take k)
  one : dep L = 1
  sem : ∀ st rest, kindS ts bs (L ++ rest) st = kindS ts bs rest (st ++ [kd])
theorem PL.good {ts : List Ty} {bs : List Bd} {kd : Int} {B : Nat} {L : List Nd} (h : PL ts bs kd B L) (hB : B ≤ 64) : Good L := ⟨Nat.le_trans h.len hB, h.ok, h.low, h.one⟩
theorem PL.kind {ts : List Ty} {bs : List Bd} {kd : Int} {B : Nat} {L : List Nd} (h : PL ts bs kd B L) : kindS ts bs L [] = (kd, 0) := by
  have := h.sem [] []
  rw [List.append_nil] at this
  rw [this]
  rfl
theorem PL.more {ts : List Ty} {bs : List Bd} {kd : Int} {B C : Nat} {L : List Nd} (h : PL ts bs kd B L) (hB : B ≤ C) : PL ts bs kd C L := ⟨Nat.le_trans h.len hB, h.ok, h.low, h.one, h.sem⟩
theorem kindS_cons (ts : List Ty) (bs : List Bd) (n : Nd) (r : List Nd) (st : List Int) : kindS ts bs (n :: r) st = if (stepK ts bs st n).2 = 0 then kindS ts bs r (st.take (st.length - (partsI n.op).toNat) ++ [(stepK ts bs st n).1]) else (0, (stepK ts bs st n).2) := rfl
def opn (o : Int) : Nd := ⟨o, 0, 0, ⟨#[]⟩, false, ⟨#[]⟩, ⟨#[]⟩⟩
theorem PL.leaf {ts : List Ty} {bs : List Bd} {kd : Int} (nd : Nd) (hok : OkN nd) (hp : partsI nd.op = 0) (hk : ∀ L, partK ts bs nd L = (kd, 0)) : PL ts bs kd 1 [nd] := by
  refine ⟨Nat.le_refl _, fun k h => ?_, fun k h => ?_, ?_, fun st rest => ?_⟩
  · match k, h with
    | 0, _ => exact hok
  · match k, h with
    | 0, _ => show partsI nd.op ≤ dep []; rw [hp]; decide
  · show (1 - partsI nd.op) + 0 = 1
    omega
  · show kindS ts bs (nd :: rest) st = _
    have e : stepK ts bs st nd = (kd, 0) := hk _
    rw [kindS_cons, e, if_pos rfl, hp]
    simp
theorem low_app {l r : List Nd} (h1 : ∀ k (h : k < l.length), partsI l[k].op ≤ dep (l.take k)) (d1 : 0 ≤ dep l) (h2 : ∀ k (h : k < r.length), partsI r[k].op ≤ dep l + dep (r.take k)) : ∀ k (h : k < (l ++ r).length), partsI (l ++ r)[k].op ≤ dep ((l ++ r).take k) := by
  intro k hk
  by_cases h : k < l.length
  · rw [List.getElem_append_left h, List.take_append_of_le_length (by omega)]
    exact h1 k h
  · have hr : k - l.length < r.length := by simp at hk; omega
    rw [List.getElem_append_right (by omega), List.take_append, List.take_of_length_le (by omega), dep_app]
    exact h2 _ hr
theorem PL.op1 {ts : List Ty} {bs : List Bd} {kd kr : Int} {B : Nat} {l : List Nd} (h : PL ts bs kd B l) (o : Int) (h1 : 3 ≤ o) (h2 : o ≤ 15) (hp : partsI o = 1) (hk : opK o [kd] = (kr, 0)) : PL ts bs kr (B + 1) (l ++ [opn o]) := by
  refine ⟨by have := h.len; simp; omega, fun k hk => ?_, low_app h.low (by have := h.one; omega) (fun k hk => ?_), ?_, fun st rest => ?_⟩
  · by_cases hh : k < l.length
    · rw [List.getElem_append_left hh]; exact h.ok k hh
    · have e : k = l.length := by simp at hk; omega
      subst e
      simp [opn]
      exact .op o h1 h2
  · match k, hk with
    | 0, _ => show partsI o ≤ dep l + 0; rw [hp, h.one]; decide
  · rw [dep_snoc, h.one]
    show 1 + (1 - partsI o) = 1
    omega
  · rw [List.append_assoc, h.sem]
    show kindS ts bs (opn o :: rest) (st ++ [kd]) = _
    have e : stepK ts bs (st ++ [kd]) (opn o) = (kr, 0) := by
      unfold stepK partK
      rw [if_neg (show ¬ (opn o).op = 1 from (show ¬ o = 1 by omega)), if_neg (show ¬ (opn o).op = 2 from (show ¬ o = 2 by omega))]
      have : (st ++ [kd]).drop ((st ++ [kd]).length - (partsI (opn o).op).toNat) = [kd] := by
        show (st ++ [kd]).drop ((st ++ [kd]).length - (partsI o).toNat) = [kd]
        rw [hp]
        simp
      rw [this]
      exact hk
    rw [kindS_cons, e, if_pos rfl]
    show kindS ts bs rest ((st ++ [kd]).take ((st ++ [kd]).length - (partsI o).toNat) ++ [kr]) = _
    rw [hp]
    simp
theorem PL.op2 {ts : List Ty} {bs : List Bd} {k1 k2 kr : Int} {B C : Nat} {l r : List Nd} (h : PL ts bs k1 B l) (g : PL ts bs k2 C r) (o : Int) (h1 : 3 ≤ o) (h2 : o ≤ 15) (hp : partsI o = 2) (hk : opK o [k1, k2] = (kr, 0)) : PL ts bs kr (B + C + 1) ((l ++ r) ++ [opn o]) := by
  have hlr : ∀ k (h : k < (l ++ r).length), partsI (l ++ r)[k].op ≤ dep ((l ++ r).take k) := low_app h.low (by have := h.one; omega) (fun k hk => by have := g.low k hk; have := h.one; omega)
  have hd : dep (l ++ r) = 2 := by rw [dep_app, h.one, g.one]; rfl
  refine ⟨by have := h.len; have := g.len; simp; omega, fun k hk => ?_, low_app hlr (by omega) (fun k hk => ?_), ?_, fun st rest => ?_⟩
  · by_cases hh : k < (l ++ r).length
    · rw [List.getElem_append_left hh]
      by_cases hl : k < l.length
      · rw [List.getElem_append_left hl]; exact h.ok k hl
      · rw [List.getElem_append_right (by omega)]; exact g.ok _ _
    · have e : k = (l ++ r).length := by simp at hk hh; simp; omega
      subst e
      simp [opn]
      exact .op o h1 h2
  · match k, hk with
    | 0, _ => show partsI o ≤ dep (l ++ r) + 0; rw [hp, hd]; decide
  · rw [dep_snoc, hd]
    show 2 + (1 - partsI o) = 1
    omega
  · rw [List.append_assoc, List.append_assoc, h.sem, g.sem]
    show kindS ts bs (opn o :: rest) ((st ++ [k1]) ++ [k2]) = _
    have e : stepK ts bs ((st ++ [k1]) ++ [k2]) (opn o) = (kr, 0) := by
      unfold stepK partK
      rw [if_neg (show ¬ (opn o).op = 1 from (show ¬ o = 1 by omega)), if_neg (show ¬ (opn o).op = 2 from (show ¬ o = 2 by omega))]
      have : ((st ++ [k1]) ++ [k2]).drop (((st ++ [k1]) ++ [k2]).length - (partsI (opn o).op).toNat) = [k1, k2] := by
        show ((st ++ [k1]) ++ [k2]).drop (((st ++ [k1]) ++ [k2]).length - (partsI o).toNat) = [k1, k2]
        rw [hp]
        simp
      rw [this]
      exact hk
    rw [kindS_cons, e, if_pos rfl]
    show kindS ts bs rest (((st ++ [k1]) ++ [k2]).take (((st ++ [k1]) ++ [k2]).length - (partsI o).toNat) ++ [kr]) = _
    rw [hp]
    simp
/-- What three variables stand for, by a number's bits. -/
def lsAt (i : Nat) : List ByteArray := if i = 0 then [nA] else if i = 1 then [nA, nB] else if i = 2 then [nC, nA] else [nB, nC]
def scN (x y z : Nat) : List Bd := [(⟨#[97]⟩, lsAt x), (⟨#[98]⟩, lsAt y), (⟨#[99]⟩, lsAt z)]
def vAt (i : Nat) : ByteArray := if i = 0 then ⟨#[97]⟩ else if i = 1 then ⟨#[98]⟩ else ⟨#[99]⟩
end Go.Proofs.Ytfgnbdhnoclleaa.Ty
