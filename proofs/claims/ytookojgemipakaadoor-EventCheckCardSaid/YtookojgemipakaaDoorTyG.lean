/- What variables stand for; where the one of a name stands; fields of a schema, whatever is asked. -/
import Derived.Test.YtookojgemipakaaDoorTyF
import Derived.Test.YtookojgemipakaaDoorSfD
namespace Go.Proofs.YtookojgemipakaaDoor.Ty
open Go.RowKit Go.Proofs.YtookojgemipakaaDoor Go.Proofs.YtookojgemipakaaDoor.Sch
set_option linter.unusedVariables false
set_option maxRecDepth 100000
/-- Texts as they lie in memory. -/
def SL (w : World) (B : Nat) (v : Value) (L : List ByteArray) : Prop :=
  ∃ A c, v = .slice A L.length c ∧ L.length ≤ c ∧ c ≤ 9223372036854775807 ∧ ∀ k (h : k < L.length), ∃ g o, A = some ⟨g, o, none⟩ ∧ g < B ∧ w.cell? ⟨g, o + k, none⟩ = some (.string L[k])
theorem SL.below {w w' : World} {B B' : Nat} {v : Value} {L : List ByteArray} (h : SL w B v L) (hb : Below B w w') (hB : B ≤ B') : SL w' B' v L := by
  obtain ⟨A, c, rfl, h1, h2, h3⟩ := h
  refine ⟨A, c, rfl, h1, h2, fun k hk => ?_⟩
  obtain ⟨g, o, e, hg, hc⟩ := h3 k hk
  exact ⟨g, o, e, by omega, (hb.cell (p := ⟨g, o + k, none⟩) hg).trans hc⟩
abbrev Bd := ByteArray × List ByteArray
/-- What variables stand for, as it lies in memory. -/
def Bs (w : World) (B : Nat) (v : Value) (bs : List Bd) : Prop :=
  ∃ A c, v = .slice A bs.length c ∧ bs.length ≤ c ∧ c ≤ 9223372036854775807 ∧
    ∀ k (h : k < bs.length), ∃ g o tv, A = some ⟨g, o, none⟩ ∧ g < B ∧ w.cell? ⟨g, o + k * 2, none⟩ = some (.string bs[k].1) ∧ w.cell? ⟨g, o + k * 2 + 1, none⟩ = some tv ∧ SL w B tv bs[k].2
theorem Bs.below {w w' : World} {B B' : Nat} {v : Value} {bs : List Bd} (h : Bs w B v bs) (hb : Below B w w') (hB : B ≤ B') : Bs w' B' v bs := by
  obtain ⟨A, c, rfl, h1, h2, h3⟩ := h
  refine ⟨A, c, rfl, h1, h2, fun k hk => ?_⟩
  obtain ⟨g, o, tv, e, hg, c0, c1, hs⟩ := h3 k hk
  exact ⟨g, o, tv, e, by omega, (hb.cell (p := ⟨g, o + k * 2, none⟩) hg).trans c0, (hb.cell (p := ⟨g, o + k * 2 + 1, none⟩) hg).trans c1, hs.below hb hB⟩
/-- The place and the kind of a type's field. -/
def fieldS (ts : List Ty) (n f : ByteArray) : Int × Int :=
  match ts[(idx (ts.map Prod.fst) n).toNat]? with
  | none => (-1, 0)
  | some t => if idx (ts.map Prod.fst) n < 0 then (-1, 0) else match t.2[(idx (t.2.map Prod.fst) f).toNat]? with
    | none => (-1, 0)
    | some x => if idx (t.2.map Prod.fst) f < 0 then (-1, 0) else (idx (t.2.map Prod.fst) f, x.2)
theorem fieldS_any (p : Option Addr) (ts : List Ty) (n f : ByteArray) (w : World) (hs : Sc w w.heap.size p ts) :
    Calls Tryd.prog 40 #[.pointer p, .string n, .string f] w fun e w' => e = .returned (.tuple #[.int .i64 (fieldS ts n f).1, .int .i64 (fieldS ts n f).2]) ∧ Below w.heap.size w w' := by
  obtain ⟨hi1, hi2⟩ := idx_lt (l := ts.map Prod.fst) (nm := n)
  rw [List.length_map] at hi1
  by_cases h0 : idx (ts.map Prod.fst) n < 0
  · have e : fieldS ts n f = (-1, 0) := by
      unfold fieldS
      split
      · rfl
      · rw [if_pos h0]
    rw [e]
    exact field_no1 p ts n f w hs h0
  · obtain ⟨i, hi⟩ : ∃ i : Nat, idx (ts.map Prod.fst) n = i := ⟨(idx (ts.map Prod.fst) n).toNat, by omega⟩
    have hil : i < ts.length := by omega
    have hti : ts[i]? = some (ts[i].1, ts[i].2) := List.getElem?_eq_getElem hil
    obtain ⟨hj1, hj2⟩ := idx_lt (l := (ts[i].2).map Prod.fst) (nm := f)
    rw [List.length_map] at hj1
    by_cases h1 : idx ((ts[i].2).map Prod.fst) f < 0
    · have e : fieldS ts n f = (-1, 0) := by
        unfold fieldS
        rw [hi, Int.toNat_natCast, hti]
        dsimp only
        rw [if_neg (by omega)]
        split
        · rfl
        · rw [if_pos h1]
      rw [e]
      exact field_no2 p ts n f i _ w hs hi hti h1
    · obtain ⟨j, hj⟩ : ∃ j : Nat, idx ((ts[i].2).map Prod.fst) f = j := ⟨(idx ((ts[i].2).map Prod.fst) f).toNat, by omega⟩
      have hjl : j < (ts[i].2).length := by omega
      have htj : (ts[i].2)[j]? = some ((ts[i].2)[j].1, (ts[i].2)[j].2) := List.getElem?_eq_getElem hjl
      have e : fieldS ts n f = ((j : Int), (ts[i].2)[j].2) := by
        unfold fieldS
        rw [hi, Int.toNat_natCast, hti]
        dsimp only
        rw [if_neg (by omega), hj, Int.toNat_natCast, htj]
        dsimp only
        rw [if_neg (by omega)]
      rw [e]
      exact field_yes p ts n f w.heap.size i j _ w hs (Nat.le_refl _) hi hti hj htj
end Go.Proofs.YtookojgemipakaaDoor.Ty
