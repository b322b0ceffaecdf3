/- A map that is kept while it is told; what OmapTells' law counts. -/
import Derived.Test.YtnibmfijkbfaeaaOmP
import Derived.Test.YtnibmfijkbfaeaaBits
import Derived.Deep.DeepCutAuto
import Derived.Deep.CutBlock
import Derived.BigQuiet
namespace Go.Proofs.Ytnibmfijkbfaeaa.Om
open Go.RowKit Go.Proofs.Ytnibmfijkbfaeaa
set_option linter.unusedVariables false
set_option maxRecDepth 100000
open Key (lt)
theorem TmP.tm {K : Type} {T : TypeId} {ek : K → Value} {P : Own} {w : World} : ∀ {t : Tr K Int} {p : Value}, TmP T ek P w t p → Tm T ek w t p
  | .leaf, _, h => h
  | .node _ _ _ _, _, ⟨b, pl, pr, h1, _, h3, h4, h5⟩ => ⟨b, pl, pr, h1, h3, h4.tm, h5.tm⟩
/-- A map whose blocks are all of a set. -/
def MapP (P : Own) (w : World) (b : Nat) (t : Tr Int Int) (p : Value) : Prop := P b ∧ Row w b 26 #[p] ∧ TmPI P w t p
theorem MapP.ml {P : Own} {V Z : World} {b : Nat} {t : Tr Int Int} {p : Value} (h : MapP P V b t p) (hu : Up t.toL) (hZ : Hold P V Z) : MLI Z b t.toL :=
  ⟨t, p, ⟨hZ.row h.1 h.2.1, (TmP.hold hZ h.2.2).tm⟩, rfl, hu⟩
theorem MapP.hold {P : Own} {V Z : World} {b : Nat} {t : Tr Int Int} {p : Value} (h : MapP P V b t p) (hZ : Hold P V Z) : MapP P Z b t p := ⟨h.1, hZ.row h.1 h.2.1, TmP.hold hZ h.2.2⟩
theorem MapP.more {P P' : Own} {V : World} {b : Nat} {t : Tr Int Int} {p : Value} (h : MapP P V b t p) (hP : ∀ j, P j → P' j) : MapP P' V b t p := ⟨hP _ h.1, h.2.1, h.2.2.more hP⟩
theorem ML_mapP {w : World} {b : Nat} {L : List (Int × Int)} (h : MLI w b L) : ∃ P t p, MapP P w b t p ∧ Cells P w ∧ t.toL = L ∧ Up L := by
  obtain ⟨t, p, hm, e, hu⟩ := h
  obtain ⟨h1, h2⟩ := Tm.tmP hm.tm
  exact ⟨fun j => blks 72 (fun k : Int => .int .i64 k) w t p j ∨ j = b, t, p, ⟨.inr rfl, hm.row, h1.more (fun _ => .inl)⟩, fun j hj => hj.elim (h2 j) (fun e => by subst e; exact ⟨_, _, hm.row⟩), e, hu⟩
theorem get_mem {K V : Type} [Key K] : ∀ {l : List (K × V)} {x : K × V}, Up l → x ∈ l → get x.1 l = some x.2
  | [], _, _, h => by cases h
  | (a, b) :: r, x, hu, h => by
    obtain ⟨h1, h2⟩ := List.pairwise_cons.1 hu
    simp only [get]
    rcases List.mem_cons.1 h with rfl | h
    · rw [if_neg (fun e => e.elim (Key.irr _) (Key.irr _))]
    · rw [if_pos (.inr (h1 x h)), get_mem h2 h]
/-- A rising list is what is below a key, and the others behind it. -/
theorem up_split {K V : Type} [Key K] (k : K) : ∀ {l : List (K × V)}, Up l → l.filter (fun x => decide (lt x.1 k)) ++ l.filter (fun x => decide (¬ lt x.1 k)) = l
  | [], _ => rfl
  | (a, b) :: r, h => by
    obtain ⟨h1, h2⟩ := List.pairwise_cons.1 h
    by_cases c : lt a k
    · rw [List.filter_cons_of_pos (by simpa using c), List.filter_cons_of_neg (by simpa using c), List.cons_append, up_split k h2]
    · have e : r.filter (fun x => decide (lt x.1 k)) = [] := List.filter_eq_nil_iff.2 (fun x hx => by
        have h := h1 x hx
        simpa using fun e => c (Key.tr h e))
      have e2 : r.filter (fun x => decide (¬ lt x.1 k)) = r := List.filter_eq_self.2 (fun x hx => by
        have h := h1 x hx
        simpa using fun e => c (Key.tr h e))
      rw [List.filter_cons_of_neg (by simpa using c), List.filter_cons_of_pos (by simpa using c), e, e2, List.nil_append]
/-- What OmapTells puts: the first i numbers' last five bits, each with its place. -/
def fillI (f : Nat → Int) : Nat → List (Int × Int)
  | 0 => []
  | i + 1 => put (f i % 32) (i : Int) (fillI f i)
theorem fillI_up (f : Nat → Int) : ∀ i, Up (fillI f i)
  | 0 => List.Pairwise.nil
  | i + 1 => put_up (fillI_up f i)
theorem fillI_le (f : Nat → Int) : ∀ i, (fillI f i).length ≤ i
  | 0 => Nat.le_refl _
  | i + 1 => by
    have h := fillI_le f i
    show (put (f i % 32) (i : Int) (fillI f i)).length ≤ _
    rw [put_len (fillI_up f i)]
    split <;> omega
theorem nxt_at {α : Type} {L pre : List α} {x : α} (h : NxtL L pre x) : ∃ (h1 : pre.length < L.length), L[pre.length] = x := by
  obtain ⟨t, rfl⟩ := h
  exact ⟨by simp, by simp⟩
/-- How many of the first i numbers are below one. -/
def pst (Ks : List Int) (F : Int) (i : Nat) : Nat := ((Ks.take i).filter fun x => decide (x < F)).length
theorem pst_succ (Ks : List Int) (F : Int) (i : Nat) (h : i < Ks.length) : pst Ks F (i + 1) = if Ks[i] < F then pst Ks F i + 1 else pst Ks F i := by
  unfold pst
  rw [List.take_succ_eq_append_getElem h, List.filter_append]
  split
  · rename_i c; rw [List.filter_cons_of_pos (by simpa using c)]; simp
  · rename_i c; rw [List.filter_cons_of_neg (by simpa using c)]; simp
theorem pst_le (Ks : List Int) (F : Int) (i : Nat) : pst Ks F i ≤ i := by
  unfold pst
  have h := List.length_filter_le (fun x => decide (x < F)) (Ks.take i)
  rw [List.length_take] at h
  omega
theorem pst_all (L : List (Int × Int)) (F : Int) : pst (L.map Prod.fst) F (L.map Prod.fst).length = (L.filter fun x => decide (lt x.1 F)).length := by
  unfold pst
  rw [List.take_length, List.filter_map, List.length_map]
  rfl
theorem split_at {L : List (Int × Int)} (hu : Up L) (F : Int) (j : Nat) (h : j < (L.filter fun x => decide (¬ lt x.1 F)).length) :
    ∃ (h1 : (L.filter fun x => decide (lt x.1 F)).length + j < (L.map Prod.fst).length), (L.map Prod.fst)[(L.filter fun x => decide (lt x.1 F)).length + j] = ((L.filter fun x => decide (¬ lt x.1 F))[j]).1 := by
  have hs := up_split F hu
  have hl : (L.filter fun x => decide (lt x.1 F)).length + (L.filter fun x => decide (¬ lt x.1 F)).length = L.length := by
    have h := congrArg List.length hs
    rwa [List.length_append] at h
  refine ⟨by rw [List.length_map]; omega, ?_⟩
  rw [List.getElem_map]
  congr 1
  have e : ∀ (i : Nat) (h : i < L.length), L[i] = (L.filter (fun x => decide (lt x.1 F)) ++ L.filter (fun x => decide (¬ lt x.1 F)))[i]'(by rw [hs]; exact h) := fun i h => by
    congr 1
    exact hs.symm
  rw [e _ (by omega), List.getElem_append_right (by omega)]
  congr 1
  omega
end Go.Proofs.Ytnibmfijkbfaeaa.Om
