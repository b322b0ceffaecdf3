/- Trees in memory; keys that are numbers, and texts. -/
import Derived.Test.YtnibmfijkbfaeaaOmA
import Derived.Test.YtnibmfijkbfaeaaSeg
import Derived.Test.YtnibmfijkbfaeaaApp
namespace Go.Proofs.Ytnibmfijkbfaeaa.Om
open Go.RowKit Go.Proofs.Ytnibmfijkbfaeaa
set_option linter.unusedVariables false
open Key (lt)
theorem bl_self : ∀ l : List UInt8, Op.bytesLess l l = false
  | [] => rfl
  | a :: l => by simp [Op.bytesLess, bl_self l]
theorem bl_total : ∀ a b : List UInt8, Op.bytesLess a b = false → Op.bytesLess b a = false → a = b
  | [], [], _, _ => rfl
  | _ :: _, [], _, h => by cases h
  | [], _ :: _, h, _ => by cases h
  | x :: a, y :: b, h, k => by
    simp only [Op.bytesLess, Bool.or_eq_false_iff, decide_eq_false_iff_not, Bool.and_eq_false_iff, beq_eq_false_iff_ne] at h k
    have e : x = y := by
      have h1 := h.1
      have k1 := k.1
      rw [UInt8.lt_iff_toNat_lt] at h1 k1
      exact UInt8.toNat_inj.1 (by omega)
    subst e
    rw [bl_total a b (h.2.resolve_left (fun x => x rfl)) (k.2.resolve_left (fun x => x rfl))]
theorem bl_trans : ∀ a b c : List UInt8, Op.bytesLess a b = true → Op.bytesLess b c = true → Op.bytesLess a c = true
  | a, [], _, h, _ => by cases a <;> cases h
  | a, _ :: _, [], _, h => by cases h
  | [], _ :: _, _ :: _, _, _ => rfl
  | x :: a, y :: b, z :: c, h, k => by
    simp only [Op.bytesLess, Bool.or_eq_true, decide_eq_true_eq, Bool.and_eq_true, beq_iff_eq] at h k ⊢
    rcases h with h | ⟨rfl, h⟩
    · rcases k with k | ⟨rfl, _⟩
      · exact .inl (UInt8.lt_trans h k)
      · exact .inl h
    · rcases k with k | ⟨rfl, k⟩
      · exact .inl k
      · exact .inr ⟨rfl, bl_trans a b c h k⟩
instance : Key Int where
  lt a b := a < b
  dec a b := inferInstance
  irr a := Int.lt_irrefl a
  tr h k := Int.lt_trans h k
  tri h k := by omega
instance : Key ByteArray where
  lt a b := Op.bytesLess a.toList b.toList = true
  dec a b := inferInstance
  irr a := by rw [bl_self]; exact Bool.false_ne_true
  tr h k := bl_trans _ _ _ h k
  tri h k := by
    have := bl_total _ _ (by simpa using h) (by simpa using k)
    rw [ByteArray.toList_eq, ByteArray.toList_eq] at this
    exact ByteArray.ext (Array.toList_inj.1 this)
def cmpK {K : Type} [Key K] (a b : K) : Int := if lt a b then -1 else if lt b a then 1 else 0
variable {K : Type}
/-- A tree lies in memory. -/
def Tm (T : TypeId) (ek : K → Value) (w : World) : Tr K Int → Value → Prop
  | .leaf, p => p = .pointer none
  | .node l k v r, p => ∃ b pl pr, p = .pointer (some ⟨b, 0, none⟩) ∧ Row w b T #[ek k, .int .i64 v, pl, pr, .int .i64 ((Tr.node l k v r).size : Nat)] ∧ Tm T ek w l pl ∧ Tm T ek w r pr
theorem Tm.below {T : TypeId} {ek : K → Value} {w w' : World} (hb : Below w.heap.size w w') : ∀ {t : Tr K Int} {p : Value}, Tm T ek w t p → Tm T ek w' t p
  | .leaf, p, h => h
  | .node l k v r, p, ⟨b, pl, pr, h1, h2, h3, h4⟩ => ⟨b, pl, pr, h1, h2.below hb h2.lt, Tm.below hb h3, Tm.below hb h4⟩
theorem Tm.drew {T : TypeId} {ek : K → Value} {w : World} {t : Tr K Int} {p : Value} (h : Tm T ek w t p) : Tm T ek w.drew t p := h.below (Below.refl _ w).drew
/-- The pointers to a tree's sides. -/
theorem Tm.ptr {T : TypeId} {ek : K → Value} {w : World} {t : Tr K Int} {p : Value} (h : Tm T ek w t p) : p = .pointer none ∧ t = .leaf ∨ ∃ b, p = .pointer (some ⟨b, 0, none⟩) ∧ 0 < t.size := by
  cases t with
  | leaf => exact .inl ⟨h, rfl⟩
  | node l k v r => obtain ⟨b, pl, pr, h1, _⟩ := h; exact .inr ⟨b, h1, by simp only [Tr.size]; omega⟩
theorem Tm.isPtr {T : TypeId} {ek : K → Value} {w : World} {t : Tr K Int} {p : Value} (h : Tm T ek w t p) : ∃ q, p = .pointer q := by
  rcases h.ptr with ⟨h, _⟩ | ⟨b, h, _⟩
  · exact ⟨_, h⟩
  · exact ⟨_, h⟩
/-- A map in memory: its block. -/
structure Mm (M T : TypeId) (ek : K → Value) (w : World) (b : Nat) (t : Tr K Int) (p : Value) : Prop where
  row : Row w b M #[p]
  tm : Tm T ek w t p
theorem Mm.below {M T : TypeId} {ek : K → Value} {w w' : World} {b : Nat} {t : Tr K Int} {p : Value} (h : Mm M T ek w b t p) (hb : Below w.heap.size w w') : Mm M T ek w' b t p := ⟨h.row.below hb h.row.lt, h.tm.below hb⟩
end Go.Proofs.Ytnibmfijkbfaeaa.Om
