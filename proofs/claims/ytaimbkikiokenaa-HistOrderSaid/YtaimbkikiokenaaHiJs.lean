/- Spans that lie somewhere; small words. -/
import Derived.Test.YtaimbkikiokenaaHiI
import Derived.Test.YtaimbkikiokenaaBits
import Derived.Test.YtaimbkikiokenaaTab
namespace Go.Proofs.Ytaimbkikiokenaa.Hi
open Go.RowKit Go.Proofs.Ytaimbkikiokenaa Go.Maps
set_option linter.unusedVariables false
set_option maxRecDepth 100000
/-- Spans that lie somewhere. -/
def Ls (w : World) (A : Option Addr) (xs : List Sp) : Prop := ∀ i x, xs[i]? = some x → ∃ g o, A = some ⟨g, o, none⟩ ∧ g < w.heap.size ∧ ∀ j u, x.cells[j]? = some u → w.cell? ⟨g, o + i * 13 + j, none⟩ = some u
theorem Ls.call {w w' : World} {A : Option Addr} {es : List Sp} (h : Ls w A es) (g : Below w.heap.size w w') : Ls w' A es := fun i e he => by
  obtain ⟨b, o, ea, hl, hc⟩ := h i e he
  exact ⟨b, o, ea, Nat.lt_of_lt_of_le hl g.size, fun j u hj => (g.cell (p := ⟨b, o + i * 13 + j, none⟩) hl).trans (hc j u hj)⟩
theorem ls_seg {w : World} {A : Option Addr} {n c : Nat} {xs : List Sp} {ob : Option Nat} (h : Seg w 104 13 (.slice A n c) n (scells xs) ob) (hn : n = xs.length) : Ls w A xs := fun i x hx => by
  have hi : i < xs.length := (List.getElem?_eq_some_iff.1 hx).1
  obtain ⟨g, o, cap, e, hob, _, _, hc, _⟩ := h.shape (by omega)
  injection e with e1 _ e3
  subst e1
  exact ⟨g, o, rfl, h.lt g hob, fun j u hj => by rw [Nat.add_assoc]; exact hc _ _ (scells_get xs i x j u hx hj)⟩
theorem and1 (n : Int) : bits .and .i64 n 1 = n % 2 := by
  have hm : (BitVec.ofInt 64 1).toNat = 2 ^ 1 - 1 := by decide
  have key : (BitVec.ofInt 64 n &&& BitVec.ofInt 64 1).toNat = (n % ((2 ^ 64 : Nat) : Int)).toNat % 2 ^ 1 := by
    rw [BitVec.toNat_and, BitVec.toNat_ofInt, hm, Nat.and_two_pow_sub_one_eq_mod]
  show IntKind.i64.wrap ((BitVec.ofInt 64 n &&& BitVec.ofInt 64 1).toNat : Nat) = n % 2
  rw [key, IntKind.wrap_i64]
  omega
theorem sp_one (x : Sp) : ∀ u ∈ x.cells, u.oneCell' = true := fun u hu => List.all_eq_true.1 (show x.cells.all (fun u => u.oneCell') = true from rfl) u hu
theorem seg_zeroK (w : World) (e : TypeId) (K : Nat) (A : Option Addr) : Seg w e K (.slice A 0 0) 0 [] none := ⟨by simp, _, 0, rfl, Nat.le_refl _, by unfold maxLen; omega, .inl ⟨rfl, rfl, fun _ => trivial⟩⟩
theorem Lies.wide {w : World} {B B' : Nat} {A : Option Addr} {n : Nat} {v : Nat → Value} (h : Lies w B A n v) (hB : B ≤ B') : Lies w B' A n v := fun k hk => by
  obtain ⟨g, o, e, hg, hc⟩ := h k hk
  exact ⟨g, o, e, by omega, hc⟩
end Go.Proofs.Ytaimbkikiokenaa.Hi
