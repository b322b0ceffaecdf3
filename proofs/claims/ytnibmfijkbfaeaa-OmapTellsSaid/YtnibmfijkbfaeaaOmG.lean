/- Trees within trees; how many keys a pointer's tree has. -/
import Derived.Test.YtnibmfijkbfaeaaOmB
namespace Go.Proofs.Ytnibmfijkbfaeaa.Om
open Go.RowKit Go.Proofs.Ytnibmfijkbfaeaa
set_option linter.unusedVariables false
open Key (lt)
variable {K : Type}
/-- How many keys a tree's top counts. -/
def cntOf (w : World) : Value → Nat
  | .pointer (some a) => match w.cell? ⟨a.block, 4, none⟩ with
    | some (.int _ n) => n.toNat
    | _ => 0
  | _ => 0
theorem cntOf_tm {T : TypeId} {ek : K → Value} {w : World} {t : Tr K Int} {p : Value} (h : Tm T ek w t p) : cntOf w p = t.size := by
  cases t with
  | leaf => obtain rfl : p = .pointer none := h; rfl
  | node l k v r =>
    obtain ⟨b, pl, pr, rfl, h2, _⟩ := h
    have c4 : w.cell? ⟨b, 4, none⟩ = some (.int .i64 ((Tr.node l k v r).size : Nat)) := (h2.cell 4).trans rfl
    show (match w.cell? ⟨b, 4, none⟩ with | some (.int _ n) => n.toNat | _ => 0) = _
    rw [c4]
    simp
/-- The tree with the least key at its top, the greatest, a key. -/
def fstT : Tr K Int → Tr K Int
  | .leaf => .leaf
  | .node .leaf k v r => .node .leaf k v r
  | .node (.node a b c d) _ _ _ => fstT (.node a b c d)
def lstT : Tr K Int → Tr K Int
  | .leaf => .leaf
  | .node l k v .leaf => .node l k v .leaf
  | .node _ _ _ (.node a b c d) => lstT (.node a b c d)
def fndT [Key K] (k : K) : Tr K Int → Tr K Int
  | .leaf => .leaf
  | .node l a b r => if lt k a then fndT k l else if lt a k then fndT k r else .node l a b r
def topT : Tr K Int → Option (K × Int)
  | .leaf => none
  | .node _ a b _ => some (a, b)
theorem fstT_top : ∀ t : Tr K Int, topT (fstT t) = fst? t
  | .leaf => rfl
  | .node .leaf k v r => rfl
  | .node (.node a b c d) k v r => fstT_top (.node a b c d)
theorem lstT_top : ∀ t : Tr K Int, topT (lstT t) = lst? t
  | .leaf => rfl
  | .node l k v .leaf => rfl
  | .node l k v (.node a b c d) => lstT_top (.node a b c d)
theorem fndT_top [Key K] (k : K) : ∀ t : Tr K Int, (topT (fndT k t)).map Prod.snd = find k t
  | .leaf => rfl
  | .node l a b r => by
    unfold fndT find
    split
    · exact fndT_top k l
    · split
      · exact fndT_top k r
      · rfl
theorem wout_le {V : Type} [Key K] {k : K} {t : Tr K V} (h : Up t.toL) : (wout k t).size ≤ t.size := by
  rw [← Tr.len, ← Tr.len, wout_toL t k h]
  exact List.length_filter_le _ _
section
variable {V : Type} [Key K] {k a : K} {b : V} {l r : Tr K V}
theorem blw_lt (h : lt a k) : blw k (.node l a b r) = l.size + 1 + blw k r := by
  conv => lhs; unfold blw
  exact if_pos h
theorem blw_ge (h : ¬ lt a k) : blw k (.node l a b r) = blw k l := by
  conv => lhs; unfold blw
  exact if_neg h
theorem wout_lt (h : lt k a) : wout k (.node l a b r) = bet (wout k l) a b r := by
  conv => lhs; unfold wout
  exact if_pos h
theorem wout_gt (h1 : ¬ lt k a) (h : lt a k) : wout k (.node l a b r) = bet l a b (wout k r) := by
  conv => lhs; unfold wout
  exact (if_neg h1).trans (if_pos h)
theorem wout_two (h1 : ¬ lt k a) (h2 : ¬ lt a k) {la ld ra rd : Tr K V} {lb rb x : K} {lc rc y : V} (hf : fst? (.node ra rb rc rd) = some (x, y)) : wout k (.node (.node la lb lc ld) a b (.node ra rb rc rd)) = bet (.node la lb lc ld) x y (wout x (.node ra rb rc rd)) := by
  conv => lhs; unfold wout
  refine ((if_neg h1).trans (if_neg h2)).trans ?_
  simp only [hf]
end
theorem find_fst {V : Type} [Key K] {t : Tr K V} {x : K} {y : V} (h : Up t.toL) (hf : fst? t = some (x, y)) : find x t = some y := by
  rw [find_toL _ _ h]
  rw [fst_toL] at hf
  cases hl : t.toL with
  | nil => rw [hl] at hf; cases hf
  | cons q r =>
    rw [hl] at hf
    obtain rfl : q = (x, y) := by simpa using hf
    simp only [get]
    rw [if_neg (fun e => e.elim (Key.irr x) (Key.irr x))]
end Go.Proofs.Ytnibmfijkbfaeaa.Om
