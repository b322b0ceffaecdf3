/- Structs that came in, opened field by field. -/
import Derived.Test.YtaimbkikiokenaaOpen2
namespace Go.Proofs.Ytaimbkikiokenaa
open Go.RowKit Go.ChangeShapes Go.WideShapes
set_option linter.unusedVariables false
section
variable {H : Type} {enc : TypeId × Value → H} {P : Program} {w : World} {base : Nat} {spare : Nat → Bool} {held : Bool} {fuel : Nat} {cs : List Value} {x : DataW H × List MemPlace}
/-- Where field i of a struct type lies, and of what type it is. -/
def fieldAt (P : Program) (t : TypeId) (i : Nat) : Option (TypeId × Nat) := match P.underlying t with
  | some (.struct fs) => (fs[i]?).map fun f => (f.type, f.offset)
  | _ => none
theorem trod_field {t ft : TypeId} (i : Nat) {off : Nat} (hf : fieldAt P t i = some (ft, off)) (h : DataW.trod enc P w 0 spare held fuel t cs = some x) :
    ∃ y m, DataW.trod enc P w 0 spare held m ft ((cs.drop off).take (P.cellsOf ft)) = some y := by
  unfold fieldAt at hf
  split at hf
  · rename_i fs hu
    rw [Option.map_eq_some_iff] at hf
    obtain ⟨f, h1, h2⟩ := hf
    injection h2 with h2 h3
    subst h2 h3
    obtain ⟨xs, m, _, _, hl, hx, hk⟩ := DataW.trod_struct hu h
    have h4 := hk i f h1
    have hi : i < xs.length := by rw [hx]; exact (Array.getElem?_eq_some_iff.1 h1).1
    rw [List.getElem?_eq_getElem hi] at h4
    exact ⟨_, m, h4⟩
  · cases hf
theorem trod_struct_len {t : TypeId} {n : Nat} (hs : (match P.underlying t with | some (.struct _) => true | _ => false) = true) (hn : P.cellsOf t = n) (h : DataW.trod enc P w 0 spare held fuel t cs = some x) : cs.length = n := by
  split at hs
  · rename_i fs hu
    obtain ⟨_, _, _, _, hl, _⟩ := DataW.trod_struct hu h
    exact hl.trans hn
  · cases hs
theorem okWide_struct {r : Reach} {t : TypeId} {v : Value} (hs : (match P.underlying t with | some (.struct _) => true | _ => false) = true) (h : Value.okWide P w r base t v) : ∃ cs, v = .agg cs ∧ cs.size = P.cellsOf t := by
  split at hs
  · rename_i fs hu
    simp only [Value.okWide, hu] at h
    obtain ⟨cs, h1, h2, _⟩ := h
    exact ⟨cs, h1, h2⟩
  · cases hs
theorem list4 {l : List Value} (h : l.length = 4) : ∃ a b c d, l = [a, b, c, d] := by
  match l, h with
  | [a, b, c, d], _ => exact ⟨a, b, c, d, rfl⟩
theorem list5 {l : List Value} (h : l.length = 5) : ∃ a b c d e, l = [a, b, c, d, e] := by
  match l, h with
  | [a, b, c, d, e], _ => exact ⟨a, b, c, d, e, rfl⟩
theorem list3 {l : List Value} (h : l.length = 3) : ∃ a b c, l = [a, b, c] := by
  match l, h with
  | [a, b, c], _ => exact ⟨a, b, c, rfl⟩
theorem list12 {l : List Value} (h : l.length = 12) : ∃ a b c d e f g i j k m n, l = [a, b, c, d, e, f, g, i, j, k, m, n] := by
  match l, h with
  | [a, b, c, d, e, f, g, i, j, k, m, n], _ => exact ⟨a, b, c, d, e, f, g, i, j, k, m, n, rfl⟩
theorem one_int {k : IntKind} {t : TypeId} {v : Value} (ht : P.underlying t = some (.int k)) (h : DataW.trod enc P w 0 spare held fuel t [v] = some x) : ∃ n, v = .int k n ∧ (Lit.int k n).wf = true := by
  obtain ⟨n, h1, _, h2⟩ := DataW.trod_int ht h
  injection h1 with h1
  exact ⟨n, h1, h2⟩
theorem one_str {t : TypeId} {v : Value} (ht : P.underlying t = some .string) (h : DataW.trod enc P w 0 spare held fuel t [v] = some x) : ∃ s : ByteArray, v = .string s ∧ s.size ≤ 9223372036854775807 := by
  obtain ⟨n, h1, _, h2⟩ := DataW.trod_string ht h
  injection h1 with h1
  exact ⟨n, h1, h2⟩
theorem one_bool {t : TypeId} {v : Value} (ht : P.underlying t = some .bool) (h : DataW.trod enc P w 0 spare held fuel t [v] = some x) : ∃ b, v = .bool b := by
  obtain ⟨n, h1, _⟩ := DataW.trod_bool ht h
  injection h1 with h1
  exact ⟨n, h1⟩
theorem one_slice {t e : TypeId} {v : Value} (ht : P.underlying t = some (.slice e)) (hK : 0 < P.cellsOf e) (h : DataW.trod enc P w 0 spare held fuel t [v] = some x) :
    ∃ (A : Option Addr) (n c : Nat), v = .slice A n c ∧ n ≤ c ∧ c ≤ 9223372036854775807 ∧ ∀ i, i < n → ∃ g o es m y, A = some ⟨g, o, none⟩ ∧ g < w.heap.size ∧ es.length = P.cellsOf e ∧
      (∀ j u, es[j]? = some u → w.cell? ⟨g, o + i * P.cellsOf e + j, none⟩ = some u) ∧ DataW.trod enc P w 0 spare held m e es = some y := by
  obtain ⟨A, n, c, h1, r⟩ := trod_slice_rows ht hK h
  injection h1 with h1
  exact ⟨A, n, c, h1, r⟩
end
end Go.Proofs.Ytaimbkikiokenaa
