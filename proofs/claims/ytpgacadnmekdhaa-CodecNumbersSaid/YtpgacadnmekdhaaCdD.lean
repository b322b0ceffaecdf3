/- Bytes cloned, made into a text; a reader made. -/
import Derived.Test.YtpgacadnmekdhaaCdC
import Derived.WalkSpells
namespace Go.Proofs.Ytpgacadnmekdhaa.Cd
open Go.RowKit Go.Proofs.Ytpgacadnmekdhaa
set_option linter.unusedVariables false
set_option maxRecDepth 100000
theorem lb_seg {w : World} {A : Option Addr} {n c : Nat} {bs : List UInt8} {ob : Option Nat} (h : Seg w 5 1 (.slice A n c) n (bcs bs) ob) (hn : n = bs.length) : Lb w A bs := fun k x hx => by
  have hk : k < bs.length := (List.getElem?_eq_some_iff.1 hx).1
  obtain ⟨g, o, cap, e, hob, _, _, hc, _⟩ := h.shape (by omega)
  injection e with e1 _ e3
  subst e1
  exact ⟨g, o, rfl, h.lt g hob, hc k _ (bcs_get hx)⟩
theorem conv_str {w : World} {A : Option Addr} {bs : List UInt8} (h : Lb w A bs) (m c : Nat) (hm : bs.length = m) :
    (convert 58 9 (.slice A m c)).run Try.prog w = .ok (.string ⟨bs.toArray⟩) w := by
  subst hm
  cases A with
  | none =>
    have hb : bs = [] := by
      cases bs with
      | nil => rfl
      | cons x r => obtain ⟨g, o, e, _⟩ := h 0 x rfl; cases e
    subst hb
    exact run_convert_bytes_nil w 58 5 Try.underlying58 Try.underlying5 0 c 9 Try.underlying9
  | some a =>
    refine run_convert_bytes_back w 58 9 5 a c bs Try.underlying58 Try.underlying5 Try.underlying9 (fun j hj => ?_)
    obtain ⟨g, o, e, _, hc⟩ := h j bs[j] (List.getElem?_eq_getElem hj)
    injection e with e
    subst e
    rw [Addr.add_lit]
    exact hc
/-- Bytes that a call hands back. -/
def Got (w w' : World) (bs : List UInt8) (e : Ending) : Prop := ∃ A c, e = .returned (.slice A bs.length c) ∧ bs.length ≤ c ∧ c ≤ 9223372036854775807 ∧ Lb w' A bs ∧ Below w.heap.size w w'
theorem clone_any (A : Option Addr) (m c : Nat) (bs : List UInt8) (w : World) (h : Lb w A bs) (hm : bs.length = m) (hc : m ≤ 1000000) :
    Calls Try.prog 97 #[.slice A m c] w fun e w' => Got w w' bs e := by
  obtain ⟨i0, hi0, hz0, hz1, hz2⟩ := info_parts u8_info
  have H := Lib.hid h
  have HM := Lib.hid hm
  cases A with
  | none =>
    have q := fun wx => Lib.run_eql_slice_nil (P := Try.prog) wx 58 5 none m c 0 0 Try.underlying58
    have hb : bs = [] := by
      cases bs with
      | nil => rfl
      | cons x r => obtain ⟨g, o, e, _⟩ := h 0 x rfl; cases e
    subst hb
    clear h hm
    go_enter Try.func97, Try.ntmps97
    go_wp2
    go_ret
    exact ⟨none, 0, rfl, Nat.le_refl _, by omega, Lb.nil _ _, Below.refl _ _⟩
  | some a =>
    have q := fun wx => Lib.run_eql_slice_nil (P := Try.prog) wx 58 5 (some a) m c 0 0 Try.underlying58
    have HL := Lib.hid (h.call ((Below.refl _ w).alloc (Nat.le_refl _) (.cells #[] 5))).lies
    clear h hm
    go_enter Try.func97, Try.ntmps97
    go_wp2_with (at_builtin; refine wpList_append_lies _ rfl _ _ 58 rfl i0 (.int .u8 0) 1 Try.underlying58 hi0 hz0 hz1 hz2 rfl rfl (seg_zero _ _ _) _ (some a) m c _ rfl (HM.out ▸ HL.out) (fun k => bc_one _) (by unfold maxLen; omega) (by omega) ?_; intro v2 w2 ob2 hs2 ht2 ho2; obtain ⟨A2, c2, rfl, h1, h2⟩ := hs2.form)
    go_ret
    have e1 : ([] ++ (List.range m).map fun k => bc (bs.getD k 0)) = bcs bs := by rw [← HM.out, range_bcs]; rfl
    rw [e1] at hs2
    have hm2 := HM.out
    subst hm2
    rw [Nat.zero_add] at hs2 h1
    refine ⟨A2, c2, rfl, h1, by unfold maxLen at h2; omega, lb_seg hs2 rfl, ?_⟩
    exact ht2.below ((Below.refl _ w).alloc (Nat.le_refl _) _) (by simp) (fun k hk e => by cases e)
theorem bytes_any (w0 w : World) (b : Nat) (bs : List UInt8) (h : Wr w0 w b bs) (hc : bs.length ≤ 1000000) :
    Calls Try.prog 46 #[.pointer (some ⟨b, 0, none⟩)] w fun e w' => Got w w' bs e ∧ Wr w0 w' b bs := by
  obtain ⟨v, ob, hr, hs, hg⟩ := h.sl
  obtain ⟨vA, vc, rfl, hv1, hv2⟩ := hs.form
  have c0 := (hr.cell 0).trans rfl
  have H := Lib.hid h
  have HL := Lib.hid (lb_seg hs rfl)
  clear h hr hs hg
  go_enter Try.func46, Try.ntmps46
  go_wp2_with fail
  refine (clone_any vA bs.length vc bs _ HL.out rfl hc).mono ?_
  rintro e w2 ⟨A2, c2, rfl, h1, h2, h3, h4⟩
  have HB := Lib.hid h4
  have HL2 := Lib.hid h3
  clear h3 h4
  go_wp2
  go_ret
  exact ⟨⟨A2, c2, rfl, h1, h2, HL2.out, HB.out⟩, H.out.call HB.out⟩
/-- Bytes that lie beside block b. -/
def Ln (w : World) (b : Nat) (A : Option Addr) (bs : List UInt8) : Prop := ∀ k x, bs[k]? = some x → ∃ g o, A = some ⟨g, o, none⟩ ∧ g < w.heap.size ∧ g ≠ b ∧ w.cell? ⟨g, o + k, none⟩ = some (bc x)
theorem Ln.call {w w' : World} {b : Nat} {A : Option Addr} {bs : List UInt8} (h : Ln w b A bs) (g : Below w.heap.size w w') : Ln w' b A bs := fun k x hx => by
  obtain ⟨c, o, e, hl, hn, hc⟩ := h k x hx
  exact ⟨c, o, e, Nat.lt_of_lt_of_le hl g.size, hn, (g.cell (p := ⟨c, o + k, none⟩) hl).trans hc⟩
theorem Ln.put {w : World} {b : Nat} {A : Option Addr} {bs : List UInt8} (h : Ln w b A bs) (i : Nat) (u : Value) : Ln (w.setCell ⟨b, i, none⟩ u) b A bs := fun k x hx => by
  obtain ⟨c, o, e, hl, hn, hc⟩ := h k x hx
  exact ⟨c, o, e, by simpa using hl, hn, (World.cell?_setCell_other _ _ _ _ (by simp)).trans hc⟩
/-- A reader at b that has bs left. -/
structure Rd (w : World) (b : Nat) (bs : List UInt8) (er : Int) : Prop where
  sl : ∃ A c, Row w b 175 #[.slice A bs.length c, .int .i64 er] ∧ bs.length ≤ c ∧ c ≤ 9223372036854775807 ∧ Ln w b A bs
theorem Rd.call {w w' : World} {b : Nat} {bs : List UInt8} {er : Int} (h : Rd w b bs er) (g : Below w.heap.size w w') : Rd w' b bs er := by
  obtain ⟨A, c, h1, h2, h3, h4⟩ := h.sl
  exact ⟨A, c, h1.below g h1.lt, h2, h3, h4.call g⟩
theorem read_any (A : Option Addr) (m c : Nat) (bs : List UInt8) (w : World) (h : Lb w A bs) (hm : bs.length = m) (hc : m ≤ 1000000) :
    Calls Try.prog 39 #[.slice A m c] w fun e w' => ∃ b, e = .returned (.pointer (some ⟨b, 0, none⟩)) ∧ Rd w' b bs 0 ∧ w.heap.size ≤ b ∧ Below w.heap.size w w' := by
  have H := Lib.hid h
  have HM := Lib.hid hm
  clear h hm
  go_enter Try.func39, Try.ntmps39
  go_wp2_with fail
  refine (clone_any A m c bs _ H.out HM.out hc).mono ?_
  rintro e w2 ⟨A2, c2, rfl, h1, h2, h3, h4⟩
  have HB := Lib.hid h4
  have HL2 := Lib.hid h3
  clear h3 h4
  go_wp2
  go_ret
  refine ⟨w2.heap.size, rfl, ⟨A2, c2, Row.made _ _ _, h1, h2, fun k x hx => ?_⟩, HB.out.size, HB.out.alloc HB.out.size _⟩
  obtain ⟨g, o, e, hl, hc⟩ := (HL2.out.call ((Below.refl _ w2).alloc (Nat.le_refl _) (.cells #[.slice A2 bs.length c2, .int .i64 0] 175))) k x hx
  obtain ⟨g', o', e', hl', _⟩ := HL2.out k x hx
  rw [e] at e'
  injection e' with e'
  injection e' with e1 e2
  exact ⟨g, o, e, hl, by omega, hc⟩
end Go.Proofs.Ytpgacadnmekdhaa.Cd
