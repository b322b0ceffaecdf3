/- The calls of a history. -/
import Derived.Test.YtaimbkikiokenaaHiG
namespace Go.Proofs.Ytaimbkikiokenaa.Hi
open Go.RowKit Go.Proofs.Ytaimbkikiokenaa Go.Maps
set_option linter.unusedVariables false
set_option maxRecDepth 100000
def Hv.cells (e : Hv) : List Value := [.int .i64 e.k, .int .i64 e.c, .int .i64 e.n, .int .i64 e.err, .int .i64 e.tick, .int .i64 0, .int .i64 0, .int .i64 0, .int .i64 0, .int .i64 0, .int .i64 0]
/-- Events that lie somewhere. -/
def Lv (w : World) (A : Option Addr) (es : List Hv) : Prop := ∀ i e, es[i]? = some e → ∃ g o, A = some ⟨g, o, none⟩ ∧ g < w.heap.size ∧ ∀ j u, e.cells[j]? = some u → w.cell? ⟨g, o + i * 11 + j, none⟩ = some u
theorem Lv.call {w w' : World} {A : Option Addr} {es : List Hv} (h : Lv w A es) (g : Below w.heap.size w w') : Lv w' A es := fun i e he => by
  obtain ⟨b, o, ea, hl, hc⟩ := h i e he
  exact ⟨b, o, ea, Nat.lt_of_lt_of_le hl g.size, fun j u hj => (g.cell (p := ⟨b, o + i * 11 + j, none⟩) hl).trans (hc j u hj)⟩
def spansS : List Hv → Nat → List Sp → Option (List Sp)
  | [], _, xs => some xs
  | e :: r, k, xs => (noteS xs (k : Int) e).bind (spansS r (k + 1))
theorem noteS_len {xs ys : List Sp} {at' : Int} {e : Hv} (h : noteS xs at' e = some ys) : ys.length ≤ xs.length + 1 := by
  unfold noteS at h
  split at h
  · split at h
    · injection h with h; subst h; simp
    · cases h
  · split at h
    · split at h
      · split at h
        · split at h
          · injection h with h; subst h; simp
          · cases h
        · cases h
      · cases h
    · split at h
      · split at h
        · split at h
          · split at h
            · injection h with h; subst h; simp
            · cases h
          · cases h
        · cases h
      · cases h
/-- How the spans are told. -/
def Spanned (w : World) (r : Option (List Sp)) (en : Ending) (w' : World) : Prop :=
  (∃ ys v' ob', r = some ys ∧ en = .returned (.tuple #[v', .bool true]) ∧ Seg w' 104 13 v' ys.length (scells ys) ob' ∧ (∀ g, ob' = some g → w.heap.size ≤ g) ∧ Below w.heap.size w w') ∨ (r = none ∧ en = .returned (.tuple #[.slice none 0 0, .bool false]) ∧ Below w.heap.size w w')
theorem told_nil : Told (.map []) [] := fun c n l _ _ _ => ⟨fun j h => (by cases h), fun _ => rfl⟩
theorem book_new (w : World) : Bk w ((w.alloc (.map #[] 0)).alloc (.cells #[.slice none 0 0, .map (some w.heap.size)] 142)) (w.heap.size + 1) w.heap.size (.slice none 0 0) none (.map []) [] := by
  refine ⟨((Below.refl _ w).alloc (Nat.le_refl _) _).alloc (by simp) _, by omega, Nat.le_refl _, fun g h => (by cases h), ?_, Seg.nil _ _ _, (World.ownsMap_made w _ _ _).alloc _, told_nil⟩
  have := Row.made (w.alloc (.map #[] 0)) 142 #[.slice none 0 0, .map (some w.heap.size)]
  rw [World.size_alloc] at this
  exact this
structure Sn (w wr : World) (es : List Hv) (R : Option (List Sp)) (k : Nat) : Prop where
  at' : ∃ v ob D xs, Bk w wr (w.heap.size + 1) w.heap.size v ob D xs ∧ spansS (es.drop k) k xs = R ∧ xs.length ≤ k
set_option maxHeartbeats 1000000 in
theorem spans_any (A : Option Addr) (n c : Nat) (es : List Hv) (w : World) (h : Lv w A es) (hn : es.length = n) (hnc : n ≤ c) (hc9 : c ≤ 9223372036854775807) (hn9 : n ≤ 1000) (hb : ∀ (i : Nat) (e : Hv), es[i]? = some e → I64 e.c ∧ I64 e.n) :
    Calls Try.prog 46 #[.slice A n c] w fun en w' => Spanned w (spansS es 0 []) en w' := by
  have hmm := @run_makeMap Try.prog
  have H := Lib.hid h
  have HN := Lib.hid hn
  have HBD := Lib.hid hb
  clear h hn hb
  obtain ⟨R, hR⟩ : ∃ R, spansS es 0 [] = R := ⟨_, rfl⟩
  rw [hR]
  have HS0 : Hid (Sn w ((w.alloc (.map #[] 0)).alloc (.cells #[.slice none 0 0, .map (some w.heap.size)] 142)) es R 0) := ⟨_, _, _, [], book_new w, hR, Nat.le_refl _⟩
  clear hR
  go_enter Try.func46, Try.ntmps46
  go_upto_region 3 with fail
  generalize (w.alloc (.map #[] 0)).alloc (.cells #[.slice none 0 0, .map (some w.heap.size)] 142) = W0 at HS0 ⊢
  go_wp2
  go_loopw [11, 5, 6] (fun v11 s5 s6 wr => ∃ k : Nat, k ≤ n ∧ v11 = .int .i64 k ∧ Hid (Sn w wr es R k)) (fun v11 _ _ _ => n - (intOf v11).toNat)
  case atStart => exact ⟨0, by omega, rfl, HS0⟩
  case round =>
    clear HS0
    obtain ⟨k, hkn, rfl, hS⟩ := hrel
    have HS := Lib.hid hS.out
    clear hS
    obtain ⟨v, ob, D, xs, hB, hR, hxl⟩ := HS.out.at'
    by_cases hlt : k < n
    · have hki : (k : Int) < (n : Int) := by omega
      obtain ⟨e, he⟩ : ∃ e, es[k]? = some e := ⟨_, List.getElem?_eq_getElem (by rw [HN.out]; exact hlt)⟩
      obtain ⟨hec, hen⟩ := HBD.out k e he
      obtain ⟨g, o, rfl, hg, hcl⟩ := (H.out.call hB.be) k e he
      have hdrop : es.drop k = e :: es.drop (k + 1) := by
        rw [← (List.getElem?_eq_some_iff.1 he).2, List.getElem_cons_drop]
      rw [hdrop] at hR
      obtain ⟨ek, ec, en, eerr, etick⟩ := e
      have c0 := hcl 0 (.int .i64 ek) rfl
      have c1 := hcl 1 (.int .i64 ec) rfl
      have c2 := hcl 2 (.int .i64 en) rfl
      have c3 := hcl 3 (.int .i64 eerr) rfl
      have c4 := hcl 4 (.int .i64 etick) rfl
      have c5 := hcl 5 (.int .i64 0) rfl
      have c6 := hcl 6 (.int .i64 0) rfl
      have c7 := hcl 7 (.int .i64 0) rfl
      have c8 := hcl 8 (.int .i64 0) rfl
      have c9 := hcl 9 (.int .i64 0) rfl
      have c10 := hcl 10 (.int .i64 0) rfl
      simp only [Nat.add_zero] at c0
      have HB := Lib.hid (hB.alloc (.cells #[.int .i64 ek, .int .i64 ec, .int .i64 en, .int .i64 eerr, .int .i64 etick, .int .i64 0, .int .i64 0, .int .i64 0, .int .i64 0, .int .i64 0, .int .i64 0] 144))
      have HR := Lib.hid hR
      clear hB hR hcl he hdrop HS
      go_wp2_with fail
      refine (note_any HB.out (k : Int) ec en eerr etick hec hen ek (by omega)).mono ?_
      rintro en' w2 hN
      rcases hN with ⟨ys, h1, rfl, v', ob', D', h2⟩ | ⟨h1, rfl, h2⟩
      · have hlen := noteS_len h1
        have HS2 : Hid (Sn w w2 es R (k + 1)) := ⟨v', ob', D', ys, h2, by have := HR.out; unfold spansS at this; rw [h1] at this; exact this, by omega⟩
        clear h1 h2 HR HB
        go_wp2
        go_roundw
        case rel => exact ⟨k + 1, by omega, by go_num, HS2⟩
        case measure => simp [intOf]; omega
      · have hR0 : R = none := by have := HR.out; unfold spansS at this; rw [h1] at this; exact this.symm
        have HR0 := Lib.hid hR0
        have HBE := Lib.hid h2
        clear h1 h2 HR HB hR0
        go_wp2
        go_ret2
        exact .inr ⟨HR0.out, rfl, HBE.out⟩
    · obtain rfl : k = n := by omega
      have hki : ¬ (k : Int) < (k : Int) := by omega
      have hdrop : es.drop k = [] := List.drop_of_length_le (by rw [HN.out]; exact Nat.le_refl _)
      rw [hdrop] at hR
      have c0 := hB.c0
      have HB := Lib.hid hB
      have HR := Lib.hid hR
      clear hB hR hdrop HS
      go_wp2
      go_ret2
      exact .inl ⟨xs, v, ob, HR.out.symm, rfl, HB.out.seg, HB.out.oge, HB.out.be⟩
end Go.Proofs.Ytaimbkikiokenaa.Hi
