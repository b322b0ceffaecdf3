/- Where beginnings may be: a state's number, and whether it has enough. -/
import Derived.Test.YtjciilnbcmaikaaNfC
import Derived.Deep.RegionLaw
namespace Go.Proofs.Ytjciilnbcmaikaa.Nf
open Go.RowKit Go.Proofs.Ytjciilnbcmaikaa Go.Proofs.Ytjciilnbcmaikaa.Pa Go.Proofs.Ytjciilnbcmaikaa.Pc
set_option linter.unusedVariables false
set_option maxRecDepth 100000

/-- r is a state's number; -1: there is none such. -/
def Ix (L : List (Int × Int)) (s : Int × Int) (r : Int) : Prop := (∃ k : Nat, r = k ∧ L[k]? = some s) ∨ (r = -1 ∧ ∀ k : Nat, L[k]? ≠ some s)
def IxR (L : List (Int × Int)) (s : Int × Int) (w : World) (e : Ending) (w' : World) : Prop := ∃ r, e = .returned (.int .i64 r) ∧ Ix L s r ∧ Below w.heap.size w w'
def ThR (L : List (Int × Int)) (s : Int × Int) (w : World) (e : Ending) (w' : World) : Prop := (∃ v, e = .returned v ∧ ((v = .slice none 0 0 ∧ ∀ k : Nat, L[k]? ≠ some s) ∨ ∃ (b k : Nat), v = .slice (some ⟨b, 0, none⟩) 1 1 ∧ L[k]? = some s ∧ Row w' b 3 #[.int .i64 k] ∧ w.heap.size ≤ b)) ∧ Below w.heap.size w w'
theorem st_eq (s u : Int × Int) : decide (s.1 = u.1 ∧ s.2 = u.2) = decide (s = u) := by
  obtain ⟨a, b⟩ := s; obtain ⟨c, d⟩ := u; simp [Prod.mk.injEq]
set_option maxHeartbeats 1000000 in
theorem index_any (sg so sc : Nat) (L : List (Int × Int)) (s : Int × Int) (w : World) (hs : ∀ k u, L[k]? = some u → w.cell? ⟨sg, so + k * 2, none⟩ = some (.int .i64 u.1) ∧ w.cell? ⟨sg, so + k * 2 + 1, none⟩ = some (.int .i64 u.2)) (hl : sg < w.heap.size) (hn : L.length ≤ 500) :
    Calls Try.prog 107 #[.slice (some ⟨sg, so, none⟩) L.length sc, .agg #[.int .i64 s.1, .int .i64 s.2]] w (IxR L s w) := by
  have HS := Lib.hid hs
  clear hs
  go_enter Try.func107, Try.ntmps107
  go_wp2
  go_loopw [8] (fun v wr => ∃ i : Nat, i ≤ L.length ∧ v = .int .i64 i ∧ Hid (∀ k : Nat, k < i → L[k]? ≠ some s) ∧ Hid (∃ q, wr = (w.alloc (.cells #[.int .i64 s.1, .int .i64 s.2] 90)).drewN q)) (fun v _ => L.length - (intOf v).toNat)
  case atStart => exact ⟨0, by omega, rfl, (fun k hk => by omega), 0, rfl⟩
  case round =>
    obtain ⟨i, hi, rfl, HN, hq⟩ := hrel
    obtain ⟨q, rfl⟩ := hq.out
    by_cases hlt : i < L.length
    · have hli : (i : Int) < (L.length : Int) := by omega
      obtain ⟨u, hu⟩ : ∃ u, L[i]? = some u := ⟨L[i], List.getElem?_eq_getElem hlt⟩
      obtain ⟨d0, d1⟩ := HS.out i u hu
      have HU := Lib.hid hu
      clear hu
      cases hr : decide (s.1 = u.1 ∧ s.2 = u.2) with
      | true =>
        have he := eq2 s.1 s.2 u.1 u.2 true hr
        have HR : Hid (s = u) := by show s = u; rw [st_eq] at hr; simpa using hr
        clear hr
        go_upto_region 4 with fail
        go_quiet (fail)
        go_wp2
        go_ret
        exact ⟨_, rfl, Or.inl ⟨i, rfl, by rw [HU.out, HR.out]⟩, (by first | exact below_drewN ((Below.refl _ w).alloc (Nat.le_refl _) _) _ | exact below_drewN (below_drewN ((Below.refl _ w).alloc (Nat.le_refl _) _) _) _)⟩
      | false =>
        have he := eq2 s.1 s.2 u.1 u.2 false hr
        have HR : Hid (s ≠ u) := by show s ≠ u; rw [st_eq] at hr; simpa using hr
        clear hr
        go_upto_region 4 with fail
        go_quiet (fail)
        go_wp2
        go_roundw
        case measure => simp [intOf]; omega
        case rel => exact ⟨i + 1, by omega, by go_num, (fun k hk e => by
          by_cases e2 : k = i
          · subst e2; rw [HU.out] at e; injection e with e; exact HR.out e.symm
          · exact HN.out k (by omega) e), _, (by first | rfl | exact World.drewN_drewN _ _ _)⟩
    · go_wp2
      go_ret
      exact ⟨_, rfl, Or.inr ⟨rfl, fun k e => by
        by_cases e2 : k < i
        · exact HN.out k e2 e
        · rw [List.getElem?_eq_none (by omega)] at e; cases e⟩, (by first | exact below_drewN ((Below.refl _ w).alloc (Nat.le_refl _) _) _ | exact below_drewN (below_drewN ((Below.refl _ w).alloc (Nat.le_refl _) _) _) _)⟩
section
variable (nb g o n c sg so sc : Nat) (win cap : Int) (E : Nat → ElV) (L : List (Int × Int)) (w : World) (h : NR w nb g o n c win cap E sg so sc L)
include h
theorem find_any (s : Int × Int) : Calls Try.prog 55 #[.pointer (some ⟨nb, 0, none⟩), .agg #[.int .i64 s.1, .int .i64 s.2]] w (IxR L s w) := by
  have H := Lib.hid (h.call ((Below.refl _ w).alloc (Nat.le_refl _) (.cells #[.int .i64 s.1, .int .i64 s.2] 90)))
  have c3 := h.c3
  have rl := h.row.lt
  have hln := h.ln
  clear h
  go_enter Try.func55, Try.ntmps55
  go_wp2
  go_region_law (first
    | (go_simp; go_at_call 107; refine (index_any sg so sc L s _ (by exact H.out.st) (by exact H.out.sl) H.out.ln.2).mono ?_; rintro e w1 ⟨r, rfl, hr, hb⟩; have HR := Lib.hid hr; have HB : Hid (Below w.heap.size w w1) := Below.trans (by go_grown) (hb.mono (by simp)); clear hr hb))
  all_goals
    go_wp2
    go_ret
    exact ⟨r, rfl, HR.out, HB.out⟩
theorem there_any (s : Int × Int) : Calls Try.prog 105 #[.pointer (some ⟨nb, 0, none⟩), .agg #[.int .i64 s.1, .int .i64 s.2]] w (ThR L s w) := by
  have H := Lib.hid (h.call ((Below.refl _ w).alloc (Nat.le_refl _) (.cells #[.int .i64 s.1, .int .i64 s.2] 90)))
  have HB0 := Lib.hid ((Below.refl _ w).alloc (Nat.le_refl _) (.cells #[.int .i64 s.1, .int .i64 s.2] 90))
  clear h
  go_enter Try.func105, Try.ntmps105
  go_wp2_with fail
  refine (find_any nb g o n c sg so sc win cap E L _ H.out s).mono ?_
  rintro e w1 ⟨r, rfl, hr, hb⟩
  have HB := Lib.hid (HB0.out.trans (hb.mono (by simp)))
  clear hb
  rcases hr with ⟨k, rfl, hk⟩ | ⟨rfl, hk⟩
  · have HK := Lib.hid hk
    have hk0 : (0 : Int) ≤ (k : Int) := by omega
    clear hk
    go_wp2
    go_ret
    exact ⟨⟨_, rfl, Or.inr ⟨w1.heap.size, k, rfl, HK.out, Row.made _ _ _, HB.out.size⟩⟩, HB.out.alloc HB.out.size _⟩
  · have HK := Lib.hid hk
    clear hk
    go_wp2
    go_ret
    exact ⟨⟨_, rfl, Or.inl ⟨rfl, HK.out⟩⟩, HB.out⟩
theorem enough_any (e : Nat) (he : e < n) (x : Int) (r : Bool) (hr : decide ((E e).mn ≤ x) = r) : Calls Try.prog 106 #[.pointer (some ⟨nb, 0, none⟩), .agg #[.int .i64 e, .int .i64 x]] w fun e w' => e = .returned (.bool r) ∧ Below w.heap.size w w' := by
  have c0 : w.cell? ⟨nb, 0, none⟩ = some (.slice (some ⟨g, o, none⟩) n c) := h.row.cell 0
  have c1 : w.cell? ⟨g, o + e * 6 + 3, none⟩ = some (.int .i64 (E e).mn) := h.le.cell he (j := 3) (by omega)
  have l0 := h.row.lt
  have l1 := h.le.lt
  have hei : (e : Int) < (n : Int) := by omega
  have HR := Lib.hid hr
  clear h hr
  go_enter Try.func106, Try.ntmps106
  go_wp2
  go_quiet (fail)
  go_wp2
  go_ret
  exact ⟨ret_bool (by rw [← HR.out]), below_drewN (by go_grown) _⟩
end
end Go.Proofs.Ytjciilnbcmaikaa.Nf
