/- slices.IndexFunc over events: where the one of a number stands. -/
import Derived.Test.YtaimbkikiokenaaRnJ
import Derived.Test.YtaimbkikiokenaaRaA
namespace Go.Proofs.Ytaimbkikiokenaa.Rn
open Go.RowKit Go.Proofs.Ytaimbkikiokenaa Go.Proofs.Ytaimbkikiokenaa.Ev Go.Proofs.Ytaimbkikiokenaa.Pa Go.Proofs.Ytaimbkikiokenaa.Pq
set_option linter.unusedVariables false
set_option maxRecDepth 100000
theorem ev_at' (xs : List EM) (k : Nat) (e : EM) (h : xs[k]? = some e) (j : Nat) (hj : j < 5) : (xs.flatMap EM.cells)[k * 5 + j]? = e.cells[j]? := by
  induction xs generalizing k with
  | nil => simp at h
  | cons x es ih =>
    have hx : x.cells.length = 5 := rfl
    cases k with
    | zero =>
      simp at h
      subst h
      simp only [List.flatMap_cons, Nat.zero_mul, Nat.zero_add]
      rw [List.getElem?_append_left (by rw [hx]; exact hj)]
    | succ k =>
      simp only [List.flatMap_cons]
      rw [List.getElem?_append_right (by rw [hx]; omega), hx, show (k + 1) * 5 + j - 5 = k * 5 + j from by omega]
      exact ih k (by simpa using h)
/-- Events as they lie in memory, in blocks below B. -/
def EvL (w : World) (B : Nat) (v : Value) (xs : List EM) : Prop := ∃ A c, v = .slice A xs.length c ∧ xs.length ≤ c ∧ c ≤ 9223372036854775807 ∧
  ∀ k x, xs[k]? = some x → ∃ g o, A = some ⟨g, o, none⟩ ∧ g < B ∧ w.cell? ⟨g, o + k * 5, none⟩ = some (.string x.ty) ∧ w.cell? ⟨g, o + k * 5 + 1, none⟩ = some (.string x.key) ∧ w.cell? ⟨g, o + k * 5 + 2, none⟩ = some (.int .i64 x.t) ∧ w.cell? ⟨g, o + k * 5 + 3, none⟩ = some (.int .i64 x.q) ∧ w.cell? ⟨g, o + k * 5 + 4, none⟩ = some (.slice (some ⟨x.vb, 0, none⟩) x.vs.length x.vs.length) ∧ x.vb < B ∧ Vls w (some ⟨x.vb, 0, none⟩) x.vs.length x.vs
theorem EvL.below {w w' : World} {B B' : Nat} {v : Value} {xs : List EM} (h : EvL w B v xs) (hb : Below B w w') (hB : B ≤ B') (hw : B ≤ w.heap.size) : EvL w' B' v xs := by
  obtain ⟨A, c, rfl, h1, h2, h3⟩ := h
  refine ⟨A, c, rfl, h1, h2, fun k x hx => ?_⟩
  obtain ⟨g, o, e, hg, c0, c1, c2, c3, c4, hv, hr⟩ := h3 k x hx
  refine ⟨g, o, e, by omega, (hb.cell (p := ⟨g, _, none⟩) hg).trans c0, (hb.cell (p := ⟨g, _, none⟩) hg).trans c1, (hb.cell (p := ⟨g, _, none⟩) hg).trans c2, (hb.cell (p := ⟨g, _, none⟩) hg).trans c3, (hb.cell (p := ⟨g, _, none⟩) hg).trans c4, by omega, ?_⟩
  refine hr.imp_right fun ⟨b, a1, a2, a3, a4⟩ => ⟨b, a1, a2, a3, a4.below hb ?_⟩
  injection a1 with a1
  injection a1 with a1
  omega
theorem EvL.call {w w' : World} {v : Value} {xs : List EM} (h : EvL w w.heap.size v xs) (hb : Below w.heap.size w w') : EvL w' w'.heap.size v xs := h.below hb hb.size (Nat.le_refl _)
theorem evl_seg {w0 w : World} {v : Value} {xs : List EM} (h : EVS w0 w v xs) : EvL w w.heap.size v xs := by
  obtain ⟨ob, hs, _, h3⟩ := h.sg
  obtain ⟨A, c, rfl, h1, h2⟩ := hs.form
  refine ⟨A, c, rfl, h1, by unfold maxLen at h2; omega, fun k x hx => ?_⟩
  have hk : k < xs.length := (List.getElem?_eq_some_iff.1 hx).1
  obtain ⟨g, o, c', e, rfl, _, _, hc, _⟩ := hs.shape (by omega)
  injection e with e _ _
  subst e
  have hok := h3 x (List.mem_of_getElem? hx)
  exact ⟨g, o, rfl, hs.lt _ rfl, hc _ _ (ev_at' xs k x hx 0 (by omega)), hc _ _ (ev_at' xs k x hx 1 (by omega)), hc _ _ (ev_at' xs k x hx 2 (by omega)), hc _ _ (ev_at' xs k x hx 3 (by omega)), hc _ _ (ev_at' xs k x hx 4 (by omega)), hok.row.lt, EvOk.vls hok⟩
/-- The place of a number; -1: it is none's. -/
def fnd (xs : List EM) (y : Int) : Int := match xs.findIdx? (fun e => e.q == y) with
  | some k => k
  | none => -1
def NoE (xs : List EM) (y : Int) (k : Nat) : Prop := ∀ j x, xs[j]? = some x → j < k → (x.q == y) = false
theorem fnd_hit {xs : List EM} {y : Int} {k : Nat} {x : EM} (hx : xs[k]? = some x) (h : (x.q == y) = true) (hn : NoE xs y k) : fnd xs y = k := by
  unfold fnd
  have hk : k < xs.length := (List.getElem?_eq_some_iff.1 hx).1
  have : xs.findIdx? (fun e => e.q == y) = some k := by
    rw [List.findIdx?_eq_some_iff_getElem]
    refine ⟨hk, ?_, fun j hj => ?_⟩
    · have e : xs[k] = x := (List.getElem?_eq_some_iff.1 hx).2
      rw [e]; exact h
    · have := hn j xs[j] (List.getElem?_eq_getElem (by omega)) hj
      simp [this]
  rw [this]
theorem fnd_miss {xs : List EM} {y : Int} (hn : NoE xs y xs.length) : fnd xs y = -1 := by
  unfold fnd
  have : xs.findIdx? (fun e => e.q == y) = none := by
    rw [List.findIdx?_eq_none_iff]
    intro x hx
    obtain ⟨j, hj, rfl⟩ := List.getElem_of_mem hx
    exact hn j xs[j] (List.getElem?_eq_getElem hj) hj
  rw [this]
theorem NoE.succ {xs : List EM} {y : Int} {k : Nat} {x : EM} (h : NoE xs y k) (hx : xs[k]? = some x) (g : (x.q == y) = false) : NoE xs y (k + 1) := fun j z hz h1 => by
  by_cases e : j = k
  · subst e
    rw [hx] at hz
    cases hz
    exact g
  · exact h j z hz (by omega)
set_option maxHeartbeats 800000 in
theorem again1_any (s1 s2 : ByteArray) (t q y : Int) (A : Option Addr) (n c B : Nat) (w : World) (hc : w.cell? ⟨B, 1, none⟩ = some (.int .i64 y)) (r : Bool) (hr : (q == y) = r) :
    Calls Try.prog 78 #[.agg #[.string s1, .string s2, .int .i64 t, .int .i64 q, .slice A n c], .pointer (some ⟨B, 0, none⟩)] w fun e w' => e = .returned (.bool r) ∧ Below w.heap.size w w' := by
  have hB : B < w.heap.size := World.block_lt_of_cell? w ⟨B, 1, none⟩ hc
  have hne : B ≠ w.heap.size := by omega
  go_enter Try.func78, Try.ntmps78
  go_wp2
  all_goals
    go_ret
    exact ⟨rfl, (Below.refl _ w).alloc (Nat.le_refl _) _⟩
set_option maxHeartbeats 1600000 in
theorem indexEv_any (v : Value) (xs : List EM) (y : Int) (B : Nat) (w : World) (hf : EvL w w.heap.size v xs) (hc : w.cell? ⟨B, 1, none⟩ = some (.int .i64 y)) :
    Calls Try.prog 77 #[v, .func (.func 78) #[] #[.pointer (some ⟨B, 0, none⟩)]] w fun e w' => e = .returned (.int .i64 (fnd xs y)) ∧ Below w.heap.size w w' := by
  have hB : B < w.heap.size := World.block_lt_of_cell? w ⟨B, 1, none⟩ hc
  have HF := Lib.hid hf
  obtain ⟨A, c, rfl, hn, hcm, _⟩ := hf
  have HC := Lib.hid hc
  obtain ⟨n, hn'⟩ : ∃ n, xs.length = n := ⟨_, rfl⟩
  rw [hn'] at HF hn ⊢
  have HN := Lib.hid hn'
  clear hc hn'
  go_enter Try.func77, Try.ntmps77
  go_wp2
  go_loopw [8] (fun s wr => ∃ k : Nat, k ≤ n ∧ s = .int .i64 k ∧ Hid (Below w.heap.size w wr) ∧ Hid (NoE xs y k)) (fun s _ => n - (intOf s).toNat)
  case atStart => exact ⟨0, by omega, rfl, Below.refl _ _, fun _ _ _ h => absurd h (by omega)⟩
  case round =>
    obtain ⟨k, hk, rfl, hb, hno⟩ := hrel
    by_cases hlt : k < n
    · obtain ⟨x, hx⟩ : ∃ x, xs[k]? = some x := ⟨xs[k]'(by rw [HN.out]; exact hlt), List.getElem?_eq_getElem _⟩
      obtain ⟨A', c', e1, _, _, h3⟩ := HF.out.call hb.out
      injection e1 with e1 em e3
      subst e1 e3
      clear em
      obtain ⟨g, o, rfl, hg, c0, c1, c2, c3, c4, hv, hr⟩ := h3 k x hx
      have HX := Lib.hid hx
      have HCB := Lib.hid ((hb.out.cell (p := ⟨B, 1, none⟩) hB).trans HC.out)
      have hki : (k : Int) < (n : Int) := by omega
      clear h3 hr hv hg hx
      obtain ⟨r, hr⟩ : ∃ r, (x.q == y) = r := ⟨_, rfl⟩
      have HR := Lib.hid hr
      clear hr
      cases r with
      | true =>
        go_wp2_with (go_at_call 78; refine (again1_any _ _ _ _ y _ _ _ B _ HCB.out true HR.out).mono ?_; rintro e w' ⟨rfl, hb'⟩)
        go_ret
        exact ⟨by rw [fnd_hit HX.out HR.out hno.out]; rfl, hb.out.trans (hb'.mono hb.out.size)⟩
      | false =>
        go_wp2_with (go_at_call 78; refine (again1_any _ _ _ _ y _ _ _ B _ HCB.out false HR.out).mono ?_; rintro e w' ⟨rfl, hb'⟩)
        go_roundw
        case rel => exact ⟨k + 1, by omega, by go_num, hb.out.trans (hb'.mono hb.out.size), hno.out.succ HX.out HR.out⟩
        case measure => simp [intOf]; omega
    · have hk' : k = n := by omega
      subst hk'
      have hki : ¬ (k : Int) < (k : Int) := by omega
      clear hlt
      go_wp2
      go_ret
      exact ⟨by rw [fnd_miss (by rw [HN.out]; exact hno.out)]; rfl, hb.out⟩
end Go.Proofs.Ytaimbkikiokenaa.Rn
