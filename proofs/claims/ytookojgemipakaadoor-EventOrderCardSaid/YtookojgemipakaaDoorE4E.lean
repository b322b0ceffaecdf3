/- event.Copy, event.Stamp; when two events are alike. -/
import Derived.Test.YtookojgemipakaaDoorE4B
import Derived.Test.YtookojgemipakaaDoorApp
import Derived.Lib.SliceRun
import Derived.Laws.StructEq
import Derived.LoopN
import Derived.Deep.RegionLaw
import Derived.Deep.RegionHeld3
namespace Go.Proofs.YtookojgemipakaaDoor.E4
open Go.RowKit Go.Proofs.YtookojgemipakaaDoor Go.Proofs.YtookojgemipakaaDoor.Ev Go.Proofs.YtookojgemipakaaDoor.Evl
set_option linter.unusedVariables false
set_option maxRecDepth 100000
theorem vcells_len' (vs : List VV) : (vcells vs).length = vs.length * 4 := by
  induction vs with
  | nil => rfl
  | cons v r ih =>
    have : vcells (v :: r) = v.cells ++ vcells r := rfl
    rw [this, List.length_append, ih]
    simp [VV.cells]; omega
theorem one_cells' (vs : List VV) : ∀ u ∈ vcells vs, u.oneCell' = true := by
  intro u hu
  obtain ⟨v, _, h⟩ := List.mem_flatMap.1 hu
  simp [VV.cells] at h
  rcases h with rfl | rfl | rfl | rfl <;> rfl
theorem val_info' : (Tryd.prog.info? 33).map (fun i => (i.zero, i.size, i.bytes)) = some (some (.agg #[.int .i64 0, .int .i64 0, .string { data := #[] }, .bool false]), 4, 40) := by kernel_rfl
/-- The values of an event: none, or a row of their own. -/
def Vls (w : World) (A : Option Addr) (c : Nat) (vs : List VV) : Prop := (A = none ∧ c = 0 ∧ vs = []) ∨ ∃ b, A = some ⟨b, 0, none⟩ ∧ c = vs.length ∧ (0 < vs.length ∧ vs.length ≤ 3) ∧ Row w b 33 (vcells vs).toArray
theorem Vls.call {w w' : World} {A : Option Addr} {c : Nat} {vs : List VV} (h : Vls w A c vs) (g : Below w.heap.size w w') : Vls w' A c vs := h.imp_right fun ⟨b, a1, a2, a3, a4⟩ => ⟨b, a1, a2, a3, a4.below g a4.lt⟩
/-- What a copy of them is. -/
structure Cpy (w w' : World) (vs : List VV) (yA : Option Addr) (yc : Nat) : Prop where
  seg : ∃ yob, Seg w' 33 4 (.slice yA vs.length yc) vs.length (vcells vs) yob ∧ ∀ g, yob = some g → w.heap.size ≤ g
  be : Below w.heap.size w w'
  nl : vs = [] → yA = none ∧ yc = 0
def CloneEnd (w : World) (vs : List VV) (e : Ending) (w' : World) : Prop := ∃ yA yc, e = .returned (.slice yA vs.length yc) ∧ Cpy w w' vs yA yc
set_option maxHeartbeats 1000000 in
theorem clone_any (A : Option Addr) (c : Nat) (vs : List VV) (w : World) (h : Vls w A c vs) :
    Calls Tryd.prog 41 #[.slice A vs.length c] w (CloneEnd w vs) := by
  obtain ⟨i0, hi0, hz0, hz1, hz2⟩ := info_parts val_info'
  rcases h with ⟨rfl, rfl, rfl⟩ | ⟨b, rfl, h2, ⟨h3, h4⟩, h5⟩
  · have q := fun wx => Lib.run_eql_slice_nil (P := Tryd.prog) wx 22 33 none 0 0 0 0 Tryd.underlying22
    go_enter Tryd.func41, Tryd.ntmps41
    go_wp2
    go_ret
    exact ⟨none, 0, rfl, ⟨none, Seg.nil _ _ _, (fun _ h => by cases h)⟩, Below.refl _ _, fun _ => ⟨rfl, rfl⟩⟩
  · obtain ⟨n, hn⟩ : ∃ n, vs.length = n := ⟨_, rfl⟩
    rw [hn] at h2 h3 h4 ⊢
    have q0 := fun wx => Lib.run_eql_slice_nil (P := Tryd.prog) wx 22 33 (some ⟨b, 0, none⟩) n c 0 0 Tryd.underlying22
    obtain ⟨xv, hxv⟩ : ∃ xv, xv = (Value.slice (some ⟨b, 0, none⟩) n c) := ⟨_, rfl⟩
    rw [← hxv]
    have q : ∀ wx, (binOp .eql 22 xv (.slice none 0 0)).run Tryd.prog wx = .ok (.bool false) wx := fun wx => by rw [hxv]; exact q0 wx
    have qg : ∀ (wx : World) (o o' : Operand), (eqGuard .eql 22 o o' xv (.slice none 0 0)).run Tryd.prog wx = .ok () wx := fun wx o o' => by rw [hxv]; rfl
    have HXV := Lib.hid hxv
    have HN := Lib.hid hn
    have H5 := Lib.hid h5
    have H2 := Lib.hid h2
    clear hxv q0 hn h5 h2
    go_enter Tryd.func41, Tryd.ntmps41
    go_wp2_with (at_builtin; go_loud (refine wpList_append_seg _ rfl _ _ 22 rfl 33 i0 _ 4 40 Tryd.underlying22 hi0 hz0 hz1 hz2 rfl (by decide) _ 0 [] none rfl ⟨by simp, _, 0, rfl, Nat.le_refl _, by unfold maxLen; omega, .inl ⟨rfl, rfl, fun _ => trivial⟩⟩ ⟨b, 0, none⟩ n c (vcells vs) (Eq.trans (b := xv) rfl HXV.out) (by rw [vcells_len', HN.out]) (fun j u hj => by rw [Addr.add_lit, Nat.zero_add, (H5.out.alloc _).cell]; simpa using hj) (one_cells' _) h3 (by unfold maxLen; omega) (by omega) ?_; intro v2 w3 ob2 hs2 ht2 ho2))
    go_ret
    rw [Nat.zero_add, List.nil_append] at hs2
    obtain ⟨A2, c2, rfl, _, _⟩ := hs2.form
    exact ⟨A2, c2, by rw [HN.out]; rfl, ⟨ob2, by rw [HN.out]; exact hs2, (fun g hg => by rcases ho2 with rfl | ⟨g', rfl, hg'⟩ <;> cases hg; simp at hg'; omega)⟩, ht2.below ((Below.refl _ w).alloc (Nat.le_refl _) _) (by simp) (fun j hj e => by cases e), fun h => by have := HN.out; rw [h] at this; simp at this; omega⟩
/-- What a copy of an event is. -/
def CopyEnd (w : World) (s1 s2 : ByteArray) (t q : Int) (vs : List VV) (e : Ending) (w' : World) : Prop := ∃ yA yc, e = .returned (.agg #[.string s1, .string s2, .int .i64 t, .int .i64 q, .slice yA vs.length yc]) ∧ Cpy w w' vs yA yc
theorem put5 {X : World} {b : Nat} {t : TypeId} {c0 c1 c2 c3 c4 : Value} (r : Row X b t #[c0, c1, c2, c3, c4]) (u0 u1 u2 u3 u4 : Value) :
    Row (((((X.setCell ⟨b, 0, none⟩ u0).setCell ⟨b, 1, none⟩ u1).setCell ⟨b, 2, none⟩ u2).setCell ⟨b, 3, none⟩ u3).setCell ⟨b, 4, none⟩ u4) b t #[u0, u1, u2, u3, u4] := by
  simpa using ((((Row.put r 0 u0).put 1 u1).put 2 u2).put 3 u3).put 4 u4
def R5 (X : World) (b : Nat) (c0 c1 c2 c3 c4 : Value) : Prop := Row X b 24 #[c0, c1, c2, c3, c4]
theorem R5.facts {X : World} {b : Nat} {c0 c1 c2 c3 c4 : Value} (r : R5 X b c0 c1 c2 c3 c4) : b < X.heap.size ∧ X.cell? ⟨b, 0, none⟩ = some c0 ∧ X.cell? ⟨b, 1, none⟩ = some c1 ∧ X.cell? ⟨b, 2, none⟩ = some c2 ∧ X.cell? ⟨b, 3, none⟩ = some c3 ∧ X.cell? ⟨b, 4, none⟩ = some c4
    ∧ X.frozen? ⟨b, 0, none⟩ = false ∧ X.frozen? ⟨b, 1, none⟩ = false ∧ X.frozen? ⟨b, 2, none⟩ = false ∧ X.frozen? ⟨b, 3, none⟩ = false ∧ X.frozen? ⟨b, 4, none⟩ = false :=
  ⟨r.lt, r.is 0 rfl, r.is 1 rfl, r.is 2 rfl, r.is 3 rfl, r.is 4 rfl, r.free 0, r.free 1, r.free 2, r.free 3, r.free 4⟩
set_option maxHeartbeats 1000000 in
theorem copy_any (s1 s2 : ByteArray) (t q : Int) (A : Option Addr) (n c : Nat) (vs : List VV) (w : World) (h : Vls w A c vs) (hn : n = vs.length) :
    Calls Tryd.prog 23 #[.agg #[.string s1, .string s2, .int .i64 t, .int .i64 q, .slice A n c]] w (CopyEnd w s1 s2 t q vs) := by
  subst hn
  have H := Lib.hid h
  clear h
  go_enter Tryd.func23, Tryd.ntmps23
  go_wp2_with fail
  have hb1 : Below w.heap.size w ((w.alloc (.cells #[.string s1, .string s2, .int .i64 t, .int .i64 q, .slice A vs.length c] 24)).alloc (.cells #[.string ⟨#[]⟩, .string ⟨#[]⟩, .int .i64 0, .int .i64 0, .slice none 0 0] 24)) := ((Below.refl _ w).alloc (Nat.le_refl _) _).alloc (by simp) _
  refine (clone_any A c vs _ (H.out.call hb1)).mono ?_
  rintro e w1 ⟨yA, yc, rfl, hc⟩
  have HC := Lib.hid hc
  have hr0 : R5 w1 w.heap.size (.string s1) (.string s2) (.int .i64 t) (.int .i64 q) (.slice A vs.length c) := Row.below ((Row.made w _ _).alloc _) hc.be (by simp; omega)
  have hr1 : R5 w1 (w.heap.size + 1) (.string ⟨#[]⟩) (.string ⟨#[]⟩) (.int .i64 0) (.int .i64 0) (.slice none 0 0) := Row.below (by simpa using Row.made (w.alloc (.cells #[.string s1, .string s2, .int .i64 t, .int .i64 q, .slice A vs.length c] 24)) 24 #[.string ⟨#[]⟩, .string ⟨#[]⟩, .int .i64 0, .int .i64 0, .slice none 0 0]) hc.be (by simp)
  have HB1 := Lib.hid hb1
  have HR0 := Lib.hid hr0
  have HR1 := Lib.hid hr1
  obtain ⟨l0, a0, a1, a2, a3, a4, f0, f1, f2, f3, f4⟩ := hr0.facts
  obtain ⟨l1, b0, b1, b2, b3, b4, g0, g1, g2, g3, g4⟩ := hr1.facts
  clear hc hr0 hr1 hb1
  go_wp2
  have hk := put5 (Row.past HR1.out (p := ⟨w.heap.size, 4, none⟩) (by simp) (.slice yA vs.length yc)) (.string s1) (.string s2) (.int .i64 t) (.int .i64 q) (.slice yA vs.length yc)
  have k0 := hk.is 0 (v := .string s1) rfl
  have k1 := hk.is 1 (v := .string s2) rfl
  have k2 := hk.is 2 (v := .int .i64 t) rfl
  have k3 := hk.is 3 (v := .int .i64 q) rfl
  have k4 := hk.is 4 (v := .slice yA vs.length yc) rfl
  refine bodyPost_ret (v := .agg #[.string s1, .string s2, .int .i64 t, .int .i64 q, .slice yA vs.length yc]) (by simp [results, Tryd.results23, go_sem, k0, k1, k2, k3, k4]; try rfl) rfl ⟨yA, yc, rfl, ?_, ?_, HC.out.nl⟩
  · obtain ⟨yob, hs, hg⟩ := HC.out.seg
    have hT : Turns w1 ((((((w1.setCell ⟨w.heap.size, 4, none⟩ (.slice yA vs.length yc)).setCell ⟨w.heap.size + 1, 0, none⟩ (.string s1)).setCell ⟨w.heap.size + 1, 1, none⟩ (.string s2)).setCell ⟨w.heap.size + 1, 2, none⟩ (.int .i64 t)).setCell ⟨w.heap.size + 1, 3, none⟩ (.int .i64 q)).setCell ⟨w.heap.size + 1, 4, none⟩ (.slice yA vs.length yc)) (fun k => k < w.heap.size + 2) :=
      ((((((Turns.refl w1 _).put _ _ _ (fun _ => by show _ < _; omega)).put _ _ _ (fun _ => by show _ < _; omega)).put _ _ _ (fun _ => by show _ < _; omega)).put _ _ _ (fun _ => by show _ < _; omega)).put _ _ _ (fun _ => by show _ < _; omega)).put _ _ _ (fun _ => by show _ < _; omega)
    refine ⟨yob, hs.turns hT (fun g e h => ?_), fun g e => ?_⟩
    · have := hg g e
      simp at this
      have h' : g < w.heap.size + 2 := h
      omega
    · have := hg g e
      simp at this
      omega
  · have h2 : Below w.heap.size w w1 := HB1.out.trans (HC.out.be.mono HB1.out.size)
    exact (((((h2.setCell (p := ⟨w.heap.size, 4, none⟩) (Nat.le_refl _) _).setCell (p := ⟨w.heap.size + 1, 0, none⟩) (by simp) _).setCell (p := ⟨w.heap.size + 1, 1, none⟩) (by simp) _).setCell (p := ⟨w.heap.size + 1, 2, none⟩) (by simp) _).setCell (p := ⟨w.heap.size + 1, 3, none⟩) (by simp) _).setCell (p := ⟨w.heap.size + 1, 4, none⟩) (by simp) _
theorem stamp_any (s1 s2 : ByteArray) (t q at' : Int) (A : Option Addr) (n c : Nat) (w : World) :
    Calls Tryd.prog 16 #[.agg #[.string s1, .string s2, .int .i64 t, .int .i64 q, .slice A n c], .int .i64 at'] w fun e w' => e = .returned (.agg #[.int .i64 t, .int .i64 q, .int .i64 at']) ∧ Below w.heap.size w w' := by
  go_enter Tryd.func16, Tryd.ntmps16
  go_wp2
  exact bodyPost_ret (v := .agg #[.int .i64 t, .int .i64 q, .int .i64 at']) (by simp [results, Tryd.results16, go_sem]; try rfl) rfl ⟨rfl, ((Below.refl _ w).alloc (Nat.le_refl _) _).alloc (by simp) _⟩
/-- Values of a segment, as a list that lies in memory. -/
theorem vl_seg {w : World} {v : Value} {vs : List VV} {ob : Option Nat} (h : Seg w 33 4 v vs.length (vcells vs) ob) : VL w w.heap.size v vs := by
  obtain ⟨A, c, rfl, h1, h2⟩ := h.form
  refine ⟨A, c, rfl, h1, by unfold maxLen at h2; omega, fun k hk => ?_⟩
  obtain ⟨g, o, c', e, rfl, _, _, hc, _⟩ := h.shape (by omega)
  injection e with e _ _
  subst e
  exact ⟨g, o, rfl, h.lt _ rfl, fun j u hj => by rw [Nat.add_assoc]; exact hc (k * 4 + j) u (vcells_get vs k hk j u hj)⟩
set_option maxHeartbeats 1000000 in
theorem eq_yes (A B : Option Addr) (n c d : Nat) (vs : List VV) (w : World) (h : VL w w.heap.size (.slice A n c) vs) (g : VL w w.heap.size (.slice B n d) vs) :
    Calls Tryd.prog 39 #[.slice A n c, .slice B n d] w fun e w' => e = .returned (.bool true) ∧ Below w.heap.size w w' := by
  have H := Lib.hid h
  have G := Lib.hid g
  obtain ⟨A1, c1, e1, h1, h2, _⟩ := h
  obtain ⟨A2, c2, e2, g1, g2, _⟩ := g
  injection e1 with ea en ec
  injection e2 with fa fn fc
  have HN := Lib.hid en
  have hcn : n ≤ c := by omega
  have hdn : n ≤ d := by omega
  have hcm : c ≤ 9223372036854775807 := by omega
  have hdm : d ≤ 9223372036854775807 := by omega
  clear ea en ec fa fn fc h1 h2 g1 g2
  go_enter Tryd.func39, Tryd.ntmps39
  go_wp2
  go_loopw [13] (fun v wr => ∃ k : Nat, k ≤ n ∧ v = .int .i64 k ∧ Hid (∃ m, wr = w.drewN m)) (fun v _ => n - (intOf v).toNat)
  case atStart => exact ⟨0, by omega, rfl, Lib.hid ⟨0, rfl⟩⟩
  case round =>
    obtain ⟨k, hk, rfl, hw⟩ := hrel
    obtain ⟨m, rfl⟩ := hw.out
    by_cases hlt : k < n
    · have hki : (k : Int) < (n : Int) := by omega
      have hkv : k < vs.length := by rw [← HN.out]; exact hlt
      obtain ⟨A1, c1, e1, _, _, h3⟩ := H.out
      obtain ⟨A2, c2, e2, _, _, g3⟩ := G.out
      injection e1 with ea en ec
      injection e2 with fa fn fc
      subst ea ec fa fc
      clear en fn
      obtain ⟨g, o, rfl, _, hc⟩ := h3 k hkv
      obtain ⟨g', o', rfl, _, hc'⟩ := g3 k hkv
      generalize vs[k] = x at hc hc'
      obtain ⟨xk, xi, xs, xb⟩ := x
      have h0 := hc 0 _ rfl
      have h1 := hc 1 _ rfl
      have h2 := hc 2 _ rfl
      have h3' := hc 3 _ rfl
      have h0' := hc' 0 _ rfl
      have h1' := hc' 1 _ rfl
      have h2' := hc' 2 _ rfl
      have h3'' := hc' 3 _ rfl
      simp only [Nat.add_zero] at h0 h0'
      clear hc hc' h3 g3
      go_upto_region 6 with fail
      go_quiet (fail)
      go_wp2
      go_roundw
      case measure => simp [intOf]; omega
      case rel => exact ⟨k + 1, by omega, by go_num, Lib.hid ⟨m + nq, rfl⟩⟩
    · have hki : ¬ (k : Int) < (n : Int) := by omega
      go_wp2
      go_ret
      exact ⟨rfl, below_drewN (Below.refl _ w) m⟩
set_option maxHeartbeats 1000000 in
theorem same_yes (ty key : ByteArray) (t q : Int) (A B : Option Addr) (n c d : Nat) (vs : List VV) (w : World) (h : VL w w.heap.size (.slice A n c) vs) (g : VL w w.heap.size (.slice B n d) vs) :
    Calls Tryd.prog 19 #[.agg #[.string ty, .string key, .int .i64 t, .int .i64 q, .slice A n c], .agg #[.string ty, .string key, .int .i64 t, .int .i64 q, .slice B n d]] w fun e w' => e = .returned (.bool true) ∧ Below w.heap.size w w' := by
  have HE := Lib.hid (fun (X : World) (hX : Below w.heap.size w X) => eq_yes A B n c d vs X (h.below hX hX.size) (g.below hX hX.size))
  clear h g
  go_enter Tryd.func19, Tryd.ntmps19
  go_wp2_with fail
  refine (HE.out _ (by go_grown)).mono ?_
  rintro e w' ⟨rfl, hb⟩
  have HB := Lib.hid ((show Below w.heap.size w _ from by go_grown).trans (hb.mono (show Below w.heap.size w _ from by go_grown).size))
  clear hb
  go_wp2
  go_ret
  exact ⟨rfl, HB.out⟩
/-- What a copy of an event is, with its values' place. -/
structure CpN (w w' : World) (vs : List VV) (n g o yc : Nat) : Prop where
  be : Below w.heap.size w w'
  ge : w.heap.size ≤ g
  lt : g < w'.heap.size
  ce : ∀ j u, (vcells vs)[j]? = some u → w'.cell? ⟨g, o + j, none⟩ = some u
  fz : ∀ j, w'.frozen? ⟨g, j, none⟩ = false
  vl : VL w' w'.heap.size (.slice (some ⟨g, o, none⟩) n yc) vs
theorem CpN.call {w w' w'' : World} {vs : List VV} {n g o yc : Nat} (h : CpN w w' vs n g o yc) (hb : Below w'.heap.size w' w'') : CpN w w'' vs n g o yc :=
  ⟨h.be.trans (hb.mono h.be.size), h.ge, Nat.lt_of_lt_of_le h.lt hb.size, fun j u hj => (hb.cell (p := ⟨g, o + j, none⟩) h.lt).trans (h.ce j u hj), fun j => (hb.frozen (p := ⟨g, j, none⟩) h.lt).trans (h.fz j), h.vl.below hb hb.size⟩
theorem copy_n (s1 s2 : ByteArray) (t q : Int) (vb n : Nat) (vs : List VV) (w : World) (h : Row w vb 33 (vcells vs).toArray) (hn : n = vs.length) (h0 : 0 < n) (h3 : n ≤ 3) :
    Calls Tryd.prog 23 #[.agg #[.string s1, .string s2, .int .i64 t, .int .i64 q, .slice (some ⟨vb, 0, none⟩) n n]] w fun e w' => ∃ g o yc, e = .returned (.agg #[.string s1, .string s2, .int .i64 t, .int .i64 q, .slice (some ⟨g, o, none⟩) n yc]) ∧ n ≤ yc ∧ yc ≤ 9223372036854775807 ∧ CpN w w' vs n g o yc := by
  refine (copy_any s1 s2 t q (some ⟨vb, 0, none⟩) n n vs w (.inr ⟨vb, rfl, hn, ⟨by omega, by omega⟩, h⟩) hn).mono ?_
  rintro e w' ⟨yA, yc, rfl, hc⟩
  obtain ⟨yob, hs, hg⟩ := hc.seg
  obtain ⟨g, o, c', e, rfl, h1, h2, hce, hfz⟩ := hs.shape (by omega)
  injection e with e1 e2 e3
  subst e1 e3 hn
  exact ⟨g, o, yc, rfl, h1, by unfold maxLen at h2; omega, hc.be, hg g rfl, hs.lt g rfl, hce, hfz, vl_seg hs⟩
end Go.Proofs.YtookojgemipakaaDoor.E4
