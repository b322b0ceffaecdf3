/- event.Copy and event.Stamp. -/
import Derived.Test.YtaimbkikiokenaaRnA
import Derived.Lib.SliceRun
import Derived.Deep.RegionLaw
import Derived.Deep.RegionHeld3
namespace Go.Proofs.Ytaimbkikiokenaa.Rn
open Go.RowKit Go.Proofs.Ytaimbkikiokenaa Go.Proofs.Ytaimbkikiokenaa.Ev
set_option linter.unusedVariables false
set_option maxRecDepth 100000
theorem vcells_len' (vs : List VV) : (vcells vs).length = vs.length * 4 := by
  induction vs with
  | nil => rfl
  | cons v r ih =>
    have : vcells (v :: r) = v.cells ++ vcells r := rfl
    rw [this, List.length_append, ih]
    simp [VV.cells]; omega
theorem one_cells' (vs : List VV) : ∀ u ∈ vcells vs, u.oneCell' = true := by
  intro u hu
  obtain ⟨v, _, h⟩ := List.mem_flatMap.1 hu
  simp [VV.cells] at h
  rcases h with rfl | rfl | rfl | rfl <;> rfl
theorem val_info' : (Try.prog.info? 92).map (fun i => (i.zero, i.size, i.bytes)) = some (some (.agg #[.int .i64 0, .int .i64 0, .string { data := #[] }, .bool false]), 4, 40) := by kernel_rfl
/-- The values of an event: none, or a row of their own. -/
def Vls (w : World) (A : Option Addr) (c : Nat) (vs : List VV) : Prop := (A = none ∧ c = 0 ∧ vs = []) ∨ ∃ b, A = some ⟨b, 0, none⟩ ∧ c = vs.length ∧ (0 < vs.length ∧ vs.length ≤ 3) ∧ Row w b 92 (vcells vs).toArray
theorem Vls.call {w w' : World} {A : Option Addr} {c : Nat} {vs : List VV} (h : Vls w A c vs) (g : Below w.heap.size w w') : Vls w' A c vs := h.imp_right fun ⟨b, a1, a2, a3, a4⟩ => ⟨b, a1, a2, a3, a4.below g a4.lt⟩
/-- What a copy of them is. -/
structure Cpy (w w' : World) (vs : List VV) (yA : Option Addr) (yc : Nat) : Prop where
  seg : ∃ yob, Seg w' 92 4 (.slice yA vs.length yc) vs.length (vcells vs) yob ∧ ∀ g, yob = some g → w.heap.size ≤ g
  be : Below w.heap.size w w'
  nl : vs = [] → yA = none ∧ yc = 0
def CloneEnd (w : World) (vs : List VV) (e : Ending) (w' : World) : Prop := ∃ yA yc, e = .returned (.slice yA vs.length yc) ∧ Cpy w w' vs yA yc
set_option maxHeartbeats 1000000 in
theorem clone_any (A : Option Addr) (c : Nat) (vs : List VV) (w : World) (h : Vls w A c vs) :
    Calls Try.prog 106 #[.slice A vs.length c] w (CloneEnd w vs) := by
  obtain ⟨i0, hi0, hz0, hz1, hz2⟩ := info_parts val_info'
  rcases h with ⟨rfl, rfl, rfl⟩ | ⟨b, rfl, h2, ⟨h3, h4⟩, h5⟩
  · have q := fun wx => Lib.run_eql_slice_nil (P := Try.prog) wx 56 92 none 0 0 0 0 Try.underlying56
    go_enter Try.func106, Try.ntmps106
    go_wp2
    go_ret
    exact ⟨none, 0, rfl, ⟨none, Seg.nil _ _ _, (fun _ h => by cases h)⟩, Below.refl _ _, fun _ => ⟨rfl, rfl⟩⟩
  · obtain ⟨n, hn⟩ : ∃ n, vs.length = n := ⟨_, rfl⟩
    rw [hn] at h2 h3 h4 ⊢
    have q0 := fun wx => Lib.run_eql_slice_nil (P := Try.prog) wx 56 92 (some ⟨b, 0, none⟩) n c 0 0 Try.underlying56
    obtain ⟨xv, hxv⟩ : ∃ xv, xv = (Value.slice (some ⟨b, 0, none⟩) n c) := ⟨_, rfl⟩
    rw [← hxv]
    have q : ∀ wx, (binOp .eql 56 xv (.slice none 0 0)).run Try.prog wx = .ok (.bool false) wx := fun wx => by rw [hxv]; exact q0 wx
    have qg : ∀ (wx : World) (o o' : Operand), (eqGuard .eql 56 o o' xv (.slice none 0 0)).run Try.prog wx = .ok () wx := fun wx o o' => by rw [hxv]; rfl
    have HXV := Lib.hid hxv
    have HN := Lib.hid hn
    have H5 := Lib.hid h5
    have H2 := Lib.hid h2
    clear hxv q0 hn h5 h2
    go_enter Try.func106, Try.ntmps106
    go_wp2_with (at_builtin; go_loud (refine wpList_append_seg _ rfl _ _ 56 rfl 92 i0 _ 4 40 Try.underlying56 hi0 hz0 hz1 hz2 rfl (by decide) _ 0 [] none rfl ⟨by simp, _, 0, rfl, Nat.le_refl _, by unfold maxLen; omega, .inl ⟨rfl, rfl, fun _ => trivial⟩⟩ ⟨b, 0, none⟩ n c (vcells vs) (Eq.trans (b := xv) rfl HXV.out) (by rw [vcells_len', HN.out]) (fun j u hj => by rw [Addr.add_lit, Nat.zero_add, (H5.out.alloc _).cell]; simpa using hj) (one_cells' _) h3 (by unfold maxLen; omega) (by omega) ?_; intro v2 w3 ob2 hs2 ht2 ho2))
    go_ret
    rw [Nat.zero_add, List.nil_append] at hs2
    obtain ⟨A2, c2, rfl, _, _⟩ := hs2.form
    exact ⟨A2, c2, by rw [HN.out]; rfl, ⟨ob2, by rw [HN.out]; exact hs2, (fun g hg => by rcases ho2 with rfl | ⟨g', rfl, hg'⟩ <;> cases hg; simp at hg'; omega)⟩, ht2.below ((Below.refl _ w).alloc (Nat.le_refl _) _) (by simp) (fun j hj e => by cases e), fun h => by have := HN.out; rw [h] at this; simp at this; omega⟩
/-- What a copy of an event is. -/
def CopyEnd (w : World) (s1 s2 : ByteArray) (t q : Int) (vs : List VV) (e : Ending) (w' : World) : Prop := ∃ yA yc, e = .returned (.agg #[.string s1, .string s2, .int .i64 t, .int .i64 q, .slice yA vs.length yc]) ∧ Cpy w w' vs yA yc
theorem put5 {X : World} {b : Nat} {t : TypeId} {c0 c1 c2 c3 c4 : Value} (r : Row X b t #[c0, c1, c2, c3, c4]) (u0 u1 u2 u3 u4 : Value) :
    Row (((((X.setCell ⟨b, 0, none⟩ u0).setCell ⟨b, 1, none⟩ u1).setCell ⟨b, 2, none⟩ u2).setCell ⟨b, 3, none⟩ u3).setCell ⟨b, 4, none⟩ u4) b t #[u0, u1, u2, u3, u4] := by
  simpa using ((((Row.put r 0 u0).put 1 u1).put 2 u2).put 3 u3).put 4 u4
def R5 (X : World) (b : Nat) (c0 c1 c2 c3 c4 : Value) : Prop := Row X b 58 #[c0, c1, c2, c3, c4]
theorem R5.facts {X : World} {b : Nat} {c0 c1 c2 c3 c4 : Value} (r : R5 X b c0 c1 c2 c3 c4) : b < X.heap.size ∧ X.cell? ⟨b, 0, none⟩ = some c0 ∧ X.cell? ⟨b, 1, none⟩ = some c1 ∧ X.cell? ⟨b, 2, none⟩ = some c2 ∧ X.cell? ⟨b, 3, none⟩ = some c3 ∧ X.cell? ⟨b, 4, none⟩ = some c4
    ∧ X.frozen? ⟨b, 0, none⟩ = false ∧ X.frozen? ⟨b, 1, none⟩ = false ∧ X.frozen? ⟨b, 2, none⟩ = false ∧ X.frozen? ⟨b, 3, none⟩ = false ∧ X.frozen? ⟨b, 4, none⟩ = false :=
  ⟨r.lt, r.is 0 rfl, r.is 1 rfl, r.is 2 rfl, r.is 3 rfl, r.is 4 rfl, r.free 0, r.free 1, r.free 2, r.free 3, r.free 4⟩
set_option maxHeartbeats 1000000 in
theorem copy_any (s1 s2 : ByteArray) (t q : Int) (A : Option Addr) (n c : Nat) (vs : List VV) (w : World) (h : Vls w A c vs) (hn : n = vs.length) :
    Calls Try.prog 74 #[.agg #[.string s1, .string s2, .int .i64 t, .int .i64 q, .slice A n c]] w (CopyEnd w s1 s2 t q vs) := by
  subst hn
  have H := Lib.hid h
  clear h
  go_enter Try.func74, Try.ntmps74
  go_wp2_with fail
  have hb1 : Below w.heap.size w ((w.alloc (.cells #[.string s1, .string s2, .int .i64 t, .int .i64 q, .slice A vs.length c] 58)).alloc (.cells #[.string ⟨#[]⟩, .string ⟨#[]⟩, .int .i64 0, .int .i64 0, .slice none 0 0] 58)) := ((Below.refl _ w).alloc (Nat.le_refl _) _).alloc (by simp) _
  refine (clone_any A c vs _ (H.out.call hb1)).mono ?_
  rintro e w1 ⟨yA, yc, rfl, hc⟩
  have HC := Lib.hid hc
  have hr0 : R5 w1 w.heap.size (.string s1) (.string s2) (.int .i64 t) (.int .i64 q) (.slice A vs.length c) := Row.below ((Row.made w _ _).alloc _) hc.be (by simp; omega)
  have hr1 : R5 w1 (w.heap.size + 1) (.string ⟨#[]⟩) (.string ⟨#[]⟩) (.int .i64 0) (.int .i64 0) (.slice none 0 0) := Row.below (by simpa using Row.made (w.alloc (.cells #[.string s1, .string s2, .int .i64 t, .int .i64 q, .slice A vs.length c] 58)) 58 #[.string ⟨#[]⟩, .string ⟨#[]⟩, .int .i64 0, .int .i64 0, .slice none 0 0]) hc.be (by simp)
  have HB1 := Lib.hid hb1
  have HR0 := Lib.hid hr0
  have HR1 := Lib.hid hr1
  obtain ⟨l0, a0, a1, a2, a3, a4, f0, f1, f2, f3, f4⟩ := hr0.facts
  obtain ⟨l1, b0, b1, b2, b3, b4, g0, g1, g2, g3, g4⟩ := hr1.facts
  clear hc hr0 hr1 hb1
  go_wp2
  have hk := put5 (Row.past HR1.out (p := ⟨w.heap.size, 4, none⟩) (by simp) (.slice yA vs.length yc)) (.string s1) (.string s2) (.int .i64 t) (.int .i64 q) (.slice yA vs.length yc)
  have k0 := hk.is 0 (v := .string s1) rfl
  have k1 := hk.is 1 (v := .string s2) rfl
  have k2 := hk.is 2 (v := .int .i64 t) rfl
  have k3 := hk.is 3 (v := .int .i64 q) rfl
  have k4 := hk.is 4 (v := .slice yA vs.length yc) rfl
  refine bodyPost_ret (v := .agg #[.string s1, .string s2, .int .i64 t, .int .i64 q, .slice yA vs.length yc]) (by simp [results, Try.results74, go_sem, k0, k1, k2, k3, k4]; try rfl) rfl ⟨yA, yc, rfl, ?_, ?_, HC.out.nl⟩
  · obtain ⟨yob, hs, hg⟩ := HC.out.seg
    have hT : Turns w1 ((((((w1.setCell ⟨w.heap.size, 4, none⟩ (.slice yA vs.length yc)).setCell ⟨w.heap.size + 1, 0, none⟩ (.string s1)).setCell ⟨w.heap.size + 1, 1, none⟩ (.string s2)).setCell ⟨w.heap.size + 1, 2, none⟩ (.int .i64 t)).setCell ⟨w.heap.size + 1, 3, none⟩ (.int .i64 q)).setCell ⟨w.heap.size + 1, 4, none⟩ (.slice yA vs.length yc)) (fun k => k < w.heap.size + 2) :=
      ((((((Turns.refl w1 _).put _ _ _ (fun _ => by show _ < _; omega)).put _ _ _ (fun _ => by show _ < _; omega)).put _ _ _ (fun _ => by show _ < _; omega)).put _ _ _ (fun _ => by show _ < _; omega)).put _ _ _ (fun _ => by show _ < _; omega)).put _ _ _ (fun _ => by show _ < _; omega)
    refine ⟨yob, hs.turns hT (fun g e h => ?_), fun g e => ?_⟩
    · have := hg g e
      simp at this
      have h' : g < w.heap.size + 2 := h
      omega
    · have := hg g e
      simp at this
      omega
  · have h2 : Below w.heap.size w w1 := HB1.out.trans (HC.out.be.mono HB1.out.size)
    exact (((((h2.setCell (p := ⟨w.heap.size, 4, none⟩) (Nat.le_refl _) _).setCell (p := ⟨w.heap.size + 1, 0, none⟩) (by simp) _).setCell (p := ⟨w.heap.size + 1, 1, none⟩) (by simp) _).setCell (p := ⟨w.heap.size + 1, 2, none⟩) (by simp) _).setCell (p := ⟨w.heap.size + 1, 3, none⟩) (by simp) _).setCell (p := ⟨w.heap.size + 1, 4, none⟩) (by simp) _
theorem stamp_any (s1 s2 : ByteArray) (t q at' : Int) (A : Option Addr) (n c : Nat) (w : World) :
    Calls Try.prog 76 #[.agg #[.string s1, .string s2, .int .i64 t, .int .i64 q, .slice A n c], .int .i64 at'] w fun e w' => e = .returned (.agg #[.int .i64 t, .int .i64 q, .int .i64 at']) ∧ Below w.heap.size w w' := by
  go_enter Try.func76, Try.ntmps76
  go_wp2
  exact bodyPost_ret (v := .agg #[.int .i64 t, .int .i64 q, .int .i64 at']) (by simp [results, Try.results76, go_sem]; try rfl) rfl ⟨rfl, ((Below.refl _ w).alloc (Nat.le_refl _) _).alloc (by simp) _⟩
end Go.Proofs.Ytaimbkikiokenaa.Rn
