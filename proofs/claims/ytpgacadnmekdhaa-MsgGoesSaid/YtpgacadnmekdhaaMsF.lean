/- Copies of messages. -/
import Derived.Test.YtpgacadnmekdhaaMsE
import Derived.Lib.SliceRun
import Derived.Deep.RegionLaw
import Derived.Deep.RegionHeld3
namespace Go.Proofs.Ytpgacadnmekdhaa.Ms
open Go.RowKit Go.Proofs.Ytpgacadnmekdhaa Go.Proofs.Ytpgacadnmekdhaa.Ev
set_option linter.unusedVariables false
set_option maxRecDepth 100000
theorem one_cells' (vs : List VV) : ∀ u ∈ vcells vs, u.oneCell' = true := by
  intro u hu
  obtain ⟨v, _, h⟩ := List.mem_flatMap.1 hu
  simp [VV.cells] at h
  rcases h with rfl | rfl | rfl | rfl <;> rfl
theorem val_info' : (Try.prog.info? 94).map (fun i => (i.zero, i.size, i.bytes)) = some (some (.agg #[.int .i64 0, .int .i64 0, .string { data := #[] }, .bool false]), 4, 40) := by kernel_rfl
/-- The values of a message of the law's: none, or a row of their own. -/
def Vls (w : World) (A : Option Addr) (c : Nat) (vs : List VV) : Prop := (A = none ∧ c = 0 ∧ vs = []) ∨ ∃ b, A = some ⟨b, 0, none⟩ ∧ c = vs.length ∧ (0 < vs.length ∧ vs.length ≤ 3) ∧ Row w b 94 (vcells vs).toArray
theorem Vls.call {w w' : World} {A : Option Addr} {c : Nat} {vs : List VV} (h : Vls w A c vs) (g : Below w.heap.size w w') : Vls w' A c vs := h.imp_right fun ⟨b, a1, a2, a3, a4⟩ => ⟨b, a1, a2, a3, a4.below g a4.lt⟩
/-- What a copy of them is. -/
structure Cpy (w w' : World) (vs : List VV) (yA : Option Addr) (yc : Nat) (yob : Option Nat) : Prop where
  seg : Seg w' 94 4 (.slice yA vs.length yc) vs.length (vcells vs) yob
  ge : ∀ g, yob = some g → w.heap.size ≤ g
  be : Below w.heap.size w w'
def CloneEnd (w : World) (vs : List VV) (e : Ending) (w' : World) : Prop := ∃ yA yc yob, e = .returned (.slice yA vs.length yc) ∧ Cpy w w' vs yA yc yob
set_option maxHeartbeats 1000000 in
theorem clone_any (A : Option Addr) (c : Nat) (vs : List VV) (w : World) (h : Vls w A c vs) :
    Calls Try.prog 177 #[.slice A vs.length c] w (CloneEnd w vs) := by
  obtain ⟨i0, hi0, hz0, hz1, hz2⟩ := info_parts val_info'
  rcases h with ⟨rfl, rfl, rfl⟩ | ⟨b, rfl, h2, ⟨h3, h4⟩, h5⟩
  · have q := fun wx => Lib.run_eql_slice_nil (P := Try.prog) wx 78 94 none 0 0 0 0 Try.underlying78
    go_enter Try.func177, Try.ntmps177
    go_wp2
    go_ret
    exact ⟨none, 0, none, rfl, Seg.nil _ _ _, (fun _ h => by cases h), Below.refl _ _⟩
  · obtain ⟨n, hn⟩ : ∃ n, vs.length = n := ⟨_, rfl⟩
    rw [hn] at h2 h3 h4 ⊢
    have q0 := fun wx => Lib.run_eql_slice_nil (P := Try.prog) wx 78 94 (some ⟨b, 0, none⟩) n c 0 0 Try.underlying78
    obtain ⟨xv, hxv⟩ : ∃ xv, xv = (Value.slice (some ⟨b, 0, none⟩) n c) := ⟨_, rfl⟩
    rw [← hxv]
    have q : ∀ wx, (binOp .eql 78 xv (.slice none 0 0)).run Try.prog wx = .ok (.bool false) wx := fun wx => by rw [hxv]; exact q0 wx
    have qg : ∀ (wx : World) (o o' : Operand), (eqGuard .eql 78 o o' xv (.slice none 0 0)).run Try.prog wx = .ok () wx := fun wx o o' => by rw [hxv]; rfl
    have HXV := Lib.hid hxv
    have HN := Lib.hid hn
    have H5 := Lib.hid h5
    have H2 := Lib.hid h2
    clear hxv q0 hn h5 h2
    go_enter Try.func177, Try.ntmps177
    go_wp2_with (at_builtin; go_loud (refine wpList_append_seg _ rfl _ _ 78 rfl 94 i0 _ 4 40 Try.underlying78 hi0 hz0 hz1 hz2 rfl (by decide) _ 0 [] none rfl (seg_empty _ _ _ _) ⟨b, 0, none⟩ n c (vcells vs) (Eq.trans (b := xv) rfl HXV.out) (by rw [vcells_len, HN.out]) (fun j u hj => by rw [Addr.add_lit, Nat.zero_add, (H5.out.alloc _).cell]; simpa using hj) (one_cells' _) h3 (by unfold maxLen; omega) (by omega) ?_; intro v2 w3 ob2 hs2 ht2 ho2))
    go_ret
    rw [Nat.zero_add, List.nil_append] at hs2
    obtain ⟨A2, c2, rfl, _, _⟩ := hs2.form
    exact ⟨A2, c2, ob2, by rw [HN.out]; rfl, by rw [HN.out]; exact hs2, (fun g hg => by rcases ho2 with rfl | ⟨g', rfl, hg'⟩ <;> cases hg; simp at hg'; omega), ht2.below ((Below.refl _ w).alloc (Nat.le_refl _) _) (by simp) (fun j hj e => by cases e)⟩
theorem clone_el (w : World) : Calls Try.prog 126 #[.slice none 0 0] w fun e w' => e = .returned (.slice none 0 0) ∧ w = w' := by
  have q := fun wx => Lib.run_eql_slice_nil (P := Try.prog) wx 81 92 none 0 0 0 0 Try.underlying81
  go_enter Try.func126, Try.ntmps126
  go_wp2
  go_ret
  exact ⟨rfl, rfl⟩
set_option maxHeartbeats 1000000 in
theorem q_copy (a b : Int) (w : World) : Calls Try.prog 78 #[.agg #[.slice none 0 0, .int .i64 a, .int .i64 b]] w fun e w' => e = .returned (.agg #[.slice none 0 0, .int .i64 a, .int .i64 b]) ∧ Below w.heap.size w w' := by
  go_enter Try.func78, Try.ntmps78
  go_wp2_with fail
  refine (clone_el _).mono ?_
  rintro e w1 ⟨rfl, rfl⟩
  go_wp2
  refine wp_loop_rounds 1 ?_
  rw [rounds_succ]
  go_wp2
  exact bodyPost_ret (v := .agg #[.slice none 0 0, .int .i64 a, .int .i64 b]) (by simp [results, Try.results78, go_sem]) rfl ⟨rfl, by go_grown⟩
def EvcEnd (w : World) (ty key : ByteArray) (t q : Int) (vs : List VV) (e : Ending) (w' : World) : Prop := ∃ yA yc yob, e = .returned (.agg #[.string ty, .string key, .int .i64 t, .int .i64 q, .slice yA vs.length yc]) ∧ Cpy w w' vs yA yc yob
theorem evc_step {w W w2 : World} {b b2 : Nat} {cx cy : Array Value} {vs : List VV} {yA : Option Addr} {yc : Nat} {yob : Option Nat} (hb : Below w.heap.size w w2) (r0 : Row w2 b 80 cx) (r1 : Row w2 b2 80 cy) (hc : Cpy W w2 vs yA yc yob) (u : Value)
    (hbW : w.heap.size ≤ W.heap.size := by assumption) (hge : w.heap.size ≤ b := by exact Nat.le_refl _) (hne : b2 ≠ b := by omega) :
    Below w.heap.size w (w2.setCell ⟨b, 4, none⟩ u) ∧ Row (w2.setCell ⟨b, 4, none⟩ u) b 80 (cx.setIfInBounds 4 u) ∧ Row (w2.setCell ⟨b, 4, none⟩ u) b2 80 cy ∧ Seg (w2.setCell ⟨b, 4, none⟩ u) 94 4 (.slice yA vs.length yc) vs.length (vcells vs) yob ∧ ∀ g, yob = some g → w.heap.size ≤ g := by
  refine ⟨hb.setCell (p := ⟨b, 4, none⟩) hge u, r0.put 4 u, r1.past hne u, hc.seg.past (p := ⟨b, 4, none⟩) (fun e => ?_) u, fun g hg => by have := hc.ge g hg; omega⟩
  have h := hc.seg
  rw [e] at h
  obtain ⟨c, hr⟩ := seg_row h
  exact row_ne hr r0 (by decide) rfl
theorem evc_last {w W3 : World} {b b2 n yc : Nat} {ty key : ByteArray} {t q : Int} {cx : Array Value} {vs : List VV} {yA : Option Addr} {yob : Option Nat} (h : Below w.heap.size w W3 ∧ Row W3 b 80 cx ∧ Row W3 b2 80 #[.string { data := #[] }, .string { data := #[] }, .int .i64 0, .int .i64 0, .slice none 0 0] ∧ Seg W3 94 4 (.slice yA vs.length yc) vs.length (vcells vs) yob ∧ ∀ g, yob = some g → w.heap.size ≤ g) (hge : w.heap.size ≤ b2) :
    Row (((((W3.setCell ⟨b2, 0, none⟩ (.string ty)).setCell ⟨b2, 1, none⟩ (.string key)).setCell ⟨b2, 2, none⟩ (.int .i64 t)).setCell ⟨b2, 3, none⟩ (.int .i64 q)).setCell ⟨b2, 4, none⟩ (.slice yA n yc)) b2 80 #[.string ty, .string key, .int .i64 t, .int .i64 q, .slice yA n yc] ∧
    Cpy w (((((W3.setCell ⟨b2, 0, none⟩ (.string ty)).setCell ⟨b2, 1, none⟩ (.string key)).setCell ⟨b2, 2, none⟩ (.int .i64 t)).setCell ⟨b2, 3, none⟩ (.int .i64 q)).setCell ⟨b2, 4, none⟩ (.slice yA n yc)) vs yA yc yob := by
  obtain ⟨hb, _, hr, hs, hg⟩ := h
  have hne : ∀ (c : Array Value) (w : World), Row w b2 80 c → Seg w 94 4 (.slice yA vs.length yc) vs.length (vcells vs) yob → yob ≠ some b2 := fun c w h1 h2 e => by
    rw [e] at h2
    obtain ⟨c, hr⟩ := seg_row h2
    exact row_ne hr h1 (by decide) rfl
  have hn := hne _ _ hr hs
  exact ⟨((((hr.put 0 _).put 1 _).put 2 _).put 3 _).put 4 _, ((((hs.past (p := ⟨b2, 0, none⟩) hn _).past (p := ⟨b2, 1, none⟩) hn _).past (p := ⟨b2, 2, none⟩) hn _).past (p := ⟨b2, 3, none⟩) hn _).past (p := ⟨b2, 4, none⟩) hn _, hg,
    ((((hb.setCell (p := ⟨b2, 0, none⟩) hge _).setCell (p := ⟨b2, 1, none⟩) hge _).setCell (p := ⟨b2, 2, none⟩) hge _).setCell (p := ⟨b2, 3, none⟩) hge _).setCell (p := ⟨b2, 4, none⟩) hge _⟩
set_option maxHeartbeats 2000000 in
theorem ev_copy (ty key : ByteArray) (t q : Int) (A : Option Addr) (c : Nat) (vs : List VV) (w : World) (h : Vls w A c vs) :
    Calls Try.prog 144 #[.agg #[.string ty, .string key, .int .i64 t, .int .i64 q, .slice A vs.length c]] w (EvcEnd w ty key t q vs) := by
  have H := Lib.hid h
  clear h
  obtain ⟨n, hn⟩ : ∃ n, vs.length = n := ⟨_, rfl⟩
  have HN := Lib.hid hn
  rw [hn]
  clear hn
  go_enter Try.func144, Try.ntmps144
  go_wp2_with fail
  have hb0 : Below w.heap.size w ((w.alloc (.cells #[.string ty, .string key, .int .i64 t, .int .i64 q, .slice A n c] 80)).alloc (.cells #[.string { data := #[] }, .string { data := #[] }, .int .i64 0, .int .i64 0, .slice none 0 0] 80)) := ((Below.refl _ w).alloc (Nat.le_refl _) _).alloc (by simp) _
  have r0 := (Row.made w 80 #[.string ty, .string key, .int .i64 t, .int .i64 q, .slice A n c]).alloc (.cells #[.string { data := #[] }, .string { data := #[] }, .int .i64 0, .int .i64 0, .slice none 0 0] 80)
  have r1 := Row.made (w.alloc (.cells #[.string ty, .string key, .int .i64 t, .int .i64 q, .slice A n c] 80)) 80 #[.string { data := #[] }, .string { data := #[] }, .int .i64 0, .int .i64 0, .slice none 0 0]
  rw [World.size_alloc] at r1
  generalize (w.alloc (.cells #[.string ty, .string key, .int .i64 t, .int .i64 q, .slice A n c] 80)).alloc (.cells #[.string { data := #[] }, .string { data := #[] }, .int .i64 0, .int .i64 0, .slice none 0 0] 80) = W at hb0 r0 r1 ⊢
  have HB0 := Lib.hid hb0
  have R0 := Lib.hid r0
  have R1 := Lib.hid r1
  have hge : w.heap.size ≤ w.heap.size + 1 := by omega
  clear hb0 r0 r1
  have hb2ne : w.heap.size + 1 ≠ w.heap.size := by omega
  generalize w.heap.size + 1 = b2 at R1 hge hb2ne ⊢
  have hcl := clone_any A c vs W (by have := H.out.call HB0.out; exact this)
  rw [HN.out] at hcl
  refine hcl.mono ?_
  rintro e w2 ⟨yA, yc, yob, he, hc⟩
  rw [HN.out] at he
  subst he
  have HC := Lib.hid hc
  have R0' := Lib.hid (R0.out.below hc.be R0.out.lt)
  have R1' := Lib.hid (R1.out.below hc.be R1.out.lt)
  have HB2 := Lib.hid (HB0.out.trans (hc.be.mono HB0.out.size))
  have hzw := HB0.out.size
  have p6 := R0'.out.is 4 (v := .slice A n c) rfl
  have z6 := R0'.out.free 4
  clear hc hcl
  go_upto_region 2 with fail
  have h3 := evc_step HB2.out R0'.out R1'.out HC.out (.slice yA n yc) hzw (Nat.le_refl _) hb2ne
  generalize w2.setCell ⟨w.heap.size, 4, none⟩ (.slice yA n yc) = W3 at h3 ⊢
  have H3 := Lib.hid h3
  clear h3 p6 z6 R0 R1 HB0 HC R0' R1' HB2 hb2ne
  have p0 := H3.out.2.1.is 0 (v := .string ty) rfl
  have p1 := H3.out.2.1.is 1 (v := .string key) rfl
  have p2 := H3.out.2.1.is 2 (v := .int .i64 t) rfl
  have p3 := H3.out.2.1.is 3 (v := .int .i64 q) rfl
  have p4 := H3.out.2.1.is 4 (v := .slice yA n yc) rfl
  have q0 := H3.out.2.2.1.is 0 (v := .string { data := #[] }) rfl
  have q1 := H3.out.2.2.1.is 1 (v := .string { data := #[] }) rfl
  have q2 := H3.out.2.2.1.is 2 (v := .int .i64 0) rfl
  have q3 := H3.out.2.2.1.is 3 (v := .int .i64 0) rfl
  have q4 := H3.out.2.2.1.is 4 (v := .slice none 0 0) rfl
  have z0 := H3.out.2.2.1.free 0
  have z1 := H3.out.2.2.1.free 1
  have z2 := H3.out.2.2.1.free 2
  have z3 := H3.out.2.2.1.free 3
  have z4 := H3.out.2.2.1.free 4
  go_wp2
  have h4 := evc_last (n := n) (ty := ty) (key := key) (t := t) (q := q) H3.out hge
  generalize ((((W3.setCell ⟨b2, 0, none⟩ (.string ty)).setCell ⟨b2, 1, none⟩ (.string key)).setCell ⟨b2, 2, none⟩ (.int .i64 t)).setCell ⟨b2, 3, none⟩ (.int .i64 q)).setCell ⟨b2, 4, none⟩ (.slice yA n yc) = W4 at h4 ⊢
  have H4 := Lib.hid h4
  clear h4 p0 p1 p2 p3 p4 q0 q1 q2 q3 q4 z0 z1 z2 z3 z4 H3
  have p0 := H4.out.1.is 0 (v := .string ty) rfl
  have p1 := H4.out.1.is 1 (v := .string key) rfl
  have p2 := H4.out.1.is 2 (v := .int .i64 t) rfl
  have p3 := H4.out.1.is 3 (v := .int .i64 q) rfl
  have p4 := H4.out.1.is 4 (v := .slice yA n yc) rfl
  exact bodyPost_ret (v := .agg #[.string ty, .string key, .int .i64 t, .int .i64 q, .slice yA n yc]) (by simp [results, Try.results144, go_sem, p0, p1, p2, p3, p4]) rfl ⟨yA, yc, yob, by rw [HN.out], H4.out.2⟩
theorem ev_copy' (ty key : ByteArray) (t q : Int) (A : Option Addr) (c : Nat) (vs : List VV) (n : Nat) (hn : vs.length = n) (w : World) (h : Vls w A c vs) :
    Calls Try.prog 144 #[.agg #[.string ty, .string key, .int .i64 t, .int .i64 q, .slice A n c]] w fun e w' => ∃ yA yc yob, e = .returned (.agg #[.string ty, .string key, .int .i64 t, .int .i64 q, .slice yA n yc]) ∧ Cpy w w' vs yA yc yob := by
  subst hn
  exact ev_copy ty key t q A c vs w h
end Go.Proofs.Ytpgacadnmekdhaa.Ms
