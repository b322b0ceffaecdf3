/- The walk of the law MsgSame. -/
import Derived.Test.YtpgacadnmekdhaaMsE
import Derived.Test.YtpgacadnmekdhaaMsO
namespace Go.Proofs.Ytpgacadnmekdhaa.Ms
open Go.RowKit Go.Proofs.Ytpgacadnmekdhaa Go.Proofs.Ytpgacadnmekdhaa.Ev
set_option linter.unusedVariables false
set_option maxRecDepth 100000
/-- x lies at b5, y at b6. -/
structure St (w W : World) (b5 b6 : Nat) (cx cy : Array Value) (xA : Option Addr) (xc : Nat) (vs : List VV) (yv : Value) (yob : Option Nat) : Prop where
  be : Below w.heap.size w W
  r5 : Row W b5 85 cx
  r6 : Row W b6 85 cy
  hv : (xA = none ∧ xc = 0 ∧ vs = []) ∨ ∃ b, xA = some ⟨b, 0, none⟩ ∧ xc = vs.length ∧ (0 < vs.length ∧ vs.length ≤ 3) ∧ Row W b 94 (vcells vs).toArray
  ys : Seg W 94 4 yv vs.length (vcells vs) yob
  ge : w.heap.size ≤ b5 ∧ w.heap.size ≤ b6 ∧ b5 < b6
  yg : ∀ g, yob = some g → w.heap.size ≤ g
section
variable {w W W' : World} {b5 b6 : Nat} {cx cy : Array Value} {xA : Option Addr} {xc : Nat} {vs : List VV} {yv : Value} {yob : Option Nat}
theorem St.call (h : St w W b5 b6 cx cy xA xc vs yv yob) (g : Below W.heap.size W W') : St w W' b5 b6 cx cy xA xc vs yv yob :=
  ⟨h.be.trans (g.mono h.be.size), h.r5.below g h.r5.lt, h.r6.below g h.r6.lt, h.hv.imp_right fun ⟨b, a1, a2, a3, a4⟩ => ⟨b, a1, a2, a3, a4.below g a4.lt⟩, h.ys.turns (Turns.of_below g) (fun _ _ x => x), h.ge, h.yg⟩
theorem St.put (h : St w W b5 b6 cx cy xA xc vs yv yob) (i : Nat) (u : Value) : St w (W.setCell ⟨b6, i, none⟩ u) b5 b6 cx (cy.setIfInBounds i u) xA xc vs yv yob := by
  refine ⟨h.be.setCell (p := ⟨b6, i, none⟩) h.ge.2.1 u, h.r5.past (by have := h.ge.2.2; show b5 ≠ b6; omega) u, h.r6.put i u, h.hv.imp_right fun ⟨b, a1, a2, a3, a4⟩ => ⟨b, a1, a2, a3, a4.past (show b ≠ b6 from row_ne a4 h.r6 (by decide)) u⟩, h.ys.past (p := ⟨b6, i, none⟩) (fun e => ?_) u, h.ge, h.yg⟩
  subst e
  obtain ⟨c, hr⟩ := seg_row h.ys
  exact row_ne hr h.r6 (by decide) rfl
theorem St.xl (h : St w W b5 b6 cx cy xA xc vs yv yob) : VS W xA xc vs := by
  rcases h.hv with ⟨h1, h2, h3⟩ | ⟨b, h1, h2, h3, h4⟩
  · rw [h1, h2, h3]; exact VS.nil W none 0 (by omega)
  · rw [h1, h2]; exact VS.of_row h4 (by omega)
theorem St.yl {A : Option Addr} {n c : Nat} (h : St w W b5 b6 cx cy xA xc vs (.slice A n c) yob) : VS W A c vs ∧ n = vs.length := by
  obtain ⟨A', c', e, _, _⟩ := h.ys.form
  have hn : n = vs.length := by injection e
  subst hn
  exact ⟨VS.of_seg h.ys rfl, rfl⟩
end
theorem one_cells (vs : List VV) : ∀ u ∈ vcells vs, u.oneCell' = true := by
  intro u hu
  obtain ⟨v, _, h⟩ := List.mem_flatMap.1 hu
  simp [VV.cells] at h
  rcases h with rfl | rfl | rfl | rfl <;> rfl
theorem lay_more {w W W3 : World} {b5 b6 : Nat} {cx cy : Array Value} {xA : Option Addr} {xc : Nat} {vs : List VV} {yv : Value} {yob : Option Nat} (h : St w W b5 b6 cx cy xA xc vs yv yob) (o : Obj) (ht : Turns (W.alloc o) W3 (fun k => yob = some k)) :
    Below w.heap.size w W3 ∧ Row W3 b5 85 cx ∧ Row W3 b6 85 cy := by
  have hsr : ∀ g, yob = some g → ∃ c, Row W g 94 c := fun g hg => by
    have := h.ys
    rw [hg] at this
    exact seg_row this
  refine ⟨ht.below (h.be.alloc h.be.size o) (by have := h.be.size; simp; omega) (fun j hj e => by have := h.yg j e; omega), (h.r5.alloc o).turns ht (fun e => ?_), (h.r6.alloc o).turns ht (fun e => ?_)⟩
  · obtain ⟨c, hr⟩ := hsr _ e
    exact row_ne hr h.r5 (by decide) rfl
  · obtain ⟨c, hr⟩ := hsr _ e
    exact row_ne hr h.r6 (by decide) rfl
theorem elem_info : (Try.prog.info? 92).map (fun i => (i.zero, i.size, i.bytes)) = some (some (.agg #[.string { data := #[] }, .slice none 0 0, .bool false, .int .i64 0, .int .i64 0, .slice none 0 0]), 6, 88) := by kernel_rfl
theorem val_info : (Try.prog.info? 94).map (fun i => (i.zero, i.size, i.bytes)) = some (some (.agg #[.int .i64 0, .int .i64 0, .string { data := #[] }, .bool false]), 4, 40) := by kernel_rfl
set_option maxHeartbeats 8000000 in
theorem same_law (m : MI) (tick : Int) (id : ByteArray) (eA : Option Addr) (en ec : Nat) (win cap kk : Int) (hkk : -9223372036854775808 ≤ kk ∧ kk ≤ 9223372036854775807) (w : World) (he : EIOk w w.heap.size m.e) (hk : -9223372036854775808 ≤ m.kind ∧ m.kind ≤ 9223372036854775807) (hT : -9223372036854775808 ≤ m.T ∧ m.T ≤ 9223372036854775807) :
    Calls Try.prog 8 #[.agg #[.int .i64 m.kind, .int .i64 tick, .string m.e.ty, .string m.e.key, .int .i64 m.e.t, .int .i64 m.e.q, .slice m.e.va m.e.vn m.e.vc, .int .i64 m.T, .string id, .slice eA en ec, .int .i64 win, .int .i64 cap], .int .i64 kk] w fun e w' => e = .returned (.bool true) ∧ Below w.heap.size w w' := by
  have HE := Lib.hid he
  clear he
  go_enter Try.func8, Try.ntmps8
  go_wp2_with fail
  refine (near_any _ 1 1 (fun _ => m) _ (by omega) (by omega) ?_).mono ?_
  · intro k hk1
    obtain rfl : k = 0 := by omega
    refine ⟨w.heap.size + 1, 0, rfl, by simp, by simp, by simp, by simp, by simp, by simp, by simp, by simp, (HE.out.below (by go_grown)).mono (by simp; omega), hk, hT⟩
  rintro e w1 ⟨v, ob, ms, rfl, hN, hl⟩
  obtain ⟨x, rfl⟩ : ∃ x, ms = [x] := by
    match ms, hl with
    | [x], _ => exact ⟨x, rfl⟩
  have hok := (hN.ok 0 x rfl).1
  have htk : x.ticket = 1 := by have := (hN.ok 0 x rfl).2.2; simpa using this
  obtain ⟨g, o, vcap, rfl, _, _, _, hc, _⟩ := hN.seg.shape (by simp)
  have HB1 := Lib.hid (((Below.refl _ w).alloc (Nat.le_refl _) (.cells (MIc m tick id eA en ec win cap).toArray 85)).alloc (by simp) (.cells (MIc m tick id eA en ec win cap).toArray 85) |>.trans (hN.be.mono (by simp; omega)))
  obtain ⟨xk, xt, xty, xkey, xtm, xq, xA, xc, xvs, xT, xid, xeA, xen, xec, xwin, xcap⟩ := x
  obtain ⟨hq, hT2, hid, ⟨he1, he2, he3, he4, he5⟩, hsz, hkb, hvs⟩ := hok
  dsimp only at htk
  subst htk
  dsimp only at hq hT2 hid he1 he2 he3 he4 he5 hsz hkb hvs
  subst hq hid he1 he2 he3 he4 he5
  have c0 := hc 0 (.int .i64 xk) rfl
  have c1 := hc 1 (.int .i64 1) rfl
  have c2 := hc 2 (.string xty) rfl
  have c3 := hc 3 (.string xkey) rfl
  have c4 := hc 4 (.int .i64 xtm) rfl
  have c5 := hc 5 (.int .i64 0) rfl
  have c6 := hc 6 (.slice xA xvs.length xc) rfl
  have c7 := hc 7 (.int .i64 xT) rfl
  have c8 := hc 8 (.string { data := #[] }) rfl
  have c9 := hc 9 (.slice none 0 0) rfl
  have c10 := hc 10 (.int .i64 0) rfl
  have c11 := hc 11 (.int .i64 0) rfl
  have HV := Lib.hid hvs
  simp only [Nat.add_zero] at c0
  clear hc hN hvs hk hT HE
  go_upto_region 3 with fail
  generalize hn : xvs.length = n at c6 ⊢
  have HL := Lib.hid hn
  have HB2 := Lib.hid ((HB1.out.alloc HB1.out.size (.cells #[.int .i64 xk, .int .i64 1, .string xty, .string xkey, .int .i64 xtm, .int .i64 0, .slice xA n xc, .int .i64 xT, .string { data := #[] }, .slice none 0 0, .int .i64 0, .int .i64 0] 85)).alloc (by have := HB1.out.size; simp; omega) (.cells #[.int .i64 xk, .int .i64 1, .string xty, .string xkey, .int .i64 xtm, .int .i64 0, .slice xA n xc, .int .i64 xT, .string { data := #[] }, .slice none 0 0, .int .i64 0, .int .i64 0] 85))
  have r5 := (Row.made w1 85 #[.int .i64 xk, .int .i64 1, .string xty, .string xkey, .int .i64 xtm, .int .i64 0, .slice xA n xc, .int .i64 xT, .string { data := #[] }, .slice none 0 0, .int .i64 0, .int .i64 0]).alloc (.cells #[.int .i64 xk, .int .i64 1, .string xty, .string xkey, .int .i64 xtm, .int .i64 0, .slice xA n xc, .int .i64 xT, .string { data := #[] }, .slice none 0 0, .int .i64 0, .int .i64 0] 85)
  have r6 := Row.made (w1.alloc (.cells #[.int .i64 xk, .int .i64 1, .string xty, .string xkey, .int .i64 xtm, .int .i64 0, .slice xA n xc, .int .i64 xT, .string { data := #[] }, .slice none 0 0, .int .i64 0, .int .i64 0] 85)) 85 #[.int .i64 xk, .int .i64 1, .string xty, .string xkey, .int .i64 xtm, .int .i64 0, .slice xA n xc, .int .i64 xT, .string { data := #[] }, .slice none 0 0, .int .i64 0, .int .i64 0]
  rw [World.size_alloc] at r6
  have hv2 : (xA = none ∧ xc = 0 ∧ xvs = []) ∨ ∃ b, xA = some ⟨b, 0, none⟩ ∧ xc = xvs.length ∧ (0 < xvs.length ∧ xvs.length ≤ 3) ∧ Row ((w1.alloc (.cells #[.int .i64 xk, .int .i64 1, .string xty, .string xkey, .int .i64 xtm, .int .i64 0, .slice xA n xc, .int .i64 xT, .string { data := #[] }, .slice none 0 0, .int .i64 0, .int .i64 0] 85)).alloc (.cells #[.int .i64 xk, .int .i64 1, .string xty, .string xkey, .int .i64 xtm, .int .i64 0, .slice xA n xc, .int .i64 xT, .string { data := #[] }, .slice none 0 0, .int .i64 0, .int .i64 0] 85)) b 94 (vcells xvs).toArray :=
    HV.out.imp_right fun ⟨b, a1, a2, a3, a4⟩ => ⟨b, a1, a2, a3, (a4.alloc _).alloc _⟩
  have hg5 : w.heap.size ≤ w1.heap.size := HB1.out.size
  clear c0 c1 c2 c3 c4 c5 c6 c7 c8 c9 c10 c11 HV HB1 hn
  generalize (w1.alloc (.cells #[.int .i64 xk, .int .i64 1, .string xty, .string xkey, .int .i64 xtm, .int .i64 0, .slice xA n xc, .int .i64 xT, .string { data := #[] }, .slice none 0 0, .int .i64 0, .int .i64 0] 85)).alloc (.cells #[.int .i64 xk, .int .i64 1, .string xty, .string xkey, .int .i64 xtm, .int .i64 0, .slice xA n xc, .int .i64 xT, .string { data := #[] }, .slice none 0 0, .int .i64 0, .int .i64 0] 85) = W at HB2 r5 r6 hv2 ⊢
  generalize w1.heap.size = b5 at r5 r6 hg5 ⊢
  have hne : b5 < b5 + 1 := by omega
  have hg6 : w.heap.size ≤ b5 + 1 := by omega
  generalize b5 + 1 = b6 at r6 hne hg6 ⊢
  have R5 := Lib.hid r5
  have R6 := Lib.hid r6
  have HV := Lib.hid hv2
  have x6 := r5.is 6 (v := .slice xA n xc) rfl
  have y6 := r6.is 6 (v := .slice xA n xc) rfl
  have z6 := r6.free 6
  have l5 := r5.lt
  have l6 := r6.lt
  clear r5 r6 hv2
  obtain ⟨i0, hi0, hz0, hz1, hz2⟩ := info_parts val_info
  go_cut [] (fun wx => Hid (∃ yA yc yob, St w wx b5 b6 #[.int .i64 xk, .int .i64 1, .string xty, .string xkey, .int .i64 xtm, .int .i64 0, .slice xA n xc, .int .i64 xT, .string { data := #[] }, .slice none 0 0, .int .i64 0, .int .i64 0] #[.int .i64 xk, .int .i64 1, .string xty, .string xkey, .int .i64 xtm, .int .i64 0, .slice yA n yc, .int .i64 xT, .string { data := #[] }, .slice none 0 0, .int .i64 0, .int .i64 0] xA xc xvs (.slice yA n yc) yob))
  case first =>
    rcases HV.out with ⟨h1, h2, h3⟩ | ⟨b, h1, h2, h3, h4⟩
    · subst h1 h2 h3
      obtain rfl : n = 0 := HL.out.symm
      go_wp2
      go_meet
      exact Lib.hid ⟨_, _, none, ((St.mk HB2.out R5.out R6.out (.inl ⟨rfl, rfl, rfl⟩) (seg_empty _ _ _ _) ⟨hg5, hg6, hne⟩ (fun _ h => by cases h)).put 6 _).call ((Below.refl _ _).alloc (Nat.le_refl _) _)⟩
    · have hcn : xc = n := h2.trans HL.out
      subst h1 hcn
      have H4 := Lib.hid h4
      have H2 := Lib.hid h2
      rw [HL.out] at h3
      obtain ⟨h5, h6⟩ := h3
      clear h2 h4
      obtain ⟨xv, hxv⟩ : ∃ xv, xv = (Value.slice (some ⟨b, 0, none⟩) xc xc) := ⟨_, rfl⟩
      rw [← hxv] at x6
      have HXV := Lib.hid hxv
      clear hxv
      go_wp2_with (at_builtin; go_loud (refine wpList_append_seg _ rfl _ _ 78 rfl 94 i0 _ 4 40 Try.underlying78 hi0 hz0 hz1 hz2 rfl (by decide) _ 0 [] none rfl (seg_empty _ _ _ _) ⟨b, 0, none⟩ xc xc (vcells xvs) (Eq.trans (b := xv) rfl HXV.out) (by rw [vcells_len, HL.out]) (fun j u hj => by rw [Addr.add_lit, Nat.zero_add, (H4.out.alloc _).cell]; simpa using hj) (one_cells _) h5 (by unfold maxLen; omega) (by omega) ?_; intro v2 w3 ob2 hs2 ht2 ho2; rw [Nat.zero_add, List.nil_append] at hs2; obtain ⟨A2, c2, rfl, _, _⟩ := hs2.form; have hW3 : Below W.heap.size W w3 := ht2.below ((Below.refl _ W).alloc (Nat.le_refl _) _) (by simp) (fun j hj e => by cases e); have HW3 := Lib.hid hW3; have HS2 := Lib.hid hs2; have hg2 : ∀ g, ob2 = some g → w.heap.size ≤ g := (fun g hg => by rcases ho2 with rfl | ⟨g', rfl, hg'⟩ <;> cases hg; have := HB2.out.size; simp at hg'; omega); have HG2 := Lib.hid hg2; have k6 := (R6.out.below hW3 l6).is 6 (v := .slice (some ⟨b, 0, none⟩) xc xc) rfl; have f6 := (R6.out.below hW3 l6).free 6; clear hs2 ht2 ho2 hW3 hg2))
      go_meet
      exact Lib.hid ⟨_, _, ob2, (St.mk (HB2.out.trans (HW3.out.mono HB2.out.size)) (R5.out.below HW3.out l5) (R6.out.below HW3.out l6) (.inr ⟨b, rfl, H2.out, by rw [HL.out]; exact ⟨h5, h6⟩, H4.out.below HW3.out H4.out.lt⟩) (by rw [HL.out]; exact HS2.out) ⟨hg5, hg6, hne⟩ HG2.out).put 6 _⟩
  case rest =>
    obtain ⟨yA, yc, yob, hst⟩ := hcut.out
    obtain rfl := HL.out
    have HST := Lib.hid hst
    have l5' := hst.r5.lt
    have l6' := hst.r6.lt
    clear hcut x6 y6 z6 l5 l6 HV R5 R6 HB2 hst
    have p0 := HST.out.r5.is 0 (v := .int .i64 xk) rfl
    have p1 := HST.out.r5.is 1 (v := .int .i64 1) rfl
    have p2 := HST.out.r5.is 2 (v := .string xty) rfl
    have p3 := HST.out.r5.is 3 (v := .string xkey) rfl
    have p4 := HST.out.r5.is 4 (v := .int .i64 xtm) rfl
    have p5 := HST.out.r5.is 5 (v := .int .i64 0) rfl
    have p6 := HST.out.r5.is 6 (v := .slice xA xvs.length xc) rfl
    have p7 := HST.out.r5.is 7 (v := .int .i64 xT) rfl
    have p8 := HST.out.r5.is 8 (v := .string { data := #[] }) rfl
    have p9 := HST.out.r5.is 9 (v := .slice none 0 0) rfl
    have p10 := HST.out.r5.is 10 (v := .int .i64 0) rfl
    have p11 := HST.out.r5.is 11 (v := .int .i64 0) rfl
    have q0 := HST.out.r6.is 0 (v := .int .i64 xk) rfl
    have q1 := HST.out.r6.is 1 (v := .int .i64 1) rfl
    have q2 := HST.out.r6.is 2 (v := .string xty) rfl
    have q3 := HST.out.r6.is 3 (v := .string xkey) rfl
    have q4 := HST.out.r6.is 4 (v := .int .i64 xtm) rfl
    have q5 := HST.out.r6.is 5 (v := .int .i64 0) rfl
    have q6 := HST.out.r6.is 6 (v := .slice yA xvs.length yc) rfl
    have q7 := HST.out.r6.is 7 (v := .int .i64 xT) rfl
    have q8 := HST.out.r6.is 8 (v := .string { data := #[] }) rfl
    have q9 := HST.out.r6.is 9 (v := .slice none 0 0) rfl
    have q10 := HST.out.r6.is 10 (v := .int .i64 0) rfl
    have q11 := HST.out.r6.is 11 (v := .int .i64 0) rfl
    go_wp2_with fail
    refine (m_yes xk 1 xtm 0 xT 0 0 xty xkey { data := #[] } xA yA none none xc yc 0 0 _ xvs HST.out.xl HST.out.yl.1).mono ?_
    rintro e w4 ⟨rfl, hb4⟩
    have HS4 := Lib.hid (HST.out.call hb4)
    have hlv : xvs.length ≤ 3 := by
      rcases HST.out.hv with ⟨_, _, h⟩ | ⟨_, _, _, h, _⟩
      · rw [h]; simp
      · exact h.2
    have hlo : (xA = none ∧ xvs.length = 0) ∨ 0 < xvs.length := by
      rcases HST.out.hv with ⟨h0, _, h⟩ | ⟨_, _, _, h, _⟩
      · exact .inl ⟨h0, by rw [h]; rfl⟩
      · exact .inr h.1
    clear hb4 HST l5' l6' hlo p0 p1 p2 p3 p4 p5 p6 p7 p8 p9 p10 p11 q0 q1 q2 q3 q4 q5 q6 q7 q8 q9 q10 q11
    have a7 := and7 kk
    have hm8 : kk % 8 = 0 ∨ kk % 8 = 1 ∨ kk % 8 = 2 ∨ kk % 8 = 3 ∨ kk % 8 = 4 ∨ kk % 8 = 5 ∨ kk % 8 = 6 ∨ kk % 8 = 7 := by omega
    rcases hm8 with h8 | h8 | h8 | h8 | h8 | h8 | h8 | h8
    · rw [h8] at a7
      clear h8
      have q := HS4.out.r6.is 0 (v := .int .i64 xk) rfl
      have z := HS4.out.r6.free 0
      have l6 := HS4.out.r6.lt
      go_wp2_with fail
      refine (awake_any _).mono ?_
      rintro e w6 ⟨rfl, hb6⟩
      have HS6 := Lib.hid ((HS4.out.put 0 (.int .i64 (xk + 1))).call hb6)
      clear hb6 q z l6 HS4
      have p0 := HS6.out.r5.is 0 (v := .int .i64 xk) rfl
      have p1 := HS6.out.r5.is 1 (v := .int .i64 1) rfl
      have p2 := HS6.out.r5.is 2 (v := .string xty) rfl
      have p3 := HS6.out.r5.is 3 (v := .string xkey) rfl
      have p4 := HS6.out.r5.is 4 (v := .int .i64 xtm) rfl
      have p5 := HS6.out.r5.is 5 (v := .int .i64 0) rfl
      have p6 := HS6.out.r5.is 6 (v := .slice xA xvs.length xc) rfl
      have p7 := HS6.out.r5.is 7 (v := .int .i64 xT) rfl
      have p8 := HS6.out.r5.is 8 (v := .string { data := #[] }) rfl
      have p9 := HS6.out.r5.is 9 (v := .slice none 0 0) rfl
      have p10 := HS6.out.r5.is 10 (v := .int .i64 0) rfl
      have p11 := HS6.out.r5.is 11 (v := .int .i64 0) rfl
      have q0 := HS6.out.r6.is 0 (v := .int .i64 (xk + 1)) rfl
      have q1 := HS6.out.r6.is 1 (v := .int .i64 1) rfl
      have q2 := HS6.out.r6.is 2 (v := .string xty) rfl
      have q3 := HS6.out.r6.is 3 (v := .string xkey) rfl
      have q4 := HS6.out.r6.is 4 (v := .int .i64 xtm) rfl
      have q5 := HS6.out.r6.is 5 (v := .int .i64 0) rfl
      have q6 := HS6.out.r6.is 6 (v := .slice yA xvs.length yc) rfl
      have q7 := HS6.out.r6.is 7 (v := .int .i64 xT) rfl
      have q8 := HS6.out.r6.is 8 (v := .string { data := #[] }) rfl
      have q9 := HS6.out.r6.is 9 (v := .slice none 0 0) rfl
      have q10 := HS6.out.r6.is 10 (v := .int .i64 0) rfl
      have q11 := HS6.out.r6.is 11 (v := .int .i64 0) rfl
      go_wp2_with fail
      refine (m_kind xk 1 xtm 0 xT 0 0 xty xkey { data := #[] } xA yA none none xvs.length xvs.length xc yc 0 0 0 0 _ (xk + 1) (by omega)).mono ?_
      rintro e w7 ⟨rfl, hb7⟩
      have HB7 := Lib.hid (HS6.out.be.trans (hb7.mono HS6.out.be.size))
      clear hb7 HS6 p0 p1 p2 p3 p4 p5 p6 p7 p8 p9 p10 p11 q0 q1 q2 q3 q4 q5 q6 q7 q8 q9 q10 q11
      go_wp2
      go_ret
      exact ⟨rfl, HB7.out⟩
    · rw [h8] at a7
      clear h8
      have q := HS4.out.r6.is 1 (v := .int .i64 1) rfl
      have z := HS4.out.r6.free 1
      have l6 := HS4.out.r6.lt
      go_wp2_with fail
      refine (awake_any _).mono ?_
      rintro e w6 ⟨rfl, hb6⟩
      have HS6 := Lib.hid ((HS4.out.put 1 (.int .i64 2)).call hb6)
      clear hb6 q z l6 HS4
      have p0 := HS6.out.r5.is 0 (v := .int .i64 xk) rfl
      have p1 := HS6.out.r5.is 1 (v := .int .i64 1) rfl
      have p2 := HS6.out.r5.is 2 (v := .string xty) rfl
      have p3 := HS6.out.r5.is 3 (v := .string xkey) rfl
      have p4 := HS6.out.r5.is 4 (v := .int .i64 xtm) rfl
      have p5 := HS6.out.r5.is 5 (v := .int .i64 0) rfl
      have p6 := HS6.out.r5.is 6 (v := .slice xA xvs.length xc) rfl
      have p7 := HS6.out.r5.is 7 (v := .int .i64 xT) rfl
      have p8 := HS6.out.r5.is 8 (v := .string { data := #[] }) rfl
      have p9 := HS6.out.r5.is 9 (v := .slice none 0 0) rfl
      have p10 := HS6.out.r5.is 10 (v := .int .i64 0) rfl
      have p11 := HS6.out.r5.is 11 (v := .int .i64 0) rfl
      have q0 := HS6.out.r6.is 0 (v := .int .i64 xk) rfl
      have q1 := HS6.out.r6.is 1 (v := .int .i64 2) rfl
      have q2 := HS6.out.r6.is 2 (v := .string xty) rfl
      have q3 := HS6.out.r6.is 3 (v := .string xkey) rfl
      have q4 := HS6.out.r6.is 4 (v := .int .i64 xtm) rfl
      have q5 := HS6.out.r6.is 5 (v := .int .i64 0) rfl
      have q6 := HS6.out.r6.is 6 (v := .slice yA xvs.length yc) rfl
      have q7 := HS6.out.r6.is 7 (v := .int .i64 xT) rfl
      have q8 := HS6.out.r6.is 8 (v := .string { data := #[] }) rfl
      have q9 := HS6.out.r6.is 9 (v := .slice none 0 0) rfl
      have q10 := HS6.out.r6.is 10 (v := .int .i64 0) rfl
      have q11 := HS6.out.r6.is 11 (v := .int .i64 0) rfl
      go_wp2_with fail
      refine (m_tick xk 1 xtm 0 xT 0 0 xty xkey { data := #[] } xA yA none none xvs.length xvs.length xc yc 0 0 0 0 _ 2 (by omega)).mono ?_
      rintro e w7 ⟨rfl, hb7⟩
      have HB7 := Lib.hid (HS6.out.be.trans (hb7.mono HS6.out.be.size))
      clear hb7 HS6 p0 p1 p2 p3 p4 p5 p6 p7 p8 p9 p10 p11 q0 q1 q2 q3 q4 q5 q6 q7 q8 q9 q10 q11
      go_wp2
      go_ret
      exact ⟨rfl, HB7.out⟩
    · rw [h8] at a7
      clear h8
      have q := HS4.out.r6.is 5 (v := .int .i64 0) rfl
      have z := HS4.out.r6.free 5
      have l6 := HS4.out.r6.lt
      go_wp2_with fail
      refine (awake_any _).mono ?_
      rintro e w6 ⟨rfl, hb6⟩
      have HS6 := Lib.hid ((HS4.out.put 5 (.int .i64 1)).call hb6)
      clear hb6 q z l6 HS4
      have p0 := HS6.out.r5.is 0 (v := .int .i64 xk) rfl
      have p1 := HS6.out.r5.is 1 (v := .int .i64 1) rfl
      have p2 := HS6.out.r5.is 2 (v := .string xty) rfl
      have p3 := HS6.out.r5.is 3 (v := .string xkey) rfl
      have p4 := HS6.out.r5.is 4 (v := .int .i64 xtm) rfl
      have p5 := HS6.out.r5.is 5 (v := .int .i64 0) rfl
      have p6 := HS6.out.r5.is 6 (v := .slice xA xvs.length xc) rfl
      have p7 := HS6.out.r5.is 7 (v := .int .i64 xT) rfl
      have p8 := HS6.out.r5.is 8 (v := .string { data := #[] }) rfl
      have p9 := HS6.out.r5.is 9 (v := .slice none 0 0) rfl
      have p10 := HS6.out.r5.is 10 (v := .int .i64 0) rfl
      have p11 := HS6.out.r5.is 11 (v := .int .i64 0) rfl
      have q0 := HS6.out.r6.is 0 (v := .int .i64 xk) rfl
      have q1 := HS6.out.r6.is 1 (v := .int .i64 1) rfl
      have q2 := HS6.out.r6.is 2 (v := .string xty) rfl
      have q3 := HS6.out.r6.is 3 (v := .string xkey) rfl
      have q4 := HS6.out.r6.is 4 (v := .int .i64 xtm) rfl
      have q5 := HS6.out.r6.is 5 (v := .int .i64 1) rfl
      have q6 := HS6.out.r6.is 6 (v := .slice yA xvs.length yc) rfl
      have q7 := HS6.out.r6.is 7 (v := .int .i64 xT) rfl
      have q8 := HS6.out.r6.is 8 (v := .string { data := #[] }) rfl
      have q9 := HS6.out.r6.is 9 (v := .slice none 0 0) rfl
      have q10 := HS6.out.r6.is 10 (v := .int .i64 0) rfl
      have q11 := HS6.out.r6.is 11 (v := .int .i64 0) rfl
      go_wp2_with fail
      refine (m_seq xk 1 xtm 0 xT 0 0 xty xkey { data := #[] } xA yA none none xvs.length xvs.length xc yc 0 0 0 0 _ 1 (by omega)).mono ?_
      rintro e w7 ⟨rfl, hb7⟩
      have HB7 := Lib.hid (HS6.out.be.trans (hb7.mono HS6.out.be.size))
      clear hb7 HS6 p0 p1 p2 p3 p4 p5 p6 p7 p8 p9 p10 p11 q0 q1 q2 q3 q4 q5 q6 q7 q8 q9 q10 q11
      go_wp2
      go_ret
      exact ⟨rfl, HB7.out⟩
    · rw [h8] at a7
      clear h8
      have q := HS4.out.r6.is 7 (v := .int .i64 xT) rfl
      have z := HS4.out.r6.free 7
      have l6 := HS4.out.r6.lt
      go_wp2_with fail
      refine (awake_any _).mono ?_
      rintro e w6 ⟨rfl, hb6⟩
      have HS6 := Lib.hid ((HS4.out.put 7 (.int .i64 (xT + 1))).call hb6)
      clear hb6 q z l6 HS4
      have p0 := HS6.out.r5.is 0 (v := .int .i64 xk) rfl
      have p1 := HS6.out.r5.is 1 (v := .int .i64 1) rfl
      have p2 := HS6.out.r5.is 2 (v := .string xty) rfl
      have p3 := HS6.out.r5.is 3 (v := .string xkey) rfl
      have p4 := HS6.out.r5.is 4 (v := .int .i64 xtm) rfl
      have p5 := HS6.out.r5.is 5 (v := .int .i64 0) rfl
      have p6 := HS6.out.r5.is 6 (v := .slice xA xvs.length xc) rfl
      have p7 := HS6.out.r5.is 7 (v := .int .i64 xT) rfl
      have p8 := HS6.out.r5.is 8 (v := .string { data := #[] }) rfl
      have p9 := HS6.out.r5.is 9 (v := .slice none 0 0) rfl
      have p10 := HS6.out.r5.is 10 (v := .int .i64 0) rfl
      have p11 := HS6.out.r5.is 11 (v := .int .i64 0) rfl
      have q0 := HS6.out.r6.is 0 (v := .int .i64 xk) rfl
      have q1 := HS6.out.r6.is 1 (v := .int .i64 1) rfl
      have q2 := HS6.out.r6.is 2 (v := .string xty) rfl
      have q3 := HS6.out.r6.is 3 (v := .string xkey) rfl
      have q4 := HS6.out.r6.is 4 (v := .int .i64 xtm) rfl
      have q5 := HS6.out.r6.is 5 (v := .int .i64 0) rfl
      have q6 := HS6.out.r6.is 6 (v := .slice yA xvs.length yc) rfl
      have q7 := HS6.out.r6.is 7 (v := .int .i64 (xT + 1)) rfl
      have q8 := HS6.out.r6.is 8 (v := .string { data := #[] }) rfl
      have q9 := HS6.out.r6.is 9 (v := .slice none 0 0) rfl
      have q10 := HS6.out.r6.is 10 (v := .int .i64 0) rfl
      have q11 := HS6.out.r6.is 11 (v := .int .i64 0) rfl
      go_wp2_with fail
      refine (m_T xk 1 xtm 0 xT 0 0 xty xkey { data := #[] } xA yA none none xc yc 0 0 _ xvs HS6.out.xl HS6.out.yl.1 (xT + 1) (by omega)).mono ?_
      rintro e w7 ⟨rfl, hb7⟩
      have HB7 := Lib.hid (HS6.out.be.trans (hb7.mono HS6.out.be.size))
      clear hb7 HS6 p0 p1 p2 p3 p4 p5 p6 p7 p8 p9 p10 p11 q0 q1 q2 q3 q4 q5 q6 q7 q8 q9 q10 q11
      go_wp2
      go_ret
      exact ⟨rfl, HB7.out⟩
    · rw [h8] at a7
      clear h8
      have q := HS4.out.r6.is 8 (v := .string { data := #[] }) rfl
      have z := HS4.out.r6.free 8
      have l6 := HS4.out.r6.lt
      go_wp2_with fail
      refine (awake_any _).mono ?_
      rintro e w6 ⟨rfl, hb6⟩
      have HS6 := Lib.hid ((HS4.out.put 8 (.string { data := #[120] })).call hb6)
      clear hb6 q z l6 HS4
      have p0 := HS6.out.r5.is 0 (v := .int .i64 xk) rfl
      have p1 := HS6.out.r5.is 1 (v := .int .i64 1) rfl
      have p2 := HS6.out.r5.is 2 (v := .string xty) rfl
      have p3 := HS6.out.r5.is 3 (v := .string xkey) rfl
      have p4 := HS6.out.r5.is 4 (v := .int .i64 xtm) rfl
      have p5 := HS6.out.r5.is 5 (v := .int .i64 0) rfl
      have p6 := HS6.out.r5.is 6 (v := .slice xA xvs.length xc) rfl
      have p7 := HS6.out.r5.is 7 (v := .int .i64 xT) rfl
      have p8 := HS6.out.r5.is 8 (v := .string { data := #[] }) rfl
      have p9 := HS6.out.r5.is 9 (v := .slice none 0 0) rfl
      have p10 := HS6.out.r5.is 10 (v := .int .i64 0) rfl
      have p11 := HS6.out.r5.is 11 (v := .int .i64 0) rfl
      have q0 := HS6.out.r6.is 0 (v := .int .i64 xk) rfl
      have q1 := HS6.out.r6.is 1 (v := .int .i64 1) rfl
      have q2 := HS6.out.r6.is 2 (v := .string xty) rfl
      have q3 := HS6.out.r6.is 3 (v := .string xkey) rfl
      have q4 := HS6.out.r6.is 4 (v := .int .i64 xtm) rfl
      have q5 := HS6.out.r6.is 5 (v := .int .i64 0) rfl
      have q6 := HS6.out.r6.is 6 (v := .slice yA xvs.length yc) rfl
      have q7 := HS6.out.r6.is 7 (v := .int .i64 xT) rfl
      have q8 := HS6.out.r6.is 8 (v := .string { data := #[120] }) rfl
      have q9 := HS6.out.r6.is 9 (v := .slice none 0 0) rfl
      have q10 := HS6.out.r6.is 10 (v := .int .i64 0) rfl
      have q11 := HS6.out.r6.is 11 (v := .int .i64 0) rfl
      go_wp2_with fail
      refine (m_id xk 1 xtm 0 xT 0 0 xty xkey { data := #[] } xA yA none none xc yc 0 0 _ xvs HS6.out.xl HS6.out.yl.1 { data := #[120] } (by rw [toList_data, toList_data]; rfl)).mono ?_
      rintro e w7 ⟨rfl, hb7⟩
      have HB7 := Lib.hid (HS6.out.be.trans (hb7.mono HS6.out.be.size))
      clear hb7 HS6 p0 p1 p2 p3 p4 p5 p6 p7 p8 p9 p10 p11 q0 q1 q2 q3 q4 q5 q6 q7 q8 q9 q10 q11
      go_wp2
      go_ret
      exact ⟨rfl, HB7.out⟩
    · rw [h8] at a7
      clear h8
      have q := HS4.out.r6.is 10 (v := .int .i64 0) rfl
      have z := HS4.out.r6.free 10
      have l6 := HS4.out.r6.lt
      go_wp2_with fail
      refine (awake_any _).mono ?_
      rintro e w6 ⟨rfl, hb6⟩
      have HS6 := Lib.hid ((HS4.out.put 10 (.int .i64 1)).call hb6)
      clear hb6 q z l6 HS4
      have p0 := HS6.out.r5.is 0 (v := .int .i64 xk) rfl
      have p1 := HS6.out.r5.is 1 (v := .int .i64 1) rfl
      have p2 := HS6.out.r5.is 2 (v := .string xty) rfl
      have p3 := HS6.out.r5.is 3 (v := .string xkey) rfl
      have p4 := HS6.out.r5.is 4 (v := .int .i64 xtm) rfl
      have p5 := HS6.out.r5.is 5 (v := .int .i64 0) rfl
      have p6 := HS6.out.r5.is 6 (v := .slice xA xvs.length xc) rfl
      have p7 := HS6.out.r5.is 7 (v := .int .i64 xT) rfl
      have p8 := HS6.out.r5.is 8 (v := .string { data := #[] }) rfl
      have p9 := HS6.out.r5.is 9 (v := .slice none 0 0) rfl
      have p10 := HS6.out.r5.is 10 (v := .int .i64 0) rfl
      have p11 := HS6.out.r5.is 11 (v := .int .i64 0) rfl
      have q0 := HS6.out.r6.is 0 (v := .int .i64 xk) rfl
      have q1 := HS6.out.r6.is 1 (v := .int .i64 1) rfl
      have q2 := HS6.out.r6.is 2 (v := .string xty) rfl
      have q3 := HS6.out.r6.is 3 (v := .string xkey) rfl
      have q4 := HS6.out.r6.is 4 (v := .int .i64 xtm) rfl
      have q5 := HS6.out.r6.is 5 (v := .int .i64 0) rfl
      have q6 := HS6.out.r6.is 6 (v := .slice yA xvs.length yc) rfl
      have q7 := HS6.out.r6.is 7 (v := .int .i64 xT) rfl
      have q8 := HS6.out.r6.is 8 (v := .string { data := #[] }) rfl
      have q9 := HS6.out.r6.is 9 (v := .slice none 0 0) rfl
      have q10 := HS6.out.r6.is 10 (v := .int .i64 1) rfl
      have q11 := HS6.out.r6.is 11 (v := .int .i64 0) rfl
      go_wp2_with fail
      refine (m_win xk 1 xtm 0 xT 0 0 xty xkey { data := #[] } xA yA none none xc yc 0 0 _ xvs HS6.out.xl HS6.out.yl.1 1 (by omega)).mono ?_
      rintro e w7 ⟨rfl, hb7⟩
      have HB7 := Lib.hid (HS6.out.be.trans (hb7.mono HS6.out.be.size))
      clear hb7 HS6 p0 p1 p2 p3 p4 p5 p6 p7 p8 p9 p10 p11 q0 q1 q2 q3 q4 q5 q6 q7 q8 q9 q10 q11
      go_wp2
      go_ret
      exact ⟨rfl, HB7.out⟩
    · rw [h8] at a7
      clear h8
      obtain ⟨i1, hi1, hy0, hy1, hy2⟩ := info_parts elem_info
      obtain ⟨zv, hzv⟩ : ∃ zv, zv = (Value.slice none 0 0) := ⟨_, rfl⟩
      have q := HS4.out.r6.is 9 (v := .slice none 0 0) rfl
      have z := HS4.out.r6.free 9
      have l6 := HS4.out.r6.lt
      rw [← hzv] at q
      have HZV := Lib.hid hzv
      clear hzv
      go_wp2_with (at_builtin; go_loud (refine wpList_append_seg _ rfl _ _ 81 rfl 92 i1 _ 6 88 Try.underlying81 hi1 hy0 hy1 hy2 rfl (by decide) zv 0 [] none rfl (by rw [HZV.out]; exact Seg.nil _ _ _) ⟨w4.heap.size, 0, none⟩ 1 1 [.string { data := #[] }, .slice none 0 0, .bool false, .int .i64 0, .int .i64 0, .slice none 0 0] rfl rfl (news_of _ _ _) (by simp [Value.oneCell']) (by decide) (by unfold maxLen; omega) (by omega) ?_; intro v2 w3 ob2 hs2 ht2 ho2; obtain ⟨A2, c2, rfl, _, _⟩ := hs2.form; have hW3 : Below w4.heap.size w4 w3 := ht2.below ((Below.refl _ w4).alloc (Nat.le_refl _) _) (by simp) (fun j hj e => by cases e); have HS5 := Lib.hid (HS4.out.call hW3); have k9 := HS5.out.r6.is 9 (v := .slice none 0 0) rfl; have f9 := HS5.out.r6.free 9; clear hs2 ht2 ho2 hW3))
      refine (awake_any _).mono ?_
      rintro e w6 ⟨rfl, hb6⟩
      have HS6 := Lib.hid ((HS5.out.put 9 (.slice A2 (0 + 1) c2)).call hb6)
      clear hb6 q z l6 HS4 HS5 k9 f9
      have p0 := HS6.out.r5.is 0 (v := .int .i64 xk) rfl
      have p1 := HS6.out.r5.is 1 (v := .int .i64 1) rfl
      have p2 := HS6.out.r5.is 2 (v := .string xty) rfl
      have p3 := HS6.out.r5.is 3 (v := .string xkey) rfl
      have p4 := HS6.out.r5.is 4 (v := .int .i64 xtm) rfl
      have p5 := HS6.out.r5.is 5 (v := .int .i64 0) rfl
      have p6 := HS6.out.r5.is 6 (v := .slice xA xvs.length xc) rfl
      have p7 := HS6.out.r5.is 7 (v := .int .i64 xT) rfl
      have p8 := HS6.out.r5.is 8 (v := .string { data := #[] }) rfl
      have p9 := HS6.out.r5.is 9 (v := .slice none 0 0) rfl
      have p10 := HS6.out.r5.is 10 (v := .int .i64 0) rfl
      have p11 := HS6.out.r5.is 11 (v := .int .i64 0) rfl
      have q0 := HS6.out.r6.is 0 (v := .int .i64 xk) rfl
      have q1 := HS6.out.r6.is 1 (v := .int .i64 1) rfl
      have q2 := HS6.out.r6.is 2 (v := .string xty) rfl
      have q3 := HS6.out.r6.is 3 (v := .string xkey) rfl
      have q4 := HS6.out.r6.is 4 (v := .int .i64 xtm) rfl
      have q5 := HS6.out.r6.is 5 (v := .int .i64 0) rfl
      have q6 := HS6.out.r6.is 6 (v := .slice yA xvs.length yc) rfl
      have q7 := HS6.out.r6.is 7 (v := .int .i64 xT) rfl
      have q8 := HS6.out.r6.is 8 (v := .string { data := #[] }) rfl
      have q9 := HS6.out.r6.is 9 (v := .slice A2 1 c2) rfl
      have q10 := HS6.out.r6.is 10 (v := .int .i64 0) rfl
      have q11 := HS6.out.r6.is 11 (v := .int .i64 0) rfl
      go_wp2_with fail
      refine (m_el xk 1 xtm 0 xT 0 0 xty xkey { data := #[] } xA yA none A2 xc yc 0 1 0 c2 _ xvs HS6.out.xl HS6.out.yl.1 (by omega)).mono ?_
      rintro e w7 ⟨rfl, hb7⟩
      have HB7 := Lib.hid (HS6.out.be.trans (hb7.mono HS6.out.be.size))
      clear hb7 HS6 p0 p1 p2 p3 p4 p5 p6 p7 p8 p9 p10 p11 q0 q1 q2 q3 q4 q5 q6 q7 q8 q9 q10 q11
      go_wp2
      go_ret
      exact ⟨rfl, HB7.out⟩
    · rw [h8] at a7
      clear h8
      obtain ⟨zv, hzv⟩ : ∃ zv, zv = (Value.slice yA xvs.length yc) := ⟨_, rfl⟩
      have q := HS4.out.r6.is 6 (v := .slice yA xvs.length yc) rfl
      have z := HS4.out.r6.free 6
      have l6 := HS4.out.r6.lt
      rw [← hzv] at q
      have HZV := Lib.hid hzv
      clear hzv
      go_wp2_with (at_builtin; go_loud (refine wpList_append_seg _ rfl _ _ 78 rfl 94 i0 _ 4 40 Try.underlying78 hi0 hz0 hz1 hz2 rfl (by decide) zv xvs.length (vcells xvs) yob rfl (by rw [HZV.out]; exact HS4.out.ys.alloc _) ⟨w4.heap.size, 0, none⟩ 1 1 [.int .i64 0, .int .i64 0, .string { data := #[] }, .bool false] rfl rfl (news_of _ _ _) (by simp [Value.oneCell']) (by decide) (by unfold maxLen; omega) (by omega) ?_; intro v2 w3 ob2 hs2 ht2 ho2; obtain ⟨A2, c2, rfl, _, _⟩ := hs2.form; have HS5 := Lib.hid (lay_more HS4.out _ ht2); have k9 := HS5.out.2.2.is 6 (v := .slice yA xvs.length yc) rfl; have f9 := HS5.out.2.2.free 6; have HG := Lib.hid HS4.out.ge; clear hs2 ht2 ho2 HS4))
      refine (awake_any _).mono ?_
      rintro e w6 ⟨rfl, hb6⟩
      have hne6 : b5 ≠ b6 := by have := HG.out; omega
      have HB6 := Lib.hid ((HS5.out.1.setCell (p := ⟨b6, 6, none⟩) HG.out.2.1 (.slice A2 (xvs.length + 1) c2)).trans (hb6.mono (by simp; exact HS5.out.1.size)))
      have R5 := Lib.hid (Row.below (HS5.out.2.1.past (p := ⟨b6, 6, none⟩) hne6 (.slice A2 (xvs.length + 1) c2)) hb6 (by simp; exact HS5.out.2.1.lt))
      have R6 := Lib.hid (Row.below (HS5.out.2.2.put 6 (.slice A2 (xvs.length + 1) c2)) hb6 (by simp; exact HS5.out.2.2.lt))
      clear hb6 q z l6 HS5 k9 f9
      have p0 := R5.out.is 0 (v := .int .i64 xk) rfl
      have p1 := R5.out.is 1 (v := .int .i64 1) rfl
      have p2 := R5.out.is 2 (v := .string xty) rfl
      have p3 := R5.out.is 3 (v := .string xkey) rfl
      have p4 := R5.out.is 4 (v := .int .i64 xtm) rfl
      have p5 := R5.out.is 5 (v := .int .i64 0) rfl
      have p6 := R5.out.is 6 (v := .slice xA xvs.length xc) rfl
      have p7 := R5.out.is 7 (v := .int .i64 xT) rfl
      have p8 := R5.out.is 8 (v := .string { data := #[] }) rfl
      have p9 := R5.out.is 9 (v := .slice none 0 0) rfl
      have p10 := R5.out.is 10 (v := .int .i64 0) rfl
      have p11 := R5.out.is 11 (v := .int .i64 0) rfl
      have q0 := R6.out.is 0 (v := .int .i64 xk) rfl
      have q1 := R6.out.is 1 (v := .int .i64 1) rfl
      have q2 := R6.out.is 2 (v := .string xty) rfl
      have q3 := R6.out.is 3 (v := .string xkey) rfl
      have q4 := R6.out.is 4 (v := .int .i64 xtm) rfl
      have q5 := R6.out.is 5 (v := .int .i64 0) rfl
      have q6 := R6.out.is 6 (v := .slice A2 (xvs.length + 1) c2) rfl
      have q7 := R6.out.is 7 (v := .int .i64 xT) rfl
      have q8 := R6.out.is 8 (v := .string { data := #[] }) rfl
      have q9 := R6.out.is 9 (v := .slice none 0 0) rfl
      have q10 := R6.out.is 10 (v := .int .i64 0) rfl
      have q11 := R6.out.is 11 (v := .int .i64 0) rfl
      go_wp2_with fail
      refine (m_len xk 1 xtm 0 xT 0 0 xty xkey { data := #[] } xA A2 none none xvs.length (xvs.length + 1) xc c2 0 0 0 0 _ (by omega)).mono ?_
      rintro e w7 ⟨rfl, hb7⟩
      have HB7 := Lib.hid (HB6.out.trans (hb7.mono HB6.out.size))
      clear hb7 R5 R6 p0 p1 p2 p3 p4 p5 p6 p7 p8 p9 p10 p11 q0 q1 q2 q3 q4 q5 q6 q7 q8 q9 q10 q11
      go_wp2
      go_ret
      exact ⟨rfl, HB7.out⟩
theorem same_end (m : MI) (tick : Int) (id : ByteArray) (eA : Option Addr) (en ec : Nat) (win cap : Int) {w : World} (ok : MIOk w m) (kk : Int) (wk : (Lit.int .i64 kk).wf = true) :
    Calls Try.prog 8 #[.agg #[.int .i64 m.kind, .int .i64 tick, .string m.e.ty, .string m.e.key, .int .i64 m.e.t, .int .i64 m.e.q, .slice m.e.va m.e.vn m.e.vc, .int .i64 m.T, .string id, .slice eA en ec, .int .i64 win, .int .i64 cap], .int .i64 kk] w fun e w' => e = .returned (.bool true) ∧ Below w.heap.size w w' :=
  same_law m tick id eA en ec win cap kk (bounds_i64 wk) w ok.1 ok.2.1 ok.2.2
end Go.Proofs.Ytpgacadnmekdhaa.Ms
