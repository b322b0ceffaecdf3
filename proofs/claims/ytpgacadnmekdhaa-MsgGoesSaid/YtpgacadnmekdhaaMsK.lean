/- The walk of the law MsgGoes. -/
import Derived.Test.YtpgacadnmekdhaaMsJ
import Derived.Test.YtpgacadnmekdhaaMsG
import Derived.Test.YtpgacadnmekdhaaMsO
import Derived.Deep.RegionHeld3
namespace Go.Proofs.Ytpgacadnmekdhaa.Ms
open Go.RowKit Go.Proofs.Ytpgacadnmekdhaa Go.Proofs.Ytpgacadnmekdhaa.Ev
set_option linter.unusedVariables false
set_option maxRecDepth 100000
/-- How many of the first k go to p. -/
def cnt (ms : List Mg) (N k p : Nat) : Int := (((ms.take k).filter fun m => goes m p N).length : Nat)
theorem cnt_succ (ms : List Mg) (N k p : Nat) (m : Mg) (h : ms[k]? = some m) : cnt ms N (k + 1) p = cnt ms N k p + if goes m p N = true then 1 else 0 := by
  unfold cnt
  rw [filter_take_succ _ _ _ _ h, List.length_append]
  split <;> simp
theorem cnt_le (ms : List Mg) (N k p : Nat) : 0 ≤ cnt ms N k p ∧ cnt ms N k p ≤ k := by
  unfold cnt
  have h1 := List.length_filter_le (fun m => goes m p N) (ms.take k)
  have h2 := List.length_take_le k ms
  omega
/-- The messages, and what is counted of each part. -/
structure Gs (w0 w : World) (v : Value) (ms : List Mg) (m2 N : Nat) (f : Nat → Int) : Prop where
  be : Below w0.heap.size w0 w
  lst : Lst w v ms
  tab : Tab w m2 3 N (fun p => .int .i64 (f p))
  ge : w0.heap.size ≤ m2
theorem Lst.put {w : World} {v : Value} {ms : List Mg} (h : Lst w v ms) {b : Nat} {t : TypeId} {c : Array Value} (hr : Row w b t c) (hn : t ≠ 94) (hn2 : t ≠ 85) (i : Nat) (u : Value) : Lst (w.setCell ⟨b, i, none⟩ u) v ms := by
  obtain ⟨ob, hs⟩ := h.seg
  refine ⟨⟨ob, hs.past (p := ⟨b, i, none⟩) (fun e => ?_) u⟩, fun i m hm => (h.ok i m hm).put hr hn _ u⟩
  subst e
  obtain ⟨c', hr'⟩ := seg_row hs
  exact row_ne hr' hr (fun e => hn2 e.symm) rfl
section
variable {w0 w w' : World} {v : Value} {ms : List Mg} {m2 N : Nat} {f g : Nat → Int}
theorem Gs.call (h : Gs w0 w v ms m2 N f) (hb : Below w.heap.size w w') : Gs w0 w' v ms m2 N f :=
  ⟨h.be.trans (hb.mono h.be.size), h.lst.call hb, h.tab.turns (Turns.of_below hb) (fun x => x), h.ge⟩
theorem Gs.drewN (h : Gs w0 w v ms m2 N f) (n : Nat) : Gs w0 (w.drewN n) v ms m2 N f := ⟨below_drewN h.be n, h.lst.call (below_drewN (Below.refl _ _) n), h.tab.drewN n, h.ge⟩
theorem Gs.put (h : Gs w0 w v ms m2 N f) (p : Nat) (u : Int) (hg : ∀ i, i < N → i ≠ p → f i = g i) (hp : p < N → u = g p) : Gs w0 (w.setCell ⟨m2, p, none⟩ (.int .i64 u)) v ms m2 N g := by
  obtain ⟨cs, hr, _⟩ := h.tab
  exact ⟨h.be.setCell (p := ⟨m2, p, none⟩) h.ge _, h.lst.put hr (by decide) (by decide) p _, h.tab.put p _ (fun i hi hn => by rw [hg i hi hn]) (fun hp' => by rw [hp hp']), h.ge⟩
theorem Gs.congr (h : Gs w0 w v ms m2 N f) (hg : ∀ i, i < N → f i = g i) : Gs w0 w v ms m2 N g := ⟨h.be, h.lst, h.tab.congr (fun i hi => by rw [hg i hi]), h.ge⟩
end
theorem take_at {P : Program} {ops : Array Oper} {Q : Exit → Act → World → Prop} {md : Region.Mode} {S : World → Prop} {fuel : Nat} {listed : Array Bool} {a : Act} {w : World} (i : Nat) (d : Tmp) (oi : Oper) {v : Value} (hi : ops[i]? = some oi) (hd : oi.dst = some d)
    (hs : Region.noSelect ops = true) (hf : Region.free md ops listed i = true) (hr : (Region.ready md ops listed).contains i = true)
    (hQ : ∀ c a w, Q (.panic c) (a.put oi.dst v) w → Q (.panic c) a w) (hy : YieldsIf P ops S oi v a) (hS : S w)
    (h : wpAnyH P md ops Q S fuel (listed.setIfInBounds i true) (a.put (some d) v) w) : wpAnyH P md ops Q S (fuel + 1) listed a w :=
  wpAnyH_take hi hs hf hr hQ hy hS (by rw [hd]; exact h)
theorem part_n (s : ByteArray) (n : Int) (N : Nat) (w : World) (hN : Hash.partsV n = N) (hs : s.size ≤ 9223372036854775807) :
    Calls Try.prog 53 #[.string s, .int .i64 n] w fun e w' => e = .returned (.int .i64 (Hash.partK s.data.toList N)) ∧ w = w' := by
  subst hN
  exact Hash.part_any s n w hs
theorem filter_get {p : Mg → Bool} {ms : List Mg} {i : Nat} {m : Mg} (h : ms[i]? = some m) (hp : p m = true) : (ms.filter p)[((ms.take i).filter p).length]? = some m := by
  obtain ⟨hi, he⟩ := List.getElem?_eq_some_iff.1 h
  have hd : ms = ms.take i ++ m :: ms.drop (i + 1) := by
    rw [← he, List.getElem_cons_drop, List.take_append_drop]
  have h2 : ms.filter p = (ms.take i).filter p ++ m :: (ms.drop (i + 1)).filter p := by
    conv => lhs; rw [hd]
    rw [List.filter_append, List.filter_cons, if_pos hp]
  rw [h2, List.getElem?_append_right (Nat.le_refl _), Nat.sub_self]
  rfl
theorem m_yes_n {w : World} {A B E F : Option Addr} {c d ec ed : Nat} (kind tick t q T win cap : Int) (ty key id : ByteArray) (vs : List VV) (n : Nat) (hn : vs.length = n) (h : VS w A c vs) (g : VS w B d vs) :
    Calls Try.prog 49 #[.agg #[.int .i64 kind, .int .i64 tick, .string ty, .string key, .int .i64 t, .int .i64 q, .slice A n c, .int .i64 T, .string id, .slice E 0 ec, .int .i64 win, .int .i64 cap],
      .agg #[.int .i64 kind, .int .i64 tick, .string ty, .string key, .int .i64 t, .int .i64 q, .slice B n d, .int .i64 T, .string id, .slice F 0 ed, .int .i64 win, .int .i64 cap]] w fun e w' => e = .returned (.bool true) ∧ Below w.heap.size w w' := by
  subst hn
  exact m_yes kind tick t q T win cap ty key id A B E F c d ec ed w vs h g
theorem ForI.at {w0 w : World} {v : Value} {ob : Option Nat} {xs ys : List Mg} (h : ForI w0 w v ob xs ys) {j : Nat} {a : Mg} (ha : xs[j]? = some a) :
    ∃ bA bc g o cap, v = .slice (some ⟨g, o, none⟩) ys.length cap ∧ ys.length ≤ cap ∧ cap ≤ 9223372036854775807 ∧ g < w.heap.size ∧ j < ys.length ∧ VS w bA bc a.vs ∧ ∀ n u, ({ a with vA := bA, vc := bc, eA := none, en := 0, ec := 0 } : Mg).cells[n]? = some u → w.cell? ⟨g, o + j * 12 + n, none⟩ = some u := by
  have hj : j < ys.length := by rw [h.ln]; exact (List.getElem?_eq_some_iff.1 ha).1
  obtain ⟨b, hb⟩ : ∃ b, ys[j]? = some b := ⟨_, List.getElem?_eq_getElem hj⟩
  have ht := h.tw j a b ha hb
  have he := ht.eq
  obtain ⟨yob, hv⟩ := ht.vl
  obtain ⟨g, o, cap, e, hob, h1, h2, hc, _⟩ := h.seg.shape (by omega)
  have hvs : b.vs = a.vs := by rw [he]
  refine ⟨b.vA, b.vc, g, o, cap, e, h1, by unfold maxLen at h2; omega, h.seg.lt g hob, hj, by rw [← hvs]; exact VS.of_seg hv rfl, fun n u hu => ?_⟩
  rw [← he] at hu
  rw [Nat.add_assoc]
  exact hc _ _ (mcells_get ys j b n u hb hu)
set_option maxHeartbeats 40000000 in
theorem goes_law (HT : TwinAny) (A : Option Addr) (n c : Nat) (f : Nat → MI) (hn : n ≤ c) (hc : c ≤ 9223372036854775807) (parts : Int) (hp : -9223372036854775808 ≤ parts ∧ parts ≤ 9223372036854775807) (w : World) (h : MLies w w.heap.size A n f) :
    Calls Try.prog 9 #[.slice A n c, .int .i64 parts] w fun e w' => e = .returned (.bool true) ∧ Below w.heap.size w w' := by
  have H := Lib.hid h
  have HTW := Lib.hid HT
  clear h HT
  obtain ⟨N, hN⟩ : ∃ N, Hash.partsV parts = N := ⟨_, rfl⟩
  have hpos := Hash.partsV_pos parts
  rw [hN] at hpos
  have HN := Lib.hid hN
  clear hN
  obtain ⟨hN1, hN2⟩ := hpos
  obtain ⟨hp1, hp2⟩ := hp
  have hmk := run_make_cell (P := Try.prog) 22 3 (.int .i64 0) (.int .i64 0) 8 Try.underlying22 int_info rfl .i64 .i64 N (by omega) (by omega)
  go_enter Try.func9, Try.ntmps9
  go_wp2_with fail
  refine (near_any A n c f _ hn hc H.out).mono ?_
  rintro e w1 ⟨v, ob, ms, rfl, hNr, hl⟩
  have hL : Lst w1 v ms := ⟨⟨ob, hNr.seg⟩, fun i m hm => (hNr.ok i m hm).1⟩
  obtain ⟨m, hm⟩ : ∃ m, ms.length = m := ⟨_, rfl⟩
  have hm20 : m ≤ 20 := by omega
  have hf := hNr.seg.form
  obtain ⟨vA, vcap, rfl, hv1, hv2⟩ := hf
  rw [hm] at hL hv1 ⊢
  have HM := Lib.hid hm
  have HL := Lib.hid hL
  have HB1 := Lib.hid hNr.be
  have hv3 : vcap ≤ 9223372036854775807 := by unfold maxLen at hv2; omega
  clear hNr hl hm hL hv2 H
  go_upto_region 2 with fail
  have hif : (if (64 : Int) < (if parts < 1 then (1 : Int) else parts) then (64 : Int) else (if parts < 1 then (1 : Int) else parts)) = (N : Int) := by
    have := HN.out
    unfold Hash.partsV at this
    split <;> split <;> omega
  rw [hif]
  clear hif
  generalize (if parts < 1 then (1 : Int) else parts) = px
  have HG0 : Hid (Gs w (w1.alloc (.cells (madeCells #[.int .i64 0] N) 3)) (.slice vA m vcap) ms w1.heap.size N (fun p => cnt ms N 0 p)) :=
    ⟨HB1.out.alloc HB1.out.size _, by have := HL.out.call ((Below.refl _ w1).alloc (Nat.le_refl _) (.cells (madeCells #[.int .i64 0] N) 3)); exact this, (Tab.made w1 (.int .i64 0) N 3).congr (fun i hi => by simp [cnt]), HB1.out.size⟩
  clear HL HB1
  go_upto_region 3 with fail
  generalize w1.alloc (.cells (madeCells #[.int .i64 0] N) 3) = W0 at HG0 ⊢
  generalize w1.heap.size = m2 at HG0 ⊢
  clear hmk
  go_wp2
  go_loopw [8, 9, 10, 11] (fun i s9 s10 s11 wr => ∃ k : Nat, k ≤ m ∧ i = .int .i64 k ∧ Hid (Gs w wr (.slice vA m vcap) ms m2 N (fun p => cnt ms N k p))) (fun i _ _ _ _ => m - (intOf i).toNat)
  case atStart => exact ⟨0, by omega, rfl, HG0⟩
  case round =>
    clear HG0
    obtain ⟨k, hkm, rfl, hG⟩ := hrel
    have HG := Lib.hid hG.out
    clear hG
    by_cases hlt : k < m
    · have hki : (k : Int) < (m : Int) := by omega
      obtain ⟨x, hx⟩ : ∃ x, ms[k]? = some x := ⟨_, List.getElem?_eq_getElem (by rw [HM.out]; exact hlt)⟩
      have HX := Lib.hid hx
      obtain ⟨g, o, cap', hv', _, _, hg, hcl⟩ := HG.out.lst.at hx
      rw [HM.out] at hv'
      injection hv' with e1 _ e3
      subst e1 e3
      have hok := HG.out.lst.ok k x hx
      obtain ⟨mk, mt, mty, mkey, mtm, mq, mA, mc, mvs, mT, mid, meA, men, mec, mw, mcap⟩ := x
      obtain ⟨hq, hT2, hid, ⟨he1, he2, he3, he4, he5⟩, hsz, hkb, hvs⟩ := hok
      dsimp only at hq hT2 hid he1 he2 he3 he4 he5 hsz hkb hvs
      subst hq hid he1 he2 he3 he4 he5
      generalize hvn : mvs.length = vn at hcl
      have hcells : ∀ X, Below wr.heap.size wr X → X.cell? ⟨g, o + k * 12, none⟩ = some (.int .i64 mk) ∧ X.cell? ⟨g, o + k * 12 + 1, none⟩ = some (.int .i64 mt) ∧ X.cell? ⟨g, o + k * 12 + 2, none⟩ = some (.string mty) ∧ X.cell? ⟨g, o + k * 12 + 3, none⟩ = some (.string mkey) ∧ X.cell? ⟨g, o + k * 12 + 4, none⟩ = some (.int .i64 mtm) ∧ X.cell? ⟨g, o + k * 12 + 5, none⟩ = some (.int .i64 0) ∧ X.cell? ⟨g, o + k * 12 + 6, none⟩ = some (.slice mA mvs.length mc) ∧ X.cell? ⟨g, o + k * 12 + 7, none⟩ = some (.int .i64 mT) ∧ X.cell? ⟨g, o + k * 12 + 8, none⟩ = some (.string { data := #[] }) ∧ X.cell? ⟨g, o + k * 12 + 9, none⟩ = some (.slice none 0 0) ∧ X.cell? ⟨g, o + k * 12 + 10, none⟩ = some (.int .i64 0) ∧ X.cell? ⟨g, o + k * 12 + 11, none⟩ = some (.int .i64 0) := fun X hX =>
        have hh := fun j u (hj : (⟨mk, mt, mty, mkey, mtm, 0, mA, mc, mvs, mT, { data := #[] }, none, 0, 0, 0, 0⟩ : Mg).cells[j]? = some u) => (hX.cell (p := ⟨g, o + k * 12 + j, none⟩) hg).trans (hcl j u hj)
        ⟨hh 0 _ rfl, hh 1 _ rfl, hh 2 _ rfl, hh 3 _ rfl, hh 4 _ rfl, hh 5 _ rfl, hh 6 _ rfl, hh 7 _ rfl, hh 8 _ rfl, hh 9 _ rfl, hh 10 _ rfl, hh 11 _ rfl⟩
      rw [hvn] at hcells
      have HC := Lib.hid hcells
      obtain ⟨c0, c1, c2, c3, c4, c5, c6, c7, c8, c9, c10, c11⟩ := hcells wr (Below.refl _ _)
      clear hcells hcl hx hvs hvn
      by_cases hk1 : mk = 1
      · subst hk1
        go_wp2_with fail
        refine (targets_ev mt mtm 0 mT 0 0 mty mkey { data := #[] } mA none vn mc 0 0 _ parts (by omega)).mono ?_
        rintro e w2 ⟨b, rfl, hr, hb, hbge⟩
        rw [HN.out] at hr
        have HB2 := Lib.hid hb
        have hbm : m2 < b := Nat.lt_of_lt_of_le HG.out.tab.lt hbge
        have hbr := hr.lt
        have HR := Lib.hid hr
        obtain ⟨d0, d1, d2, d3, d4, d5, d6, d7, d8, d9, d10, d11⟩ := HC.out w2 hb
        clear hr hb c0 c1 c2 c3 c4 c5 c6 c7 c8 c9 c10 c11
        have t0 := HR.out.is 0 (v := .int .i64 (Hash.partK mkey.data.toList N : Nat)) rfl
        go_upto_region 8 with fail
        have hgw : g < w2.heap.size := Nat.lt_of_lt_of_le hg HB2.out.size
        have HS0 : Hid (w2.drew.cell? ⟨g, o + k * 12, none⟩ = some (.int .i64 1) ∧ w2.drew.cell? ⟨g, o + k * 12 + 1, none⟩ = some (.int .i64 mt) ∧ w2.drew.cell? ⟨g, o + k * 12 + 2, none⟩ = some (.string mty) ∧ w2.drew.cell? ⟨g, o + k * 12 + 3, none⟩ = some (.string mkey) ∧ w2.drew.cell? ⟨g, o + k * 12 + 4, none⟩ = some (.int .i64 mtm) ∧ w2.drew.cell? ⟨g, o + k * 12 + 5, none⟩ = some (.int .i64 0) ∧ w2.drew.cell? ⟨g, o + k * 12 + 6, none⟩ = some (.slice mA vn mc) ∧ w2.drew.cell? ⟨g, o + k * 12 + 7, none⟩ = some (.int .i64 mT) ∧ w2.drew.cell? ⟨g, o + k * 12 + 8, none⟩ = some (.string { data := #[] }) ∧ w2.drew.cell? ⟨g, o + k * 12 + 9, none⟩ = some (.slice none 0 0) ∧ w2.drew.cell? ⟨g, o + k * 12 + 10, none⟩ = some (.int .i64 0) ∧ w2.drew.cell? ⟨g, o + k * 12 + 11, none⟩ = some (.int .i64 0) ∧ w2.drew.cell? ⟨b, 0, none⟩ = some (.int .i64 (Hash.partK mkey.data.toList N : Nat))) := ⟨d0, d1, d2, d3, d4, d5, d6, d7, d8, d9, d10, d11, t0⟩
        clear d0 d1 d2 d3 d4 d5 d6 d7 d8 d9 d10 d11 t0
        refine wp_region_noPanic ?_
        refine wp_region_held_drew (S := (fun X => X.cell? ⟨g, o + k * 12, none⟩ = some (.int .i64 1) ∧ X.cell? ⟨g, o + k * 12 + 1, none⟩ = some (.int .i64 mt) ∧ X.cell? ⟨g, o + k * 12 + 2, none⟩ = some (.string mty) ∧ X.cell? ⟨g, o + k * 12 + 3, none⟩ = some (.string mkey) ∧ X.cell? ⟨g, o + k * 12 + 4, none⟩ = some (.int .i64 mtm) ∧ X.cell? ⟨g, o + k * 12 + 5, none⟩ = some (.int .i64 0) ∧ X.cell? ⟨g, o + k * 12 + 6, none⟩ = some (.slice mA vn mc) ∧ X.cell? ⟨g, o + k * 12 + 7, none⟩ = some (.int .i64 mT) ∧ X.cell? ⟨g, o + k * 12 + 8, none⟩ = some (.string { data := #[] }) ∧ X.cell? ⟨g, o + k * 12 + 9, none⟩ = some (.slice none 0 0) ∧ X.cell? ⟨g, o + k * 12 + 10, none⟩ = some (.int .i64 0) ∧ X.cell? ⟨g, o + k * 12 + 11, none⟩ = some (.int .i64 0) ∧ X.cell? ⟨b, 0, none⟩ = some (.int .i64 (Hash.partK mkey.data.toList N : Nat)))) (by kernel_rfl) ?_ (fun hHeld => ?_)
        · exact HS0.out
        refine take_at 0 41 _ (v := ?v0) rfl rfl (by kernel_rfl) (by kernel_rfl) (by kernel_rfl) (fun _ _ _ h => h) (Or.inl ⟨by rfl, ?hy0⟩) (by assumption) ?rest0
        case hy0 =>
          intro wX hSw
          try dsimp only at hSw
          go_simp
          first
          | done
          | (with_reducible rfl)
        try simp only [Act.put, List.setIfInBounds_toArray, List.set_cons_zero, List.set_cons_succ]
        refine take_at 1 42 _ (v := ?v1) rfl rfl (by kernel_rfl) (by kernel_rfl) (by kernel_rfl) (fun _ _ _ h => h) (Or.inl ⟨by rfl, ?hy1⟩) (by assumption) ?rest1
        case hy1 =>
          intro wX hSw
          try dsimp only at hSw
          go_simp
          first
          | done
          | (with_reducible rfl)
        try simp only [Act.put, List.setIfInBounds_toArray, List.set_cons_zero, List.set_cons_succ]
        refine take_at 2 43 _ (v := ?v2) rfl rfl (by kernel_rfl) (by kernel_rfl) (by kernel_rfl) (fun _ _ _ h => h) (Or.inl ⟨by rfl, ?hy2⟩) (by assumption) ?rest2
        case hy2 =>
          intro wX hSw
          try dsimp only at hSw
          go_simp
          first
          | done
          | (with_reducible rfl)
        try simp only [Act.put, List.setIfInBounds_toArray, List.set_cons_zero, List.set_cons_succ]
        refine take_at 3 44 _ (v := ?v3) rfl rfl (by kernel_rfl) (by kernel_rfl) (by kernel_rfl) (fun _ _ _ h => h) (Or.inl ⟨by rfl, ?hy3⟩) (by assumption) ?rest3
        case hy3 =>
          intro wX hSw
          try dsimp only at hSw
          go_simp
          first
          | done
          | (with_reducible rfl)
        try simp only [Act.put, List.setIfInBounds_toArray, List.set_cons_zero, List.set_cons_succ]
        refine take_at 5 46 _ (v := ?v5) rfl rfl (by kernel_rfl) (by kernel_rfl) (by kernel_rfl) (fun _ _ _ h => h) (Or.inl ⟨by rfl, ?hy5⟩) (by assumption) ?rest5
        case hy5 =>
          intro wX hSw
          try dsimp only at hSw
          go_simp
          first
          | done
          | (with_reducible rfl)
        try simp only [Act.put, List.setIfInBounds_toArray, List.set_cons_zero, List.set_cons_succ]
        refine wpAnyH_ready (rs := [4]) (by kernel_rfl) (by simp) ?_
        refine AllReadyH.cons rfl (fun K hK => ?_) AllReadyH.nil
        go_simp
        go_at_call 52
        (with_reducible refine (all_any 1 mt mtm 0 mT 0 0 mty mkey { data := #[] } mA none vn mc 0 0 _ false rfl).mono ?_)
        rintro e w3 ⟨rfl, hb3⟩
        have hb23 : Below wr.heap.size wr w3 := HB2.out.trans (Below.mono (below_drewN (Below.refl _ w2) 1 |>.trans hb3) HB2.out.size)
        have HB3 := Lib.hid hb23
        have HR3 := Lib.hid (Row.below (Row.drew HR.out) hb3 hbr)
        have u0 := HR3.out.is 0 (v := .int .i64 (Hash.partK mkey.data.toList N : Nat)) rfl
        obtain ⟨k0, k1, k2, k3, k4, k5, k6, k7, k8, k9, k10, k11⟩ := HC.out w3 hb23
        have HS3 : Hid (w3.cell? ⟨g, o + k * 12, none⟩ = some (.int .i64 1) ∧ w3.cell? ⟨g, o + k * 12 + 1, none⟩ = some (.int .i64 mt) ∧ w3.cell? ⟨g, o + k * 12 + 2, none⟩ = some (.string mty) ∧ w3.cell? ⟨g, o + k * 12 + 3, none⟩ = some (.string mkey) ∧ w3.cell? ⟨g, o + k * 12 + 4, none⟩ = some (.int .i64 mtm) ∧ w3.cell? ⟨g, o + k * 12 + 5, none⟩ = some (.int .i64 0) ∧ w3.cell? ⟨g, o + k * 12 + 6, none⟩ = some (.slice mA vn mc) ∧ w3.cell? ⟨g, o + k * 12 + 7, none⟩ = some (.int .i64 mT) ∧ w3.cell? ⟨g, o + k * 12 + 8, none⟩ = some (.string { data := #[] }) ∧ w3.cell? ⟨g, o + k * 12 + 9, none⟩ = some (.slice none 0 0) ∧ w3.cell? ⟨g, o + k * 12 + 10, none⟩ = some (.int .i64 0) ∧ w3.cell? ⟨g, o + k * 12 + 11, none⟩ = some (.int .i64 0) ∧ w3.cell? ⟨b, 0, none⟩ = some (.int .i64 (Hash.partK mkey.data.toList N : Nat))) := ⟨k0, k1, k2, k3, k4, k5, k6, k7, k8, k9, k10, k11, u0⟩
        clear hb3 hb23 k0 k1 k2 k3 k4 k5 k6 k7 k8 k9 k10 k11 u0
        try go_wp2_with fail
        refine hK.out _ _ ?_ (fun hHeld => ?_)
        · exact HS3.out
        clear hK K
        try simp only [Act.put, List.setIfInBounds_toArray, List.set_cons_zero, List.set_cons_succ]
        refine take_at 6 47 _ (v := ?v6) rfl rfl (by kernel_rfl) (by kernel_rfl) (by kernel_rfl) (fun _ _ _ h => h) (Or.inl ⟨by rfl, ?hy6⟩) (by assumption) ?rest6
        case hy6 =>
          intro wX hSw
          try dsimp only at hSw
          go_simp
          first
          | done
          | (with_reducible rfl)
        try simp only [Act.put, List.setIfInBounds_toArray, List.set_cons_zero, List.set_cons_succ]
        refine take_at 7 48 _ (v := ?v7) rfl rfl (by kernel_rfl) (by kernel_rfl) (by kernel_rfl) (fun _ _ _ h => h) (Or.inl ⟨by rfl, ?hy7⟩) (by assumption) ?rest7
        case hy7 =>
          intro wX hSw
          try dsimp only at hSw
          go_simp
          first
          | done
          | (with_reducible rfl)
        try simp only [Act.put, List.setIfInBounds_toArray, List.set_cons_zero, List.set_cons_succ]
        refine take_at 8 49 _ (v := ?v8) rfl rfl (by kernel_rfl) (by kernel_rfl) (by kernel_rfl) (fun _ _ _ h => h) (Or.inl ⟨by rfl, ?hy8⟩) (by assumption) ?rest8
        case hy8 =>
          intro wX hSw
          try dsimp only at hSw
          go_simp
          first
          | done
          | (with_reducible rfl)
        try simp only [Act.put, List.setIfInBounds_toArray, List.set_cons_zero, List.set_cons_succ]
        refine take_at 9 50 _ (v := ?v9) rfl rfl (by kernel_rfl) (by kernel_rfl) (by kernel_rfl) (fun _ _ _ h => h) (Or.inl ⟨by rfl, ?hy9⟩) (by assumption) ?rest9
        case hy9 =>
          intro wX hSw
          try dsimp only at hSw
          go_simp
          first
          | done
          | (with_reducible rfl)
        try simp only [Act.put, List.setIfInBounds_toArray, List.set_cons_zero, List.set_cons_succ]
        refine take_at 10 51 _ (v := ?v10) rfl rfl (by kernel_rfl) (by kernel_rfl) (by kernel_rfl) (fun _ _ _ h => h) (Or.inl ⟨by rfl, ?hy10⟩) (by assumption) ?rest10
        case hy10 =>
          intro wX hSw
          try dsimp only at hSw
          go_simp
          first
          | done
          | (with_reducible rfl)
        try simp only [Act.put, List.setIfInBounds_toArray, List.set_cons_zero, List.set_cons_succ]
        refine take_at 11 52 _ (v := ?v11) rfl rfl (by kernel_rfl) (by kernel_rfl) (by kernel_rfl) (fun _ _ _ h => h) (Or.inl ⟨by rfl, ?hy11⟩) (by assumption) ?rest11
        case hy11 =>
          intro wX hSw
          try dsimp only at hSw
          go_simp
          first
          | done
          | (with_reducible rfl)
        try simp only [Act.put, List.setIfInBounds_toArray, List.set_cons_zero, List.set_cons_succ]
        refine take_at 12 53 _ (v := ?v12) rfl rfl (by kernel_rfl) (by kernel_rfl) (by kernel_rfl) (fun _ _ _ h => h) (Or.inl ⟨by rfl, ?hy12⟩) (by assumption) ?rest12
        case hy12 =>
          intro wX hSw
          try dsimp only at hSw
          go_simp
          first
          | done
          | (with_reducible rfl)
        try simp only [Act.put, List.setIfInBounds_toArray, List.set_cons_zero, List.set_cons_succ]
        refine take_at 13 54 _ (v := ?v13) rfl rfl (by kernel_rfl) (by kernel_rfl) (by kernel_rfl) (fun _ _ _ h => h) (Or.inl ⟨by rfl, ?hy13⟩) (by assumption) ?rest13
        case hy13 =>
          intro wX hSw
          try dsimp only at hSw
          go_simp
          first
          | done
          | (with_reducible rfl)
        try simp only [Act.put, List.setIfInBounds_toArray, List.set_cons_zero, List.set_cons_succ]
        refine take_at 14 55 _ (v := ?v14) rfl rfl (by kernel_rfl) (by kernel_rfl) (by kernel_rfl) (fun _ _ _ h => h) (Or.inl ⟨by rfl, ?hy14⟩) (by assumption) ?rest14
        case hy14 =>
          intro wX hSw
          try dsimp only at hSw
          go_simp
          first
          | done
          | (with_reducible rfl)
        try simp only [Act.put, List.setIfInBounds_toArray, List.set_cons_zero, List.set_cons_succ]
        refine take_at 15 56 _ (v := ?v15) rfl rfl (by kernel_rfl) (by kernel_rfl) (by kernel_rfl) (fun _ _ _ h => h) (Or.inl ⟨by rfl, ?hy15⟩) (by assumption) ?rest15
        case hy15 =>
          intro wX hSw
          try dsimp only at hSw
          go_simp
          first
          | done
          | (with_reducible rfl)
        try simp only [Act.put, List.setIfInBounds_toArray, List.set_cons_zero, List.set_cons_succ]
        refine take_at 16 57 _ (v := ?v16) rfl rfl (by kernel_rfl) (by kernel_rfl) (by kernel_rfl) (fun _ _ _ h => h) (Or.inl ⟨by rfl, ?hy16⟩) (by assumption) ?rest16
        case hy16 =>
          intro wX hSw
          try dsimp only at hSw
          go_simp
          first
          | done
          | (with_reducible rfl)
        try simp only [Act.put, List.setIfInBounds_toArray, List.set_cons_zero, List.set_cons_succ]
        refine take_at 17 58 _ (v := ?v17) rfl rfl (by kernel_rfl) (by kernel_rfl) (by kernel_rfl) (fun _ _ _ h => h) (Or.inl ⟨by rfl, ?hy17⟩) (by assumption) ?rest17
        case hy17 =>
          intro wX hSw
          try dsimp only at hSw
          go_simp
          first
          | done
          | (with_reducible rfl)
        try simp only [Act.put, List.setIfInBounds_toArray, List.set_cons_zero, List.set_cons_succ]
        refine take_at 18 59 _ (v := ?v18) rfl rfl (by kernel_rfl) (by kernel_rfl) (by kernel_rfl) (fun _ _ _ h => h) (Or.inl ⟨by rfl, ?hy18⟩) (by assumption) ?rest18
        case hy18 =>
          intro wX hSw
          try dsimp only at hSw
          go_simp
          first
          | done
          | (with_reducible rfl)
        try simp only [Act.put, List.setIfInBounds_toArray, List.set_cons_zero, List.set_cons_succ]
        refine take_at 19 60 _ (v := ?v19) rfl rfl (by kernel_rfl) (by kernel_rfl) (by kernel_rfl) (fun _ _ _ h => h) (Or.inl ⟨by rfl, ?hy19⟩) (by assumption) ?rest19
        case hy19 =>
          intro wX hSw
          try dsimp only at hSw
          go_simp
          first
          | done
          | (with_reducible rfl)
        try simp only [Act.put, List.setIfInBounds_toArray, List.set_cons_zero, List.set_cons_succ]
        refine take_at 20 61 _ (v := ?v20) rfl rfl (by kernel_rfl) (by kernel_rfl) (by kernel_rfl) (fun _ _ _ h => h) (Or.inl ⟨by rfl, ?hy20⟩) (by assumption) ?rest20
        case hy20 =>
          intro wX hSw
          try dsimp only at hSw
          go_simp
          first
          | done
          | (with_reducible rfl)
        try simp only [Act.put, List.setIfInBounds_toArray, List.set_cons_zero, List.set_cons_succ]
        refine take_at 21 62 _ (v := ?v21) rfl rfl (by kernel_rfl) (by kernel_rfl) (by kernel_rfl) (fun _ _ _ h => h) (Or.inl ⟨by rfl, ?hy21⟩) (by assumption) ?rest21
        case hy21 =>
          intro wX hSw
          try dsimp only at hSw
          go_simp
          first
          | done
          | (with_reducible rfl)
        try simp only [Act.put, List.setIfInBounds_toArray, List.set_cons_zero, List.set_cons_succ]
        refine take_at 22 63 _ (v := ?v22) rfl rfl (by kernel_rfl) (by kernel_rfl) (by kernel_rfl) (fun _ _ _ h => h) (Or.inl ⟨by rfl, ?hy22⟩) (by assumption) ?rest22
        case hy22 =>
          intro wX hSw
          try dsimp only at hSw
          go_simp
          first
          | done
          | (with_reducible rfl)
        try simp only [Act.put, List.setIfInBounds_toArray, List.set_cons_zero, List.set_cons_succ]
        refine take_at 23 64 _ (v := ?v23) rfl rfl (by kernel_rfl) (by kernel_rfl) (by kernel_rfl) (fun _ _ _ h => h) (Or.inl ⟨by rfl, ?hy23⟩) (by assumption) ?rest23
        case hy23 =>
          intro wX hSw
          try dsimp only at hSw
          go_simp
          first
          | done
          | (with_reducible rfl)
        try simp only [Act.put, List.setIfInBounds_toArray, List.set_cons_zero, List.set_cons_succ]
        refine wpAnyH_ready (rs := [24]) (by kernel_rfl) (by simp) ?_
        refine AllReadyH.cons rfl (fun K hK => ?_) AllReadyH.nil
        go_simp
        go_at_call 53
        (with_reducible refine (part_n mkey parts N _ HN.out (by omega)).mono ?_)
        rintro e w' ⟨rfl, rfl⟩
        try go_wp2_with fail
        refine hK.out _ _ ?_ (fun hHeld => ?_)
        · exact HS3.out
        clear hK K
        try simp only [Act.put, List.setIfInBounds_toArray, List.set_cons_zero, List.set_cons_succ]
        refine take_at 25 66 _ (v := ?v25) rfl rfl (by kernel_rfl) (by kernel_rfl) (by kernel_rfl) (fun _ _ _ h => h) (Or.inl ⟨by rfl, ?hy25⟩) (by assumption) ?rest25
        case hy25 =>
          intro wX hSw
          try dsimp only at hSw
          go_simp
          first
          | done
          | (with_reducible rfl)
        try simp only [Act.put, List.setIfInBounds_toArray, List.set_cons_zero, List.set_cons_succ]
        refine take_at 26 67 _ (v := ?v26) rfl rfl (by kernel_rfl) (by kernel_rfl) (by kernel_rfl) (fun _ _ _ h => h) (Or.inl ⟨by rfl, ?hy26⟩) (by assumption) ?rest26
        case hy26 =>
          intro wX hSw
          try dsimp only at hSw
          go_simp
          first
          | done
          | (with_reducible rfl)
        try simp only [Act.put, List.setIfInBounds_toArray, List.set_cons_zero, List.set_cons_succ]
        refine take_at 27 68 _ (v := ?v27) rfl rfl (by kernel_rfl) (by kernel_rfl) (by kernel_rfl) (fun _ _ _ h => h) (Or.inl ⟨by rfl, ?hy27⟩) (by assumption) ?rest27
        case hy27 =>
          intro wX hSw
          try dsimp only at hSw
          go_simp
          first
          | done
          | (with_reducible rfl)
        try simp only [Act.put, List.setIfInBounds_toArray, List.set_cons_zero, List.set_cons_succ]
        refine take_at 28 69 _ (v := ?v28) rfl rfl (by kernel_rfl) (by kernel_rfl) (by kernel_rfl) (fun _ _ _ h => h) (Or.inl ⟨by rfl, ?hy28⟩) (by assumption) ?rest28
        case hy28 =>
          intro wX hSw
          try dsimp only at hSw
          go_simp
          first
          | done
          | (with_reducible rfl)
        try simp only [Act.put, List.setIfInBounds_toArray, List.set_cons_zero, List.set_cons_succ]
        refine take_at 29 70 _ (v := ?v29) rfl rfl (by kernel_rfl) (by kernel_rfl) (by kernel_rfl) (fun _ _ _ h => h) (Or.inl ⟨by rfl, ?hy29⟩) (by assumption) ?rest29
        case hy29 =>
          intro wX hSw
          try dsimp only at hSw
          go_simp
          first
          | done
          | (with_reducible rfl)
        try simp only [Act.put, List.setIfInBounds_toArray, List.set_cons_zero, List.set_cons_succ]
        refine take_at 30 71 _ (v := ?v30) rfl rfl (by kernel_rfl) (by kernel_rfl) (by kernel_rfl) (fun _ _ _ h => h) (Or.inl ⟨by rfl, ?hy30⟩) (by assumption) ?rest30
        case hy30 =>
          intro wX hSw
          try dsimp only at hSw
          go_simp
          first
          | done
          | (with_reducible rfl)
        try simp only [Act.put, List.setIfInBounds_toArray, List.set_cons_zero, List.set_cons_succ]
        refine take_at 31 72 _ (v := ?v31) rfl rfl (by kernel_rfl) (by kernel_rfl) (by kernel_rfl) (fun _ _ _ h => h) (Or.inl ⟨by rfl, ?hy31⟩) (by assumption) ?rest31
        case hy31 =>
          intro wX hSw
          try dsimp only at hSw
          go_simp
          first
          | done
          | (with_reducible rfl)
        try simp only [Act.put, List.setIfInBounds_toArray, List.set_cons_zero, List.set_cons_succ]
        refine take_at 32 73 _ (v := ?v32) rfl rfl (by kernel_rfl) (by kernel_rfl) (by kernel_rfl) (fun _ _ _ h => h) (Or.inl ⟨by rfl, ?hy32⟩) (by assumption) ?rest32
        case hy32 =>
          intro wX hSw
          try dsimp only at hSw
          go_simp
          first
          | done
          | (with_reducible rfl)
        try simp only [Act.put, List.setIfInBounds_toArray, List.set_cons_zero, List.set_cons_succ]
        refine take_at 33 74 _ (v := undef) rfl rfl (by kernel_rfl) (by kernel_rfl) (by kernel_rfl) (fun _ _ _ h => h) (Or.inr ⟨by rfl, rfl⟩) (by assumption) ?_
        try simp only [Act.put, List.setIfInBounds_toArray, List.set_cons_zero, List.set_cons_succ]
        refine take_at 34 75 _ (v := undef) rfl rfl (by kernel_rfl) (by kernel_rfl) (by kernel_rfl) (fun _ _ _ h => h) (Or.inr ⟨by rfl, rfl⟩) (by assumption) ?_
        try simp only [Act.put, List.setIfInBounds_toArray, List.set_cons_zero, List.set_cons_succ]
        refine take_at 35 76 _ (v := undef) rfl rfl (by kernel_rfl) (by kernel_rfl) (by kernel_rfl) (fun _ _ _ h => h) (Or.inr ⟨by rfl, rfl⟩) (by assumption) ?_
        try simp only [Act.put, List.setIfInBounds_toArray, List.set_cons_zero, List.set_cons_succ]
        refine take_at 36 77 _ (v := undef) rfl rfl (by kernel_rfl) (by kernel_rfl) (by kernel_rfl) (fun _ _ _ h => h) (Or.inr ⟨by rfl, rfl⟩) (by assumption) ?_
        try simp only [Act.put, List.setIfInBounds_toArray, List.set_cons_zero, List.set_cons_succ]
        refine take_at 37 78 _ (v := ?v37) rfl rfl (by kernel_rfl) (by kernel_rfl) (by kernel_rfl) (fun _ _ _ h => h) (Or.inl ⟨by rfl, ?hy37⟩) (by assumption) ?rest37
        case hy37 =>
          intro wX hSw
          try dsimp only at hSw
          go_simp
          first
          | done
          | (with_reducible rfl)
        try simp only [Act.put, List.setIfInBounds_toArray, List.set_cons_zero, List.set_cons_succ]
        refine take_at 38 79 _ (v := ?v38) rfl rfl (by kernel_rfl) (by kernel_rfl) (by kernel_rfl) (fun _ _ _ h => h) (Or.inl ⟨by rfl, ?hy38⟩) (by assumption) ?rest38
        case hy38 =>
          intro wX hSw
          try dsimp only at hSw
          go_simp
          first
          | done
          | (with_reducible rfl)
        try simp only [Act.put, List.setIfInBounds_toArray, List.set_cons_zero, List.set_cons_succ]
        refine wpAnyH_done (by kernel_rfl) ?_ _
        refine NoPanic.normal ?_
        have HG3 := Lib.hid (HG.out.call HB3.out)
        have hpl := Hash.partK_lt mkey.data.toList N hN1
        obtain ⟨p0, hp0⟩ : ∃ p0, Hash.partK mkey.data.toList N = p0 := ⟨_, rfl⟩
        have HP0 := Lib.hid hp0
        rw [hp0] at HR3 hpl
        clear HS0 HS3 HR HB2 HB3 HG hbr hgw hp0 HC
        have hck := cnt_le ms N k p0
        have hkk : k ≤ 20 := by omega
        have HRow : Hid (Row w3 b 3 #[.int .i64 p0]) := HR3
        clear HR3
        go_wp2
        go_loopw [11] (fun v11 wr2 => ∃ j : Nat, j ≤ 1 ∧ v11 = .int .i64 j ∧ Hid (Gs w wr2 (.slice (some ⟨g, o, none⟩) m vcap) ms m2 N (fun p => cnt ms N k p + if j = 1 ∧ p = p0 then 1 else 0) ∧ Row wr2 b 3 #[.int .i64 p0])) (fun v11 _ => 1 - (intOf v11).toNat)
        case atStart => exact ⟨0, by omega, rfl, Lib.hid ⟨HG3.out.congr (fun i hi => by simp), HRow.out⟩⟩
        case round =>
          clear HG3 HRow
          obtain ⟨j, hj, rfl, hJ⟩ := hrel
          have HJ := Lib.hid hJ.out
          clear hJ
          by_cases hj1 : j = 0
          · subst hj1
            have t0 := HJ.out.2.is 0 (v := .int .i64 (p0 : Int)) rfl
            have a0 := HJ.out.1.tab.cell hpl
            have af := HJ.out.1.tab.free p0
            have al := HJ.out.1.tab.lt
            simp only [Nat.reduceEqDiff, false_and, if_false, Int.add_zero] at a0
            have hpi : (p0 : Int) < (N : Int) := by omega
            obtain ⟨ck, hck2⟩ : ∃ ck, cnt ms N k p0 = ck := ⟨_, rfl⟩
            rw [hck2] at a0 hck
            have HCK := Lib.hid hck2
            clear hck2
            obtain ⟨hc0, hc1⟩ := hck
            go_wp2
            have HF := Lib.hid (And.intro (HJ.out.1.put p0 (ck + 1) (g := fun p => cnt ms N k p + if (0 + 1 : Nat) = 1 ∧ p = p0 then 1 else 0) (fun i hi hne => by simp [hne]) (fun _ => by simp [HCK.out])) (HJ.out.2.past (p := ⟨m2, p0, none⟩) (show b ≠ m2 by omega) (.int .i64 (ck + 1))))
            go_roundw
            case rel => exact ⟨1, by omega, rfl, HF⟩
            case measure => simp [intOf]
          · obtain rfl : j = 1 := by omega
            have HG4 := HJ.out.1
            have hcs := fun p => cnt_succ ms N k p _ HX.out
            have HG5 : Hid (Gs w wr (.slice (some ⟨g, o, none⟩) m vcap) ms m2 N (fun p => cnt ms N (k + 1) p)) := HG4.congr (fun i hi => by
              rw [hcs i]
              have : goes ⟨1, mt, mty, mkey, mtm, 0, mA, mc, mvs, mT, { data := #[] }, none, 0, 0, 0, 0⟩ i N = decide ((p0 : Int) = i) := by show (if (1 : Int) = 1 then decide (((Hash.partK mkey.data.toList N : Nat) : Int) = (i : Int)) else _) = _; rw [if_pos rfl, HP0.out]
              rw [this]
              by_cases e : i = p0
              · simp [e]
              · have : ¬ ((p0 : Int) = i) := by omega
                simp [e, this])
            clear HG4 hcs HJ hj1
            go_wp2
            go_roundw
            case rel => exact ⟨k + 1, by omega, by go_num, HG5⟩
            case measure => simp [intOf]; omega
      · have hk2 : (mk != 1) = true := by simp; exact hk1
        have hk3 : (mk == 1) = false := by simp; exact hk1
        have HK2 := Lib.hid hk2
        have HK1 := Lib.hid hk1
        go_wp2_with fail
        refine (targets_all mk mt mtm 0 mT 0 0 mty mkey { data := #[] } mA none vn mc 0 0 _ parts HK2.out).mono ?_
        rintro e w2 ⟨tv, tob, rfl, hs, hb, htg⟩
        rw [HN.out] at hs
        obtain ⟨tA, tc, rfl, ht1, ht2⟩ := hs.form
        have HTS := Lib.hid hs
        have HB2 := Lib.hid hb
        have ht3 : tc ≤ 9223372036854775807 := by unfold maxLen at ht2; omega
        have HTG : Hid (tob ≠ some m2) := fun e => by have := htg m2 e; have := HG.out.tab.lt; omega
        have hs0 := HC.out w2 hb
        obtain ⟨d0, d1, d2, d3, d4, d5, d6, d7, d8, d9, d10, d11⟩ := hs0
        clear hs hb ht2 htg c0 c1 c2 c3 c4 c5 c6 c7 c8 c9 c10 c11
        go_upto_region 8 with fail
        have HS0 : Hid (w2.drew.cell? ⟨g, o + k * 12, none⟩ = some (.int .i64 mk) ∧ w2.drew.cell? ⟨g, o + k * 12 + 1, none⟩ = some (.int .i64 mt) ∧ w2.drew.cell? ⟨g, o + k * 12 + 2, none⟩ = some (.string mty) ∧ w2.drew.cell? ⟨g, o + k * 12 + 3, none⟩ = some (.string mkey) ∧ w2.drew.cell? ⟨g, o + k * 12 + 4, none⟩ = some (.int .i64 mtm) ∧ w2.drew.cell? ⟨g, o + k * 12 + 5, none⟩ = some (.int .i64 0) ∧ w2.drew.cell? ⟨g, o + k * 12 + 6, none⟩ = some (.slice mA vn mc) ∧ w2.drew.cell? ⟨g, o + k * 12 + 7, none⟩ = some (.int .i64 mT) ∧ w2.drew.cell? ⟨g, o + k * 12 + 8, none⟩ = some (.string { data := #[] }) ∧ w2.drew.cell? ⟨g, o + k * 12 + 9, none⟩ = some (.slice none 0 0) ∧ w2.drew.cell? ⟨g, o + k * 12 + 10, none⟩ = some (.int .i64 0) ∧ w2.drew.cell? ⟨g, o + k * 12 + 11, none⟩ = some (.int .i64 0)) := ⟨d0, d1, d2, d3, d4, d5, d6, d7, d8, d9, d10, d11⟩
        clear d0 d1 d2 d3 d4 d5 d6 d7 d8 d9 d10 d11 hk1 hk2 hk3
        refine wp_region_noPanic ?_
        refine wp_region_held_drew (S := (fun X => X.cell? ⟨g, o + k * 12, none⟩ = some (.int .i64 mk) ∧ X.cell? ⟨g, o + k * 12 + 1, none⟩ = some (.int .i64 mt) ∧ X.cell? ⟨g, o + k * 12 + 2, none⟩ = some (.string mty) ∧ X.cell? ⟨g, o + k * 12 + 3, none⟩ = some (.string mkey) ∧ X.cell? ⟨g, o + k * 12 + 4, none⟩ = some (.int .i64 mtm) ∧ X.cell? ⟨g, o + k * 12 + 5, none⟩ = some (.int .i64 0) ∧ X.cell? ⟨g, o + k * 12 + 6, none⟩ = some (.slice mA vn mc) ∧ X.cell? ⟨g, o + k * 12 + 7, none⟩ = some (.int .i64 mT) ∧ X.cell? ⟨g, o + k * 12 + 8, none⟩ = some (.string { data := #[] }) ∧ X.cell? ⟨g, o + k * 12 + 9, none⟩ = some (.slice none 0 0) ∧ X.cell? ⟨g, o + k * 12 + 10, none⟩ = some (.int .i64 0) ∧ X.cell? ⟨g, o + k * 12 + 11, none⟩ = some (.int .i64 0))) (by kernel_rfl) ?_ (fun hHeld => ?_)
        · exact HS0.out
        refine take_at 0 41 _ (v := ?vb0) rfl rfl (by kernel_rfl) (by kernel_rfl) (by kernel_rfl) (fun _ _ _ h => h) (Or.inl ⟨by rfl, ?hyb0⟩) (by assumption) ?restb0
        case hyb0 =>
          intro wX hSw
          try dsimp only at hSw
          go_simp
          first
          | done
          | (with_reducible rfl)
        try simp only [Act.put, List.setIfInBounds_toArray, List.set_cons_zero, List.set_cons_succ]
        refine take_at 1 42 _ (v := ?vb1) rfl rfl (by kernel_rfl) (by kernel_rfl) (by kernel_rfl) (fun _ _ _ h => h) (Or.inl ⟨by rfl, ?hyb1⟩) (by assumption) ?restb1
        case hyb1 =>
          intro wX hSw
          try dsimp only at hSw
          go_simp
          first
          | done
          | (with_reducible rfl)
        try simp only [Act.put, List.setIfInBounds_toArray, List.set_cons_zero, List.set_cons_succ]
        refine take_at 2 43 _ (v := ?vb2) rfl rfl (by kernel_rfl) (by kernel_rfl) (by kernel_rfl) (fun _ _ _ h => h) (Or.inl ⟨by rfl, ?hyb2⟩) (by assumption) ?restb2
        case hyb2 =>
          intro wX hSw
          try dsimp only at hSw
          go_simp
          first
          | done
          | (with_reducible rfl)
        try simp only [Act.put, List.setIfInBounds_toArray, List.set_cons_zero, List.set_cons_succ]
        refine take_at 3 44 _ (v := ?vb3) rfl rfl (by kernel_rfl) (by kernel_rfl) (by kernel_rfl) (fun _ _ _ h => h) (Or.inl ⟨by rfl, ?hyb3⟩) (by assumption) ?restb3
        case hyb3 =>
          intro wX hSw
          try dsimp only at hSw
          go_simp
          first
          | done
          | (with_reducible rfl)
        try simp only [Act.put, List.setIfInBounds_toArray, List.set_cons_zero, List.set_cons_succ]
        refine take_at 5 46 _ (v := ?vb5) rfl rfl (by kernel_rfl) (by kernel_rfl) (by kernel_rfl) (fun _ _ _ h => h) (Or.inl ⟨by rfl, ?hyb5⟩) (by assumption) ?restb5
        case hyb5 =>
          intro wX hSw
          try dsimp only at hSw
          go_simp
          first
          | done
          | (with_reducible rfl)
        try simp only [Act.put, List.setIfInBounds_toArray, List.set_cons_zero, List.set_cons_succ]
        refine wpAnyH_ready (rs := [4]) (by kernel_rfl) (by simp) ?_
        refine AllReadyH.cons rfl (fun K hK => ?_) AllReadyH.nil
        go_simp
        go_at_call 52
        (with_reducible refine (all_any mk mt mtm 0 mT 0 0 mty mkey { data := #[] } mA none vn mc 0 0 _ true HK2.out).mono ?_)
        rintro e w3 ⟨rfl, hb3⟩
        have hb23 : Below wr.heap.size wr w3 := HB2.out.trans (Below.mono (below_drewN (Below.refl _ w2) 1 |>.trans hb3) HB2.out.size)
        have HB3 := Lib.hid hb23
        have HT3 : Hid (Seg w3 3 1 (.slice tA N tc) N (upTo N) tob) := HTS.out.turns (Turns.of_below (below_drewN (Below.refl _ w2) 1 |>.trans hb3)) (fun _ _ x => x)
        have HS3 : Hid (w3.cell? ⟨g, o + k * 12, none⟩ = some (.int .i64 mk) ∧ w3.cell? ⟨g, o + k * 12 + 1, none⟩ = some (.int .i64 mt) ∧ w3.cell? ⟨g, o + k * 12 + 2, none⟩ = some (.string mty) ∧ w3.cell? ⟨g, o + k * 12 + 3, none⟩ = some (.string mkey) ∧ w3.cell? ⟨g, o + k * 12 + 4, none⟩ = some (.int .i64 mtm) ∧ w3.cell? ⟨g, o + k * 12 + 5, none⟩ = some (.int .i64 0) ∧ w3.cell? ⟨g, o + k * 12 + 6, none⟩ = some (.slice mA vn mc) ∧ w3.cell? ⟨g, o + k * 12 + 7, none⟩ = some (.int .i64 mT) ∧ w3.cell? ⟨g, o + k * 12 + 8, none⟩ = some (.string { data := #[] }) ∧ w3.cell? ⟨g, o + k * 12 + 9, none⟩ = some (.slice none 0 0) ∧ w3.cell? ⟨g, o + k * 12 + 10, none⟩ = some (.int .i64 0) ∧ w3.cell? ⟨g, o + k * 12 + 11, none⟩ = some (.int .i64 0)) := HC.out w3 hb23
        clear hb3 hb23
        try go_wp2_with fail
        refine hK.out _ _ ?_ (fun hHeld => ?_)
        · exact HS3.out
        clear hK K
        try simp only [Act.put, List.setIfInBounds_toArray, List.set_cons_zero, List.set_cons_succ]
        refine take_at 6 47 _ (v := ?vb6) rfl rfl (by kernel_rfl) (by kernel_rfl) (by kernel_rfl) (fun _ _ _ h => h) (Or.inl ⟨by rfl, ?hyb6⟩) (by assumption) ?restb6
        case hyb6 =>
          intro wX hSw
          try dsimp only at hSw
          go_simp
          first
          | done
          | (with_reducible rfl)
        try simp only [Act.put, List.setIfInBounds_toArray, List.set_cons_zero, List.set_cons_succ]
        refine take_at 7 48 _ (v := ?vb7) rfl rfl (by kernel_rfl) (by kernel_rfl) (by kernel_rfl) (fun _ _ _ h => h) (Or.inl ⟨by rfl, ?hyb7⟩) (by assumption) ?restb7
        case hyb7 =>
          intro wX hSw
          try dsimp only at hSw
          go_simp
          first
          | done
          | (with_reducible rfl)
        try simp only [Act.put, List.setIfInBounds_toArray, List.set_cons_zero, List.set_cons_succ]
        refine take_at 8 49 _ (v := ?vb8) rfl rfl (by kernel_rfl) (by kernel_rfl) (by kernel_rfl) (fun _ _ _ h => h) (Or.inl ⟨by rfl, ?hyb8⟩) (by assumption) ?restb8
        case hyb8 =>
          intro wX hSw
          try dsimp only at hSw
          go_simp
          first
          | done
          | (with_reducible rfl)
        try simp only [Act.put, List.setIfInBounds_toArray, List.set_cons_zero, List.set_cons_succ]
        refine take_at 9 50 _ (v := ?vb9) rfl rfl (by kernel_rfl) (by kernel_rfl) (by kernel_rfl) (fun _ _ _ h => h) (Or.inl ⟨by rfl, ?hyb9⟩) (by assumption) ?restb9
        case hyb9 =>
          intro wX hSw
          try dsimp only at hSw
          go_simp
          first
          | done
          | (with_reducible rfl)
        try simp only [Act.put, List.setIfInBounds_toArray, List.set_cons_zero, List.set_cons_succ]
        refine take_at 10 51 _ (v := undef) rfl rfl (by kernel_rfl) (by kernel_rfl) (by kernel_rfl) (fun _ _ _ h => h) (Or.inr ⟨by rfl, rfl⟩) (by assumption) ?_
        try simp only [Act.put, List.setIfInBounds_toArray, List.set_cons_zero, List.set_cons_succ]
        refine take_at 11 52 _ (v := undef) rfl rfl (by kernel_rfl) (by kernel_rfl) (by kernel_rfl) (fun _ _ _ h => h) (Or.inr ⟨by rfl, rfl⟩) (by assumption) ?_
        try simp only [Act.put, List.setIfInBounds_toArray, List.set_cons_zero, List.set_cons_succ]
        refine take_at 12 53 _ (v := undef) rfl rfl (by kernel_rfl) (by kernel_rfl) (by kernel_rfl) (fun _ _ _ h => h) (Or.inr ⟨by rfl, rfl⟩) (by assumption) ?_
        try simp only [Act.put, List.setIfInBounds_toArray, List.set_cons_zero, List.set_cons_succ]
        refine take_at 13 54 _ (v := undef) rfl rfl (by kernel_rfl) (by kernel_rfl) (by kernel_rfl) (fun _ _ _ h => h) (Or.inr ⟨by rfl, rfl⟩) (by assumption) ?_
        try simp only [Act.put, List.setIfInBounds_toArray, List.set_cons_zero, List.set_cons_succ]
        refine take_at 14 55 _ (v := undef) rfl rfl (by kernel_rfl) (by kernel_rfl) (by kernel_rfl) (fun _ _ _ h => h) (Or.inr ⟨by rfl, rfl⟩) (by assumption) ?_
        try simp only [Act.put, List.setIfInBounds_toArray, List.set_cons_zero, List.set_cons_succ]
        refine take_at 15 56 _ (v := undef) rfl rfl (by kernel_rfl) (by kernel_rfl) (by kernel_rfl) (fun _ _ _ h => h) (Or.inr ⟨by rfl, rfl⟩) (by assumption) ?_
        try simp only [Act.put, List.setIfInBounds_toArray, List.set_cons_zero, List.set_cons_succ]
        refine take_at 16 57 _ (v := undef) rfl rfl (by kernel_rfl) (by kernel_rfl) (by kernel_rfl) (fun _ _ _ h => h) (Or.inr ⟨by rfl, rfl⟩) (by assumption) ?_
        try simp only [Act.put, List.setIfInBounds_toArray, List.set_cons_zero, List.set_cons_succ]
        refine take_at 17 58 _ (v := undef) rfl rfl (by kernel_rfl) (by kernel_rfl) (by kernel_rfl) (fun _ _ _ h => h) (Or.inr ⟨by rfl, rfl⟩) (by assumption) ?_
        try simp only [Act.put, List.setIfInBounds_toArray, List.set_cons_zero, List.set_cons_succ]
        refine take_at 18 59 _ (v := undef) rfl rfl (by kernel_rfl) (by kernel_rfl) (by kernel_rfl) (fun _ _ _ h => h) (Or.inr ⟨by rfl, rfl⟩) (by assumption) ?_
        try simp only [Act.put, List.setIfInBounds_toArray, List.set_cons_zero, List.set_cons_succ]
        refine take_at 19 60 _ (v := undef) rfl rfl (by kernel_rfl) (by kernel_rfl) (by kernel_rfl) (fun _ _ _ h => h) (Or.inr ⟨by rfl, rfl⟩) (by assumption) ?_
        try simp only [Act.put, List.setIfInBounds_toArray, List.set_cons_zero, List.set_cons_succ]
        refine take_at 20 61 _ (v := undef) rfl rfl (by kernel_rfl) (by kernel_rfl) (by kernel_rfl) (fun _ _ _ h => h) (Or.inr ⟨by rfl, rfl⟩) (by assumption) ?_
        try simp only [Act.put, List.setIfInBounds_toArray, List.set_cons_zero, List.set_cons_succ]
        refine take_at 21 62 _ (v := undef) rfl rfl (by kernel_rfl) (by kernel_rfl) (by kernel_rfl) (fun _ _ _ h => h) (Or.inr ⟨by rfl, rfl⟩) (by assumption) ?_
        try simp only [Act.put, List.setIfInBounds_toArray, List.set_cons_zero, List.set_cons_succ]
        refine take_at 22 63 _ (v := undef) rfl rfl (by kernel_rfl) (by kernel_rfl) (by kernel_rfl) (fun _ _ _ h => h) (Or.inr ⟨by rfl, rfl⟩) (by assumption) ?_
        try simp only [Act.put, List.setIfInBounds_toArray, List.set_cons_zero, List.set_cons_succ]
        refine take_at 23 64 _ (v := undef) rfl rfl (by kernel_rfl) (by kernel_rfl) (by kernel_rfl) (fun _ _ _ h => h) (Or.inr ⟨by rfl, rfl⟩) (by assumption) ?_
        try simp only [Act.put, List.setIfInBounds_toArray, List.set_cons_zero, List.set_cons_succ]
        refine take_at 24 65 _ (v := undef) rfl rfl (by kernel_rfl) (by kernel_rfl) (by kernel_rfl) (fun _ _ _ h => h) (Or.inr ⟨by rfl, rfl⟩) (by assumption) ?_
        try simp only [Act.put, List.setIfInBounds_toArray, List.set_cons_zero, List.set_cons_succ]
        refine take_at 25 66 _ (v := undef) rfl rfl (by kernel_rfl) (by kernel_rfl) (by kernel_rfl) (fun _ _ _ h => h) (Or.inr ⟨by rfl, rfl⟩) (by assumption) ?_
        try simp only [Act.put, List.setIfInBounds_toArray, List.set_cons_zero, List.set_cons_succ]
        refine take_at 26 67 _ (v := undef) rfl rfl (by kernel_rfl) (by kernel_rfl) (by kernel_rfl) (fun _ _ _ h => h) (Or.inr ⟨by rfl, rfl⟩) (by assumption) ?_
        try simp only [Act.put, List.setIfInBounds_toArray, List.set_cons_zero, List.set_cons_succ]
        refine take_at 27 68 _ (v := ?vb27) rfl rfl (by kernel_rfl) (by kernel_rfl) (by kernel_rfl) (fun _ _ _ h => h) (Or.inl ⟨by rfl, ?hyb27⟩) (by assumption) ?restb27
        case hyb27 =>
          intro wX hSw
          try dsimp only at hSw
          go_simp
          first
          | done
          | (with_reducible rfl)
        try simp only [Act.put, List.setIfInBounds_toArray, List.set_cons_zero, List.set_cons_succ]
        refine take_at 28 69 _ (v := ?vb28) rfl rfl (by kernel_rfl) (by kernel_rfl) (by kernel_rfl) (fun _ _ _ h => h) (Or.inl ⟨by rfl, ?hyb28⟩) (by assumption) ?restb28
        case hyb28 =>
          intro wX hSw
          try dsimp only at hSw
          go_simp
          first
          | done
          | (with_reducible rfl)
        try simp only [Act.put, List.setIfInBounds_toArray, List.set_cons_zero, List.set_cons_succ]
        refine take_at 29 70 _ (v := ?vb29) rfl rfl (by kernel_rfl) (by kernel_rfl) (by kernel_rfl) (fun _ _ _ h => h) (Or.inl ⟨by rfl, ?hyb29⟩) (by assumption) ?restb29
        case hyb29 =>
          intro wX hSw
          try dsimp only at hSw
          go_simp
          first
          | done
          | (with_reducible rfl)
        try simp only [Act.put, List.setIfInBounds_toArray, List.set_cons_zero, List.set_cons_succ]
        refine take_at 30 71 _ (v := ?vb30) rfl rfl (by kernel_rfl) (by kernel_rfl) (by kernel_rfl) (fun _ _ _ h => h) (Or.inl ⟨by rfl, ?hyb30⟩) (by assumption) ?restb30
        case hyb30 =>
          intro wX hSw
          try dsimp only at hSw
          go_simp
          first
          | done
          | (with_reducible rfl)
        try simp only [Act.put, List.setIfInBounds_toArray, List.set_cons_zero, List.set_cons_succ]
        refine take_at 31 72 _ (v := ?vb31) rfl rfl (by kernel_rfl) (by kernel_rfl) (by kernel_rfl) (fun _ _ _ h => h) (Or.inl ⟨by rfl, ?hyb31⟩) (by assumption) ?restb31
        case hyb31 =>
          intro wX hSw
          try dsimp only at hSw
          go_simp
          first
          | done
          | (with_reducible rfl)
        try simp only [Act.put, List.setIfInBounds_toArray, List.set_cons_zero, List.set_cons_succ]
        refine take_at 32 73 _ (v := ?vb32) rfl rfl (by kernel_rfl) (by kernel_rfl) (by kernel_rfl) (fun _ _ _ h => h) (Or.inl ⟨by rfl, ?hyb32⟩) (by assumption) ?restb32
        case hyb32 =>
          intro wX hSw
          try dsimp only at hSw
          go_simp
          first
          | done
          | (with_reducible rfl)
        try simp only [Act.put, List.setIfInBounds_toArray, List.set_cons_zero, List.set_cons_succ]
        refine take_at 33 74 _ (v := ?vb33) rfl rfl (by kernel_rfl) (by kernel_rfl) (by kernel_rfl) (fun _ _ _ h => h) (Or.inl ⟨by rfl, ?hyb33⟩) (by assumption) ?restb33
        case hyb33 =>
          intro wX hSw
          try dsimp only at hSw
          go_simp
          first
          | done
          | (with_reducible rfl)
        try simp only [Act.put, List.setIfInBounds_toArray, List.set_cons_zero, List.set_cons_succ]
        refine take_at 34 75 _ (v := ?vb34) rfl rfl (by kernel_rfl) (by kernel_rfl) (by kernel_rfl) (fun _ _ _ h => h) (Or.inl ⟨by rfl, ?hyb34⟩) (by assumption) ?restb34
        case hyb34 =>
          intro wX hSw
          try dsimp only at hSw
          go_simp
          first
          | done
          | (with_reducible rfl)
        try simp only [Act.put, List.setIfInBounds_toArray, List.set_cons_zero, List.set_cons_succ]
        refine take_at 35 76 _ (v := ?vb35) rfl rfl (by kernel_rfl) (by kernel_rfl) (by kernel_rfl) (fun _ _ _ h => h) (Or.inl ⟨by rfl, ?hyb35⟩) (by assumption) ?restb35
        case hyb35 =>
          intro wX hSw
          try dsimp only at hSw
          go_simp
          first
          | done
          | (with_reducible rfl)
        try simp only [Act.put, List.setIfInBounds_toArray, List.set_cons_zero, List.set_cons_succ]
        refine take_at 36 77 _ (v := ?vb36) rfl rfl (by kernel_rfl) (by kernel_rfl) (by kernel_rfl) (fun _ _ _ h => h) (Or.inl ⟨by rfl, ?hyb36⟩) (by assumption) ?restb36
        case hyb36 =>
          intro wX hSw
          try dsimp only at hSw
          go_simp
          first
          | done
          | (with_reducible rfl)
        try simp only [Act.put, List.setIfInBounds_toArray, List.set_cons_zero, List.set_cons_succ]
        refine take_at 37 78 _ (v := ?vb37) rfl rfl (by kernel_rfl) (by kernel_rfl) (by kernel_rfl) (fun _ _ _ h => h) (Or.inl ⟨by rfl, ?hyb37⟩) (by assumption) ?restb37
        case hyb37 =>
          intro wX hSw
          try dsimp only at hSw
          go_simp
          first
          | done
          | (with_reducible rfl)
        try simp only [Act.put, List.setIfInBounds_toArray, List.set_cons_zero, List.set_cons_succ]
        refine take_at 38 79 _ (v := ?vb38) rfl rfl (by kernel_rfl) (by kernel_rfl) (by kernel_rfl) (fun _ _ _ h => h) (Or.inl ⟨by rfl, ?hyb38⟩) (by assumption) ?restb38
        case hyb38 =>
          intro wX hSw
          try dsimp only at hSw
          go_simp
          first
          | done
          | (with_reducible rfl)
        try simp only [Act.put, List.setIfInBounds_toArray, List.set_cons_zero, List.set_cons_succ]
        refine wpAnyH_done (by kernel_rfl) ?_ _
        refine NoPanic.normal ?_
        have HG3 := Lib.hid (HG.out.call HB3.out)
        have hkk : k ≤ 20 := by omega
        clear HS0 HS3 HTS HB2 HB3 HG HC
        go_wp2
        go_loopw [11] (fun v11 wr2 => ∃ j : Nat, j ≤ N ∧ v11 = .int .i64 j ∧ Hid (Gs w wr2 (.slice (some ⟨g, o, none⟩) m vcap) ms m2 N (fun p => cnt ms N k p + if p < j then 1 else 0) ∧ Seg wr2 3 1 (.slice tA N tc) N (upTo N) tob)) (fun v11 _ => N - (intOf v11).toNat)
        case atStart => exact ⟨0, by omega, rfl, Lib.hid ⟨HG3.out.congr (fun i hi => by simp), HT3.out⟩⟩
        case round =>
          clear HG3 HT3
          obtain ⟨j, hj, rfl, hJ⟩ := hrel
          have HJ := Lib.hid hJ.out
          clear hJ
          by_cases hjn : j < N
          · have hji : (j : Int) < (N : Int) := by omega
            obtain ⟨tg, toff, rfl, _, t0⟩ := lies_seg (f := fun k => .int .i64 (k : Int)) HJ.out.2 (fun k hk => upTo_get N k hk) j hjn
            have a0 := HJ.out.1.tab.cell hjn
            have af := HJ.out.1.tab.free j
            have al := HJ.out.1.tab.lt
            simp only [Nat.lt_irrefl, if_false, Int.add_zero] at a0
            have hck := cnt_le ms N k j
            obtain ⟨ck, hck2⟩ : ∃ ck, cnt ms N k j = ck := ⟨_, rfl⟩
            rw [hck2] at a0 hck
            have HCK := Lib.hid hck2
            clear hck2
            obtain ⟨hc0, hc1⟩ := hck
            go_wp2
            have HF := Lib.hid (And.intro (HJ.out.1.put j (ck + 1) (g := fun p => cnt ms N k p + if p < j + 1 then 1 else 0) (fun i hi hne => by
              have : (i < j) = (i < j + 1) := by rw [eq_iff_iff]; omega
              simp only [this]) (fun _ => by simp [HCK.out])) (HJ.out.2.past (p := ⟨m2, j, none⟩) HTG.out (.int .i64 (ck + 1))))
            go_roundw
            case rel => exact ⟨j + 1, by omega, by go_num, HF⟩
            case measure => simp [intOf]; omega
          · obtain rfl : j = N := by omega
            have hji : ¬ (j : Int) < (j : Int) := by omega
            have HG4 := HJ.out.1
            have hcs := fun p => cnt_succ ms j k p _ HX.out
            have HG5 : Hid (Gs w wr (.slice (some ⟨g, o, none⟩) m vcap) ms m2 j (fun p => cnt ms j (k + 1) p)) := HG4.congr (fun i hi => by
              rw [hcs i]
              have : goes ⟨mk, mt, mty, mkey, mtm, 0, mA, mc, mvs, mT, { data := #[] }, none, 0, 0, 0, 0⟩ i j = true := by show (if mk = 1 then _ else decide (0 ≤ (i : Int) ∧ (i : Int) < (j : Int))) = true; rw [if_neg HK1.out]; simp; omega
              rw [this]
              simp [hi])
            clear HG4 hcs HJ hjn
            go_wp2
            go_roundw
            case rel => exact ⟨k + 1, by omega, by go_num, HG5⟩
            case measure => simp [intOf]; omega
    · obtain rfl : k = m := by omega
      have hki : ¬ (k : Int) < (k : Int) := by omega
      have HG1 := HG
      clear HG hkm hlt
      go_wp2
      go_loopw [12, 13, 14, 15] (fun i12 s13 s14 s15 wr => ∃ q : Nat, q ≤ N ∧ i12 = .int .i64 q ∧ Hid (Gs w wr (.slice vA k vcap) ms m2 N (fun p => cnt ms N k p))) (fun i12 _ _ _ _ => N - (intOf i12).toNat)
      case atStart => exact ⟨0, by omega, rfl, HG1⟩
      case round =>
        clear HG1
        obtain ⟨q, hqN, rfl, hG⟩ := hrel
        have HG := Lib.hid hG.out
        clear hG
        by_cases hlt : q < N
        · have hqi : (q : Int) < (N : Int) := by omega
          have hfor := for_any HTW.out (.slice vA k vcap) ms q parts wr HG.out.lst (by rw [HM.out]; exact hm20) vA vcap (by rw [HM.out])
          rw [HM.out, HN.out] at hfor
          have HFOR := Lib.hid hfor
          clear hfor
          go_wp2_with fail
          refine HFOR.out.mono ?_
          rintro e w2 ⟨v', ob', ys, rfl, hF⟩
          obtain ⟨yA, yc, rfl, hy1, hy2⟩ := hF.seg.form
          have hy3 : yc ≤ 9223372036854775807 := by unfold maxLen at hy2; omega
          obtain ⟨L, hL⟩ : ∃ L, ys.length = L := ⟨_, rfl⟩
          rw [hL] at hF hy1 ⊢
          have hcnt : cnt ms N k q = (L : Int) := by
            have e1 : ms.take k = ms := List.take_of_length_le (by rw [HM.out]; exact Nat.le_refl _)
            have e2 := hF.ln
            rw [hL] at e2
            unfold cnt
            rw [e1, ← e2]
          have hLk : L ≤ k := by have := (cnt_le ms N k q).2; omega
          have hG2 := HG.out.call hF.be
          have a0 := hG2.tab.cell hlt
          simp only [hcnt] at a0
          have al := hG2.tab.lt
          have HG2 := Lib.hid hG2
          have HF := Lib.hid hF
          have HL := Lib.hid hL
          clear hF hG2 HFOR HG hL hcnt hy2
          go_wp2
          go_loopw [14, 15] (fun v14 v15 wq => ∃ i jn : Nat, i ≤ k ∧ v15 = .int .i64 i ∧ v14 = .int .i64 jn ∧ Hid (cnt ms N i q = jn ∧ Gs w wq (.slice vA k vcap) ms m2 N (fun p => cnt ms N k p) ∧ ForI wr wq (.slice yA L yc) ob' (ms.filter fun m => goes m q N) ys)) (fun _ v15 _ => k - (intOf v15).toNat)
          case atStart => exact ⟨0, 0, by omega, rfl, rfl, Lib.hid ⟨by simp [cnt], HG2.out, HF.out⟩⟩
          case round =>
            clear HG2 HF a0 al
            obtain ⟨i, jn, hik, rfl, rfl, hJ⟩ := hrel
            have HJ := Lib.hid hJ.out
            clear hJ
            by_cases hil : i < k
            · have hii : (i : Int) < (k : Int) := by omega
              obtain ⟨x, hx⟩ : ∃ x, ms[i]? = some x := ⟨_, List.getElem?_eq_getElem (by rw [HM.out]; exact hil)⟩
              have HX := Lib.hid hx
              obtain ⟨g, o, cap', hv', _, _, hg, hcl⟩ := HJ.out.2.1.lst.at hx
              rw [HM.out] at hv'
              injection hv' with e1 _ e3
              subst e1 e3
              have hok := HJ.out.2.1.lst.ok i x hx
              have hV := hok.lst
              have hsu := cnt_succ ms N i q x hx
              obtain ⟨mk, mt, mty, mkey, mtm, mq, mA, mc, mvs, mT, mid, meA, men, mec, mw, mcap⟩ := x
              obtain ⟨hq, hT2, hid, ⟨he1, he2, he3, he4, he5⟩, hsz, hkb, hvs⟩ := hok
              dsimp only at hq hT2 hid he1 he2 he3 he4 he5 hsz hkb hV
              subst hq hid he1 he2 he3 he4 he5
              have HV := Lib.hid hV
              have HSU0 := Lib.hid hsu
              have HCL := Lib.hid hcl
              have c0 := (hcl 0 (.int .i64 mk) rfl)
              have c3 := (hcl 3 (.string mkey) rfl)
              simp only [Nat.add_zero] at c0
              obtain ⟨vn, hvn⟩ : ∃ vn, mvs.length = vn := ⟨_, rfl⟩
              have HVN := Lib.hid hvn
              have hjn9 : jn ≤ k := by have := (cnt_le ms N i q).2; have := HJ.out.1; omega
              clear hx hvs hvn hcl hsu hV
              by_cases hk1 : mk = 1
              · subst hk1
                go_wp2_with fail
                (with_reducible refine (part_n mkey parts N _ HN.out (by omega)).mono ?_)
                rintro e w' ⟨rfl, rfl⟩
                by_cases hpq : (Hash.partK mkey.data.toList N : Int) = (q : Int)
                · have hpd : ((Hash.partK mkey.data.toList N : Int) == (q : Int)) = true := by simpa using hpq
                  have hgo : goes ⟨1, mt, mty, mkey, mtm, 0, mA, mc, mvs, mT, { data := #[] }, none, 0, 0, 0, 0⟩ (q : Int) N = true := by
                    show (if (1 : Int) = 1 then decide ((Hash.partK mkey.data.toList N : Int) = (q : Int)) else _) = true
                    rw [if_pos rfl]
                    exact decide_eq_true hpq
                  have hj2 : ((ms.take i).filter fun m => goes m q N).length = jn := by have := HJ.out.1; unfold cnt at this; omega
                  have hsu2 : cnt ms N (i + 1) q = ((jn + 1 : Nat) : Int) := by rw [HSU0.out, if_pos hgo, HJ.out.1]; rfl
                  have HSU := Lib.hid hsu2
                  have hfg := filter_get (p := fun m => goes m q N) HX.out hgo
                  rw [hj2] at hfg
                  obtain ⟨bA, bc, h, p, ycap, hyv, _, _, hh, hjl, hVY, hcy⟩ := HJ.out.2.2.at hfg
                  rw [HL.out] at hyv hjl
                  injection hyv with e1 _ e3
                  subst e1 e3
                  have hjl1 : (jn : Int) < (L : Int) := by omega
                  have hjl2 : ¬ (L : Int) ≤ (jn : Int) := by omega
                  have HVX : Hid (VS wr.drew mA mc mvs) := HV.out.drewN 1
                  have HVY : Hid (VS wr.drew bA bc mvs) := VS.drewN hVY 1
                  have hcells : ∀ X, Below wr.heap.size wr X → X.cell? ⟨g, o + i * 12, none⟩ = some (.int .i64 1) ∧ X.cell? ⟨g, o + i * 12 + 1, none⟩ = some (.int .i64 mt) ∧ X.cell? ⟨g, o + i * 12 + 2, none⟩ = some (.string mty) ∧ X.cell? ⟨g, o + i * 12 + 3, none⟩ = some (.string mkey) ∧ X.cell? ⟨g, o + i * 12 + 4, none⟩ = some (.int .i64 mtm) ∧ X.cell? ⟨g, o + i * 12 + 5, none⟩ = some (.int .i64 0) ∧ X.cell? ⟨g, o + i * 12 + 6, none⟩ = some (.slice mA vn mc) ∧ X.cell? ⟨g, o + i * 12 + 7, none⟩ = some (.int .i64 mT) ∧ X.cell? ⟨g, o + i * 12 + 8, none⟩ = some (.string { data := #[] }) ∧ X.cell? ⟨g, o + i * 12 + 9, none⟩ = some (.slice none 0 0) ∧ X.cell? ⟨g, o + i * 12 + 10, none⟩ = some (.int .i64 0) ∧ X.cell? ⟨g, o + i * 12 + 11, none⟩ = some (.int .i64 0) ∧ X.cell? ⟨h, p + jn * 12, none⟩ = some (.int .i64 1) ∧ X.cell? ⟨h, p + jn * 12 + 1, none⟩ = some (.int .i64 mt) ∧ X.cell? ⟨h, p + jn * 12 + 2, none⟩ = some (.string mty) ∧ X.cell? ⟨h, p + jn * 12 + 3, none⟩ = some (.string mkey) ∧ X.cell? ⟨h, p + jn * 12 + 4, none⟩ = some (.int .i64 mtm) ∧ X.cell? ⟨h, p + jn * 12 + 5, none⟩ = some (.int .i64 0) ∧ X.cell? ⟨h, p + jn * 12 + 6, none⟩ = some (.slice bA vn bc) ∧ X.cell? ⟨h, p + jn * 12 + 7, none⟩ = some (.int .i64 mT) ∧ X.cell? ⟨h, p + jn * 12 + 8, none⟩ = some (.string { data := #[] }) ∧ X.cell? ⟨h, p + jn * 12 + 9, none⟩ = some (.slice none 0 0) ∧ X.cell? ⟨h, p + jn * 12 + 10, none⟩ = some (.int .i64 0) ∧ X.cell? ⟨h, p + jn * 12 + 11, none⟩ = some (.int .i64 0) := fun X hX =>
                    have h1 := fun n u (hj : (⟨1, mt, mty, mkey, mtm, 0, mA, mc, mvs, mT, { data := #[] }, none, 0, 0, 0, 0⟩ : Mg).cells[n]? = some u) => (hX.cell (p := ⟨g, o + i * 12 + n, none⟩) hg).trans (HCL.out n u hj)
                    have h2 := fun n u (hj : (⟨1, mt, mty, mkey, mtm, 0, bA, bc, mvs, mT, { data := #[] }, none, 0, 0, 0, 0⟩ : Mg).cells[n]? = some u) => (hX.cell (p := ⟨h, p + jn * 12 + n, none⟩) hh).trans (hcy n u hj)
                    ⟨h1 0 _ rfl, h1 1 _ rfl, h1 2 _ rfl, h1 3 _ rfl, h1 4 _ rfl, h1 5 _ rfl, by rw [← HVN.out]; exact h1 6 _ rfl, h1 7 _ rfl, h1 8 _ rfl, h1 9 _ rfl, h1 10 _ rfl, h1 11 _ rfl, h2 0 _ rfl, h2 1 _ rfl, h2 2 _ rfl, h2 3 _ rfl, h2 4 _ rfl, h2 5 _ rfl, by rw [← HVN.out]; exact h2 6 _ rfl, h2 7 _ rfl, h2 8 _ rfl, h2 9 _ rfl, h2 10 _ rfl, h2 11 _ rfl⟩
                  have HC := Lib.hid hcells
                  clear hcells hcy hfg hgo hsu2 hj2 hVY
                  go_upto_region 27 with fail
                  clear c0 c3
                  have HS0 : Hid (wr.drew.cell? ⟨g, o + i * 12, none⟩ = some (.int .i64 1) ∧ wr.drew.cell? ⟨g, o + i * 12 + 1, none⟩ = some (.int .i64 mt) ∧ wr.drew.cell? ⟨g, o + i * 12 + 2, none⟩ = some (.string mty) ∧ wr.drew.cell? ⟨g, o + i * 12 + 3, none⟩ = some (.string mkey) ∧ wr.drew.cell? ⟨g, o + i * 12 + 4, none⟩ = some (.int .i64 mtm) ∧ wr.drew.cell? ⟨g, o + i * 12 + 5, none⟩ = some (.int .i64 0) ∧ wr.drew.cell? ⟨g, o + i * 12 + 6, none⟩ = some (.slice mA vn mc) ∧ wr.drew.cell? ⟨g, o + i * 12 + 7, none⟩ = some (.int .i64 mT) ∧ wr.drew.cell? ⟨g, o + i * 12 + 8, none⟩ = some (.string { data := #[] }) ∧ wr.drew.cell? ⟨g, o + i * 12 + 9, none⟩ = some (.slice none 0 0) ∧ wr.drew.cell? ⟨g, o + i * 12 + 10, none⟩ = some (.int .i64 0) ∧ wr.drew.cell? ⟨g, o + i * 12 + 11, none⟩ = some (.int .i64 0) ∧ wr.drew.cell? ⟨h, p + jn * 12, none⟩ = some (.int .i64 1) ∧ wr.drew.cell? ⟨h, p + jn * 12 + 1, none⟩ = some (.int .i64 mt) ∧ wr.drew.cell? ⟨h, p + jn * 12 + 2, none⟩ = some (.string mty) ∧ wr.drew.cell? ⟨h, p + jn * 12 + 3, none⟩ = some (.string mkey) ∧ wr.drew.cell? ⟨h, p + jn * 12 + 4, none⟩ = some (.int .i64 mtm) ∧ wr.drew.cell? ⟨h, p + jn * 12 + 5, none⟩ = some (.int .i64 0) ∧ wr.drew.cell? ⟨h, p + jn * 12 + 6, none⟩ = some (.slice bA vn bc) ∧ wr.drew.cell? ⟨h, p + jn * 12 + 7, none⟩ = some (.int .i64 mT) ∧ wr.drew.cell? ⟨h, p + jn * 12 + 8, none⟩ = some (.string { data := #[] }) ∧ wr.drew.cell? ⟨h, p + jn * 12 + 9, none⟩ = some (.slice none 0 0) ∧ wr.drew.cell? ⟨h, p + jn * 12 + 10, none⟩ = some (.int .i64 0) ∧ wr.drew.cell? ⟨h, p + jn * 12 + 11, none⟩ = some (.int .i64 0)) := HC.out wr.drew (below_drewN (Below.refl _ wr) 1)
                  refine wp_region_noPanic ?_
                  refine wp_region_held_drew (S := (fun X => X.cell? ⟨g, o + i * 12, none⟩ = some (.int .i64 1) ∧ X.cell? ⟨g, o + i * 12 + 1, none⟩ = some (.int .i64 mt) ∧ X.cell? ⟨g, o + i * 12 + 2, none⟩ = some (.string mty) ∧ X.cell? ⟨g, o + i * 12 + 3, none⟩ = some (.string mkey) ∧ X.cell? ⟨g, o + i * 12 + 4, none⟩ = some (.int .i64 mtm) ∧ X.cell? ⟨g, o + i * 12 + 5, none⟩ = some (.int .i64 0) ∧ X.cell? ⟨g, o + i * 12 + 6, none⟩ = some (.slice mA vn mc) ∧ X.cell? ⟨g, o + i * 12 + 7, none⟩ = some (.int .i64 mT) ∧ X.cell? ⟨g, o + i * 12 + 8, none⟩ = some (.string { data := #[] }) ∧ X.cell? ⟨g, o + i * 12 + 9, none⟩ = some (.slice none 0 0) ∧ X.cell? ⟨g, o + i * 12 + 10, none⟩ = some (.int .i64 0) ∧ X.cell? ⟨g, o + i * 12 + 11, none⟩ = some (.int .i64 0) ∧ X.cell? ⟨h, p + jn * 12, none⟩ = some (.int .i64 1) ∧ X.cell? ⟨h, p + jn * 12 + 1, none⟩ = some (.int .i64 mt) ∧ X.cell? ⟨h, p + jn * 12 + 2, none⟩ = some (.string mty) ∧ X.cell? ⟨h, p + jn * 12 + 3, none⟩ = some (.string mkey) ∧ X.cell? ⟨h, p + jn * 12 + 4, none⟩ = some (.int .i64 mtm) ∧ X.cell? ⟨h, p + jn * 12 + 5, none⟩ = some (.int .i64 0) ∧ X.cell? ⟨h, p + jn * 12 + 6, none⟩ = some (.slice bA vn bc) ∧ X.cell? ⟨h, p + jn * 12 + 7, none⟩ = some (.int .i64 mT) ∧ X.cell? ⟨h, p + jn * 12 + 8, none⟩ = some (.string { data := #[] }) ∧ X.cell? ⟨h, p + jn * 12 + 9, none⟩ = some (.slice none 0 0) ∧ X.cell? ⟨h, p + jn * 12 + 10, none⟩ = some (.int .i64 0) ∧ X.cell? ⟨h, p + jn * 12 + 11, none⟩ = some (.int .i64 0))) (by kernel_rfl) ?_ (fun hHeld => ?_)
                  · exact HS0.out
                  refine take_at 0 160 _ (v := ?ve0) rfl rfl (by kernel_rfl) (by kernel_rfl) (by kernel_rfl) (fun _ _ _ h => h) (Or.inl ⟨by rfl, ?hye0⟩) (by assumption) ?reste0
                  case hye0 =>
                    intro wX hSw
                    try dsimp only at hSw
                    go_simp
                    first
                    | done
                    | (with_reducible rfl)
                  try simp only [Act.put, List.setIfInBounds_toArray, List.set_cons_zero, List.set_cons_succ]
                  refine take_at 1 161 _ (v := ?ve1) rfl rfl (by kernel_rfl) (by kernel_rfl) (by kernel_rfl) (fun _ _ _ h => h) (Or.inl ⟨by rfl, ?hye1⟩) (by assumption) ?reste1
                  case hye1 =>
                    intro wX hSw
                    try dsimp only at hSw
                    go_simp
                    first
                    | done
                    | (with_reducible rfl)
                  try simp only [Act.put, List.setIfInBounds_toArray, List.set_cons_zero, List.set_cons_succ]
                  refine take_at 2 162 _ (v := ?ve2) rfl rfl (by kernel_rfl) (by kernel_rfl) (by kernel_rfl) (fun _ _ _ h => h) (Or.inl ⟨by rfl, ?hye2⟩) (by assumption) ?reste2
                  case hye2 =>
                    intro wX hSw
                    try dsimp only at hSw
                    go_simp
                    first
                    | done
                    | (with_reducible rfl)
                  try simp only [Act.put, List.setIfInBounds_toArray, List.set_cons_zero, List.set_cons_succ]
                  refine take_at 3 163 _ (v := .bool false) rfl rfl (by kernel_rfl) (by kernel_rfl) (by kernel_rfl) (fun _ _ _ h => h) (Or.inl ⟨by rfl, ?hye3⟩) (by assumption) ?reste3
                  case hye3 =>
                    intro wX hSw
                    try dsimp only at hSw
                    go_simp
                    first | done | omega
                  try simp only [Act.put, List.setIfInBounds_toArray, List.set_cons_zero, List.set_cons_succ]
                  refine take_at 4 164 _ (v := ?ve4) rfl rfl (by kernel_rfl) (by kernel_rfl) (by kernel_rfl) (fun _ _ _ h => h) (Or.inl ⟨by rfl, ?hye4⟩) (by assumption) ?reste4
                  case hye4 =>
                    intro wX hSw
                    try dsimp only at hSw
                    go_simp
                    first
                    | done
                    | (with_reducible rfl)
                  try simp only [Act.put, List.setIfInBounds_toArray, List.set_cons_zero, List.set_cons_succ]
                  refine take_at 5 165 _ (v := ?ve5) rfl rfl (by kernel_rfl) (by kernel_rfl) (by kernel_rfl) (fun _ _ _ h => h) (Or.inl ⟨by rfl, ?hye5⟩) (by assumption) ?reste5
                  case hye5 =>
                    intro wX hSw
                    try dsimp only at hSw
                    go_simp
                    first
                    | done
                    | (with_reducible rfl)
                  try simp only [Act.put, List.setIfInBounds_toArray, List.set_cons_zero, List.set_cons_succ]
                  refine take_at 6 166 _ (v := ?ve6) rfl rfl (by kernel_rfl) (by kernel_rfl) (by kernel_rfl) (fun _ _ _ h => h) (Or.inl ⟨by rfl, ?hye6⟩) (by assumption) ?reste6
                  case hye6 =>
                    intro wX hSw
                    try dsimp only at hSw
                    go_simp
                    first
                    | done
                    | (with_reducible rfl)
                  try simp only [Act.put, List.setIfInBounds_toArray, List.set_cons_zero, List.set_cons_succ]
                  refine take_at 7 167 _ (v := ?ve7) rfl rfl (by kernel_rfl) (by kernel_rfl) (by kernel_rfl) (fun _ _ _ h => h) (Or.inl ⟨by rfl, ?hye7⟩) (by assumption) ?reste7
                  case hye7 =>
                    intro wX hSw
                    try dsimp only at hSw
                    go_simp
                    first
                    | done
                    | (with_reducible rfl)
                  try simp only [Act.put, List.setIfInBounds_toArray, List.set_cons_zero, List.set_cons_succ]
                  refine take_at 8 168 _ (v := ?ve8) rfl rfl (by kernel_rfl) (by kernel_rfl) (by kernel_rfl) (fun _ _ _ h => h) (Or.inl ⟨by rfl, ?hye8⟩) (by assumption) ?reste8
                  case hye8 =>
                    intro wX hSw
                    try dsimp only at hSw
                    go_simp
                    first
                    | done
                    | (with_reducible rfl)
                  try simp only [Act.put, List.setIfInBounds_toArray, List.set_cons_zero, List.set_cons_succ]
                  refine take_at 9 169 _ (v := ?ve9) rfl rfl (by kernel_rfl) (by kernel_rfl) (by kernel_rfl) (fun _ _ _ h => h) (Or.inl ⟨by rfl, ?hye9⟩) (by assumption) ?reste9
                  case hye9 =>
                    intro wX hSw
                    try dsimp only at hSw
                    go_simp
                    first
                    | done
                    | (with_reducible rfl)
                  try simp only [Act.put, List.setIfInBounds_toArray, List.set_cons_zero, List.set_cons_succ]
                  refine take_at 10 170 _ (v := ?ve10) rfl rfl (by kernel_rfl) (by kernel_rfl) (by kernel_rfl) (fun _ _ _ h => h) (Or.inl ⟨by rfl, ?hye10⟩) (by assumption) ?reste10
                  case hye10 =>
                    intro wX hSw
                    try dsimp only at hSw
                    go_simp
                    first
                    | done
                    | (with_reducible rfl)
                  try simp only [Act.put, List.setIfInBounds_toArray, List.set_cons_zero, List.set_cons_succ]
                  refine take_at 11 171 _ (v := ?ve11) rfl rfl (by kernel_rfl) (by kernel_rfl) (by kernel_rfl) (fun _ _ _ h => h) (Or.inl ⟨by rfl, ?hye11⟩) (by assumption) ?reste11
                  case hye11 =>
                    intro wX hSw
                    try dsimp only at hSw
                    go_simp
                    first
                    | done
                    | (with_reducible rfl)
                  try simp only [Act.put, List.setIfInBounds_toArray, List.set_cons_zero, List.set_cons_succ]
                  refine take_at 12 172 _ (v := ?ve12) rfl rfl (by kernel_rfl) (by kernel_rfl) (by kernel_rfl) (fun _ _ _ h => h) (Or.inl ⟨by rfl, ?hye12⟩) (by assumption) ?reste12
                  case hye12 =>
                    intro wX hSw
                    try dsimp only at hSw
                    go_simp
                    first
                    | done
                    | (with_reducible rfl)
                  try simp only [Act.put, List.setIfInBounds_toArray, List.set_cons_zero, List.set_cons_succ]
                  refine wpAnyH_ready (rs := [13]) (by kernel_rfl) (by simp) ?_
                  refine AllReadyH.cons rfl (fun K hK => ?_) AllReadyH.nil
                  go_simp
                  go_at_call 49
                  (with_reducible refine (m_yes_n 1 mt mtm 0 mT 0 0 mty mkey { data := #[] } mvs vn HVN.out HVY.out HVX.out).mono ?_)
                  rintro e w3 ⟨rfl, hb3⟩
                  have hb23 : Below wr.heap.size wr w3 := below_drewN (Below.refl _ wr) 1 |>.trans hb3
                  have HB3 := Lib.hid hb23
                  have HS3 : Hid (w3.cell? ⟨g, o + i * 12, none⟩ = some (.int .i64 1) ∧ w3.cell? ⟨g, o + i * 12 + 1, none⟩ = some (.int .i64 mt) ∧ w3.cell? ⟨g, o + i * 12 + 2, none⟩ = some (.string mty) ∧ w3.cell? ⟨g, o + i * 12 + 3, none⟩ = some (.string mkey) ∧ w3.cell? ⟨g, o + i * 12 + 4, none⟩ = some (.int .i64 mtm) ∧ w3.cell? ⟨g, o + i * 12 + 5, none⟩ = some (.int .i64 0) ∧ w3.cell? ⟨g, o + i * 12 + 6, none⟩ = some (.slice mA vn mc) ∧ w3.cell? ⟨g, o + i * 12 + 7, none⟩ = some (.int .i64 mT) ∧ w3.cell? ⟨g, o + i * 12 + 8, none⟩ = some (.string { data := #[] }) ∧ w3.cell? ⟨g, o + i * 12 + 9, none⟩ = some (.slice none 0 0) ∧ w3.cell? ⟨g, o + i * 12 + 10, none⟩ = some (.int .i64 0) ∧ w3.cell? ⟨g, o + i * 12 + 11, none⟩ = some (.int .i64 0) ∧ w3.cell? ⟨h, p + jn * 12, none⟩ = some (.int .i64 1) ∧ w3.cell? ⟨h, p + jn * 12 + 1, none⟩ = some (.int .i64 mt) ∧ w3.cell? ⟨h, p + jn * 12 + 2, none⟩ = some (.string mty) ∧ w3.cell? ⟨h, p + jn * 12 + 3, none⟩ = some (.string mkey) ∧ w3.cell? ⟨h, p + jn * 12 + 4, none⟩ = some (.int .i64 mtm) ∧ w3.cell? ⟨h, p + jn * 12 + 5, none⟩ = some (.int .i64 0) ∧ w3.cell? ⟨h, p + jn * 12 + 6, none⟩ = some (.slice bA vn bc) ∧ w3.cell? ⟨h, p + jn * 12 + 7, none⟩ = some (.int .i64 mT) ∧ w3.cell? ⟨h, p + jn * 12 + 8, none⟩ = some (.string { data := #[] }) ∧ w3.cell? ⟨h, p + jn * 12 + 9, none⟩ = some (.slice none 0 0) ∧ w3.cell? ⟨h, p + jn * 12 + 10, none⟩ = some (.int .i64 0) ∧ w3.cell? ⟨h, p + jn * 12 + 11, none⟩ = some (.int .i64 0)) := HC.out w3 hb23
                  clear hb3 hb23
                  try go_wp2_with fail
                  refine hK.out _ _ ?_ (fun hHeld => ?_)
                  · exact HS3.out
                  clear hK K
                  try simp only [Act.put, List.setIfInBounds_toArray, List.set_cons_zero, List.set_cons_succ]
                  refine take_at 14 174 _ (v := ?ve14) rfl rfl (by kernel_rfl) (by kernel_rfl) (by kernel_rfl) (fun _ _ _ h => h) (Or.inl ⟨by rfl, ?hye14⟩) (by assumption) ?reste14
                  case hye14 =>
                    intro wX hSw
                    try dsimp only at hSw
                    go_simp
                    first
                    | done
                    | (with_reducible rfl)
                  try simp only [Act.put, List.setIfInBounds_toArray, List.set_cons_zero, List.set_cons_succ]
                  refine take_at 15 175 _ (v := ?ve15) rfl rfl (by kernel_rfl) (by kernel_rfl) (by kernel_rfl) (fun _ _ _ h => h) (Or.inl ⟨by rfl, ?hye15⟩) (by assumption) ?reste15
                  case hye15 =>
                    intro wX hSw
                    try dsimp only at hSw
                    go_simp
                    first
                    | done
                    | (with_reducible rfl)
                  try simp only [Act.put, List.setIfInBounds_toArray, List.set_cons_zero, List.set_cons_succ]
                  refine take_at 16 176 _ (v := ?ve16) rfl rfl (by kernel_rfl) (by kernel_rfl) (by kernel_rfl) (fun _ _ _ h => h) (Or.inl ⟨by rfl, ?hye16⟩) (by assumption) ?reste16
                  case hye16 =>
                    intro wX hSw
                    try dsimp only at hSw
                    go_simp
                    first
                    | done
                    | (with_reducible rfl)
                  try simp only [Act.put, List.setIfInBounds_toArray, List.set_cons_zero, List.set_cons_succ]
                  refine take_at 17 177 _ (v := ?ve17) rfl rfl (by kernel_rfl) (by kernel_rfl) (by kernel_rfl) (fun _ _ _ h => h) (Or.inl ⟨by rfl, ?hye17⟩) (by assumption) ?reste17
                  case hye17 =>
                    intro wX hSw
                    try dsimp only at hSw
                    go_simp
                    first
                    | done
                    | (with_reducible rfl)
                  try simp only [Act.put, List.setIfInBounds_toArray, List.set_cons_zero, List.set_cons_succ]
                  refine take_at 18 178 _ (v := ?ve18) rfl rfl (by kernel_rfl) (by kernel_rfl) (by kernel_rfl) (fun _ _ _ h => h) (Or.inl ⟨by rfl, ?hye18⟩) (by assumption) ?reste18
                  case hye18 =>
                    intro wX hSw
                    try dsimp only at hSw
                    go_simp
                    first
                    | done
                    | (with_reducible rfl)
                  try simp only [Act.put, List.setIfInBounds_toArray, List.set_cons_zero, List.set_cons_succ]
                  refine take_at 19 179 _ (v := ?ve19) rfl rfl (by kernel_rfl) (by kernel_rfl) (by kernel_rfl) (fun _ _ _ h => h) (Or.inl ⟨by rfl, ?hye19⟩) (by assumption) ?reste19
                  case hye19 =>
                    intro wX hSw
                    try dsimp only at hSw
                    go_simp
                    first
                    | done
                    | (with_reducible rfl)
                  try simp only [Act.put, List.setIfInBounds_toArray, List.set_cons_zero, List.set_cons_succ]
                  refine take_at 20 180 _ (v := ?ve20) rfl rfl (by kernel_rfl) (by kernel_rfl) (by kernel_rfl) (fun _ _ _ h => h) (Or.inl ⟨by rfl, ?hye20⟩) (by assumption) ?reste20
                  case hye20 =>
                    intro wX hSw
                    try dsimp only at hSw
                    go_simp
                    first
                    | done
                    | (with_reducible rfl)
                  try simp only [Act.put, List.setIfInBounds_toArray, List.set_cons_zero, List.set_cons_succ]
                  refine take_at 21 181 _ (v := ?ve21) rfl rfl (by kernel_rfl) (by kernel_rfl) (by kernel_rfl) (fun _ _ _ h => h) (Or.inl ⟨by rfl, ?hye21⟩) (by assumption) ?reste21
                  case hye21 =>
                    intro wX hSw
                    try dsimp only at hSw
                    go_simp
                    first
                    | done
                    | (with_reducible rfl)
                  try simp only [Act.put, List.setIfInBounds_toArray, List.set_cons_zero, List.set_cons_succ]
                  refine take_at 22 182 _ (v := ?ve22) rfl rfl (by kernel_rfl) (by kernel_rfl) (by kernel_rfl) (fun _ _ _ h => h) (Or.inl ⟨by rfl, ?hye22⟩) (by assumption) ?reste22
                  case hye22 =>
                    intro wX hSw
                    try dsimp only at hSw
                    go_simp
                    first
                    | done
                    | (with_reducible rfl)
                  try simp only [Act.put, List.setIfInBounds_toArray, List.set_cons_zero, List.set_cons_succ]
                  refine take_at 23 183 _ (v := ?ve23) rfl rfl (by kernel_rfl) (by kernel_rfl) (by kernel_rfl) (fun _ _ _ h => h) (Or.inl ⟨by rfl, ?hye23⟩) (by assumption) ?reste23
                  case hye23 =>
                    intro wX hSw
                    try dsimp only at hSw
                    go_simp
                    first
                    | done
                    | (with_reducible rfl)
                  try simp only [Act.put, List.setIfInBounds_toArray, List.set_cons_zero, List.set_cons_succ]
                  refine take_at 24 184 _ (v := ?ve24) rfl rfl (by kernel_rfl) (by kernel_rfl) (by kernel_rfl) (fun _ _ _ h => h) (Or.inl ⟨by rfl, ?hye24⟩) (by assumption) ?reste24
                  case hye24 =>
                    intro wX hSw
                    try dsimp only at hSw
                    go_simp
                    first
                    | done
                    | (with_reducible rfl)
                  try simp only [Act.put, List.setIfInBounds_toArray, List.set_cons_zero, List.set_cons_succ]
                  refine take_at 25 185 _ (v := ?ve25) rfl rfl (by kernel_rfl) (by kernel_rfl) (by kernel_rfl) (fun _ _ _ h => h) (Or.inl ⟨by rfl, ?hye25⟩) (by assumption) ?reste25
                  case hye25 =>
                    intro wX hSw
                    try dsimp only at hSw
                    go_simp
                    first
                    | done
                    | (with_reducible rfl)
                  try simp only [Act.put, List.setIfInBounds_toArray, List.set_cons_zero, List.set_cons_succ]
                  refine take_at 26 186 _ (v := ?ve26) rfl rfl (by kernel_rfl) (by kernel_rfl) (by kernel_rfl) (fun _ _ _ h => h) (Or.inl ⟨by rfl, ?hye26⟩) (by assumption) ?reste26
                  case hye26 =>
                    intro wX hSw
                    try dsimp only at hSw
                    go_simp
                    first
                    | done
                    | (with_reducible rfl)
                  try simp only [Act.put, List.setIfInBounds_toArray, List.set_cons_zero, List.set_cons_succ]
                  refine take_at 27 187 _ (v := .bool false) rfl rfl (by kernel_rfl) (by kernel_rfl) (by kernel_rfl) (fun _ _ _ h => h) (Or.inl ⟨by rfl, ?hye27⟩) (by assumption) ?reste27
                  case hye27 =>
                    intro wX hSw
                    try dsimp only at hSw
                    go_simp
                    first | done | (with_reducible rfl) | (simp; done)
                  try simp only [Act.put, List.setIfInBounds_toArray, List.set_cons_zero, List.set_cons_succ]
                  refine take_at 28 188 _ (v := ?ve28) rfl rfl (by kernel_rfl) (by kernel_rfl) (by kernel_rfl) (fun _ _ _ h => h) (Or.inl ⟨by rfl, ?hye28⟩) (by assumption) ?reste28
                  case hye28 =>
                    intro wX hSw
                    try dsimp only at hSw
                    go_simp
                    first
                    | done
                    | (with_reducible rfl)
                  try simp only [Act.put, List.setIfInBounds_toArray, List.set_cons_zero, List.set_cons_succ]
                  refine wpAnyH_done (by kernel_rfl) ?_ _
                  refine NoPanic.normal ?_
                  have HG3 := Lib.hid (HJ.out.2.1.call HB3.out)
                  have HF3 := Lib.hid (HJ.out.2.2.call HB3.out)
                  have HJ3 := Lib.hid HSU.out
                  clear HS0 HS3 HC HJ HVX HVY HX
                  go_wp2
                  go_roundw
                  case rel => exact ⟨i + 1, jn + 1, by omega, by go_num, by go_num, Lib.hid ⟨HJ3.out, HG3.out, HF3.out⟩⟩
                  case measure => simp [intOf]; omega
                · have hpd : ((Hash.partK mkey.data.toList N : Int) == (q : Int)) = false := by simpa using hpq
                  have hno : goes ⟨1, mt, mty, mkey, mtm, 0, mA, mc, mvs, mT, { data := #[] }, none, 0, 0, 0, 0⟩ (q : Int) N = false := by
                    show (if (1 : Int) = 1 then decide ((Hash.partK mkey.data.toList N : Int) = (q : Int)) else _) = false
                    rw [if_pos rfl]
                    exact decide_eq_false hpq
                  have hsu2 : cnt ms N (i + 1) q = (jn : Int) := by rw [HSU0.out, hno, HJ.out.1]; simp
                  have HSU := Lib.hid hsu2
                  clear hsu2 hno
                  go_wp2
                  go_roundw
                  case rel => exact ⟨i + 1, jn, by omega, by go_num, rfl, Lib.hid ⟨HSU.out, HJ.out.2.1, HJ.out.2.2⟩⟩
                  case measure => simp [intOf]; omega
              · have hk2 : (mk != 1) = true := by simp; exact hk1
                have hgo : goes ⟨mk, mt, mty, mkey, mtm, 0, mA, mc, mvs, mT, { data := #[] }, none, 0, 0, 0, 0⟩ (q : Int) N = true := by
                  show (if mk = 1 then _ else decide (0 ≤ (q : Int) ∧ (q : Int) < (N : Int))) = true
                  rw [if_neg hk1]
                  exact decide_eq_true ⟨by omega, hqi⟩
                have hj2 : ((ms.take i).filter fun m => goes m q N).length = jn := by have := HJ.out.1; unfold cnt at this; omega
                have hsu2 : cnt ms N (i + 1) q = ((jn + 1 : Nat) : Int) := by rw [HSU0.out, if_pos hgo, HJ.out.1]; rfl
                have HSU := Lib.hid hsu2
                have hfg := filter_get (p := fun m => goes m q N) HX.out hgo
                rw [hj2] at hfg
                obtain ⟨bA, bc, h, p, ycap, hyv, _, _, hh, hjl, hVY, hcy⟩ := HJ.out.2.2.at hfg
                rw [HL.out] at hyv hjl
                injection hyv with e1 _ e3
                subst e1 e3
                have hjl1 : (jn : Int) < (L : Int) := by omega
                have hjl2 : ¬ (L : Int) ≤ (jn : Int) := by omega
                have HVX : Hid (VS wr.drew mA mc mvs) := HV.out.drewN 1
                have HVY : Hid (VS wr.drew bA bc mvs) := VS.drewN hVY 1
                have hcells : ∀ X, Below wr.heap.size wr X → X.cell? ⟨g, o + i * 12, none⟩ = some (.int .i64 mk) ∧ X.cell? ⟨g, o + i * 12 + 1, none⟩ = some (.int .i64 mt) ∧ X.cell? ⟨g, o + i * 12 + 2, none⟩ = some (.string mty) ∧ X.cell? ⟨g, o + i * 12 + 3, none⟩ = some (.string mkey) ∧ X.cell? ⟨g, o + i * 12 + 4, none⟩ = some (.int .i64 mtm) ∧ X.cell? ⟨g, o + i * 12 + 5, none⟩ = some (.int .i64 0) ∧ X.cell? ⟨g, o + i * 12 + 6, none⟩ = some (.slice mA vn mc) ∧ X.cell? ⟨g, o + i * 12 + 7, none⟩ = some (.int .i64 mT) ∧ X.cell? ⟨g, o + i * 12 + 8, none⟩ = some (.string { data := #[] }) ∧ X.cell? ⟨g, o + i * 12 + 9, none⟩ = some (.slice none 0 0) ∧ X.cell? ⟨g, o + i * 12 + 10, none⟩ = some (.int .i64 0) ∧ X.cell? ⟨g, o + i * 12 + 11, none⟩ = some (.int .i64 0) ∧ X.cell? ⟨h, p + jn * 12, none⟩ = some (.int .i64 mk) ∧ X.cell? ⟨h, p + jn * 12 + 1, none⟩ = some (.int .i64 mt) ∧ X.cell? ⟨h, p + jn * 12 + 2, none⟩ = some (.string mty) ∧ X.cell? ⟨h, p + jn * 12 + 3, none⟩ = some (.string mkey) ∧ X.cell? ⟨h, p + jn * 12 + 4, none⟩ = some (.int .i64 mtm) ∧ X.cell? ⟨h, p + jn * 12 + 5, none⟩ = some (.int .i64 0) ∧ X.cell? ⟨h, p + jn * 12 + 6, none⟩ = some (.slice bA vn bc) ∧ X.cell? ⟨h, p + jn * 12 + 7, none⟩ = some (.int .i64 mT) ∧ X.cell? ⟨h, p + jn * 12 + 8, none⟩ = some (.string { data := #[] }) ∧ X.cell? ⟨h, p + jn * 12 + 9, none⟩ = some (.slice none 0 0) ∧ X.cell? ⟨h, p + jn * 12 + 10, none⟩ = some (.int .i64 0) ∧ X.cell? ⟨h, p + jn * 12 + 11, none⟩ = some (.int .i64 0) := fun X hX =>
                  have h1 := fun n u (hj : (⟨mk, mt, mty, mkey, mtm, 0, mA, mc, mvs, mT, { data := #[] }, none, 0, 0, 0, 0⟩ : Mg).cells[n]? = some u) => (hX.cell (p := ⟨g, o + i * 12 + n, none⟩) hg).trans (HCL.out n u hj)
                  have h2 := fun n u (hj : (⟨mk, mt, mty, mkey, mtm, 0, bA, bc, mvs, mT, { data := #[] }, none, 0, 0, 0, 0⟩ : Mg).cells[n]? = some u) => (hX.cell (p := ⟨h, p + jn * 12 + n, none⟩) hh).trans (hcy n u hj)
                  ⟨h1 0 _ rfl, h1 1 _ rfl, h1 2 _ rfl, h1 3 _ rfl, h1 4 _ rfl, h1 5 _ rfl, by rw [← HVN.out]; exact h1 6 _ rfl, h1 7 _ rfl, h1 8 _ rfl, h1 9 _ rfl, h1 10 _ rfl, h1 11 _ rfl, h2 0 _ rfl, h2 1 _ rfl, h2 2 _ rfl, h2 3 _ rfl, h2 4 _ rfl, h2 5 _ rfl, by rw [← HVN.out]; exact h2 6 _ rfl, h2 7 _ rfl, h2 8 _ rfl, h2 9 _ rfl, h2 10 _ rfl, h2 11 _ rfl⟩
                have HC := Lib.hid hcells
                clear hcells hcy hfg hgo hsu2 hj2 hVY
                go_upto_region 27 with fail
                clear c0 c3
                have HS0 : Hid (wr.drew.cell? ⟨g, o + i * 12, none⟩ = some (.int .i64 mk) ∧ wr.drew.cell? ⟨g, o + i * 12 + 1, none⟩ = some (.int .i64 mt) ∧ wr.drew.cell? ⟨g, o + i * 12 + 2, none⟩ = some (.string mty) ∧ wr.drew.cell? ⟨g, o + i * 12 + 3, none⟩ = some (.string mkey) ∧ wr.drew.cell? ⟨g, o + i * 12 + 4, none⟩ = some (.int .i64 mtm) ∧ wr.drew.cell? ⟨g, o + i * 12 + 5, none⟩ = some (.int .i64 0) ∧ wr.drew.cell? ⟨g, o + i * 12 + 6, none⟩ = some (.slice mA vn mc) ∧ wr.drew.cell? ⟨g, o + i * 12 + 7, none⟩ = some (.int .i64 mT) ∧ wr.drew.cell? ⟨g, o + i * 12 + 8, none⟩ = some (.string { data := #[] }) ∧ wr.drew.cell? ⟨g, o + i * 12 + 9, none⟩ = some (.slice none 0 0) ∧ wr.drew.cell? ⟨g, o + i * 12 + 10, none⟩ = some (.int .i64 0) ∧ wr.drew.cell? ⟨g, o + i * 12 + 11, none⟩ = some (.int .i64 0) ∧ wr.drew.cell? ⟨h, p + jn * 12, none⟩ = some (.int .i64 mk) ∧ wr.drew.cell? ⟨h, p + jn * 12 + 1, none⟩ = some (.int .i64 mt) ∧ wr.drew.cell? ⟨h, p + jn * 12 + 2, none⟩ = some (.string mty) ∧ wr.drew.cell? ⟨h, p + jn * 12 + 3, none⟩ = some (.string mkey) ∧ wr.drew.cell? ⟨h, p + jn * 12 + 4, none⟩ = some (.int .i64 mtm) ∧ wr.drew.cell? ⟨h, p + jn * 12 + 5, none⟩ = some (.int .i64 0) ∧ wr.drew.cell? ⟨h, p + jn * 12 + 6, none⟩ = some (.slice bA vn bc) ∧ wr.drew.cell? ⟨h, p + jn * 12 + 7, none⟩ = some (.int .i64 mT) ∧ wr.drew.cell? ⟨h, p + jn * 12 + 8, none⟩ = some (.string { data := #[] }) ∧ wr.drew.cell? ⟨h, p + jn * 12 + 9, none⟩ = some (.slice none 0 0) ∧ wr.drew.cell? ⟨h, p + jn * 12 + 10, none⟩ = some (.int .i64 0) ∧ wr.drew.cell? ⟨h, p + jn * 12 + 11, none⟩ = some (.int .i64 0)) := HC.out wr.drew (below_drewN (Below.refl _ wr) 1)
                refine wp_region_noPanic ?_
                refine wp_region_held_drew (S := (fun X => X.cell? ⟨g, o + i * 12, none⟩ = some (.int .i64 mk) ∧ X.cell? ⟨g, o + i * 12 + 1, none⟩ = some (.int .i64 mt) ∧ X.cell? ⟨g, o + i * 12 + 2, none⟩ = some (.string mty) ∧ X.cell? ⟨g, o + i * 12 + 3, none⟩ = some (.string mkey) ∧ X.cell? ⟨g, o + i * 12 + 4, none⟩ = some (.int .i64 mtm) ∧ X.cell? ⟨g, o + i * 12 + 5, none⟩ = some (.int .i64 0) ∧ X.cell? ⟨g, o + i * 12 + 6, none⟩ = some (.slice mA vn mc) ∧ X.cell? ⟨g, o + i * 12 + 7, none⟩ = some (.int .i64 mT) ∧ X.cell? ⟨g, o + i * 12 + 8, none⟩ = some (.string { data := #[] }) ∧ X.cell? ⟨g, o + i * 12 + 9, none⟩ = some (.slice none 0 0) ∧ X.cell? ⟨g, o + i * 12 + 10, none⟩ = some (.int .i64 0) ∧ X.cell? ⟨g, o + i * 12 + 11, none⟩ = some (.int .i64 0) ∧ X.cell? ⟨h, p + jn * 12, none⟩ = some (.int .i64 mk) ∧ X.cell? ⟨h, p + jn * 12 + 1, none⟩ = some (.int .i64 mt) ∧ X.cell? ⟨h, p + jn * 12 + 2, none⟩ = some (.string mty) ∧ X.cell? ⟨h, p + jn * 12 + 3, none⟩ = some (.string mkey) ∧ X.cell? ⟨h, p + jn * 12 + 4, none⟩ = some (.int .i64 mtm) ∧ X.cell? ⟨h, p + jn * 12 + 5, none⟩ = some (.int .i64 0) ∧ X.cell? ⟨h, p + jn * 12 + 6, none⟩ = some (.slice bA vn bc) ∧ X.cell? ⟨h, p + jn * 12 + 7, none⟩ = some (.int .i64 mT) ∧ X.cell? ⟨h, p + jn * 12 + 8, none⟩ = some (.string { data := #[] }) ∧ X.cell? ⟨h, p + jn * 12 + 9, none⟩ = some (.slice none 0 0) ∧ X.cell? ⟨h, p + jn * 12 + 10, none⟩ = some (.int .i64 0) ∧ X.cell? ⟨h, p + jn * 12 + 11, none⟩ = some (.int .i64 0))) (by kernel_rfl) ?_ (fun hHeld => ?_)
                · exact HS0.out
                refine take_at 0 160 _ (v := ?vf0) rfl rfl (by kernel_rfl) (by kernel_rfl) (by kernel_rfl) (fun _ _ _ h => h) (Or.inl ⟨by rfl, ?hyf0⟩) (by assumption) ?restf0
                case hyf0 =>
                  intro wX hSw
                  try dsimp only at hSw
                  go_simp
                  first
                  | done
                  | (with_reducible rfl)
                try simp only [Act.put, List.setIfInBounds_toArray, List.set_cons_zero, List.set_cons_succ]
                refine take_at 1 161 _ (v := ?vf1) rfl rfl (by kernel_rfl) (by kernel_rfl) (by kernel_rfl) (fun _ _ _ h => h) (Or.inl ⟨by rfl, ?hyf1⟩) (by assumption) ?restf1
                case hyf1 =>
                  intro wX hSw
                  try dsimp only at hSw
                  go_simp
                  first
                  | done
                  | (with_reducible rfl)
                try simp only [Act.put, List.setIfInBounds_toArray, List.set_cons_zero, List.set_cons_succ]
                refine take_at 2 162 _ (v := ?vf2) rfl rfl (by kernel_rfl) (by kernel_rfl) (by kernel_rfl) (fun _ _ _ h => h) (Or.inl ⟨by rfl, ?hyf2⟩) (by assumption) ?restf2
                case hyf2 =>
                  intro wX hSw
                  try dsimp only at hSw
                  go_simp
                  first
                  | done
                  | (with_reducible rfl)
                try simp only [Act.put, List.setIfInBounds_toArray, List.set_cons_zero, List.set_cons_succ]
                refine take_at 3 163 _ (v := .bool false) rfl rfl (by kernel_rfl) (by kernel_rfl) (by kernel_rfl) (fun _ _ _ h => h) (Or.inl ⟨by rfl, ?hyf3⟩) (by assumption) ?restf3
                case hyf3 =>
                  intro wX hSw
                  try dsimp only at hSw
                  go_simp
                  first | done | omega
                try simp only [Act.put, List.setIfInBounds_toArray, List.set_cons_zero, List.set_cons_succ]
                refine take_at 4 164 _ (v := ?vf4) rfl rfl (by kernel_rfl) (by kernel_rfl) (by kernel_rfl) (fun _ _ _ h => h) (Or.inl ⟨by rfl, ?hyf4⟩) (by assumption) ?restf4
                case hyf4 =>
                  intro wX hSw
                  try dsimp only at hSw
                  go_simp
                  first
                  | done
                  | (with_reducible rfl)
                try simp only [Act.put, List.setIfInBounds_toArray, List.set_cons_zero, List.set_cons_succ]
                refine take_at 5 165 _ (v := ?vf5) rfl rfl (by kernel_rfl) (by kernel_rfl) (by kernel_rfl) (fun _ _ _ h => h) (Or.inl ⟨by rfl, ?hyf5⟩) (by assumption) ?restf5
                case hyf5 =>
                  intro wX hSw
                  try dsimp only at hSw
                  go_simp
                  first
                  | done
                  | (with_reducible rfl)
                try simp only [Act.put, List.setIfInBounds_toArray, List.set_cons_zero, List.set_cons_succ]
                refine take_at 6 166 _ (v := ?vf6) rfl rfl (by kernel_rfl) (by kernel_rfl) (by kernel_rfl) (fun _ _ _ h => h) (Or.inl ⟨by rfl, ?hyf6⟩) (by assumption) ?restf6
                case hyf6 =>
                  intro wX hSw
                  try dsimp only at hSw
                  go_simp
                  first
                  | done
                  | (with_reducible rfl)
                try simp only [Act.put, List.setIfInBounds_toArray, List.set_cons_zero, List.set_cons_succ]
                refine take_at 7 167 _ (v := ?vf7) rfl rfl (by kernel_rfl) (by kernel_rfl) (by kernel_rfl) (fun _ _ _ h => h) (Or.inl ⟨by rfl, ?hyf7⟩) (by assumption) ?restf7
                case hyf7 =>
                  intro wX hSw
                  try dsimp only at hSw
                  go_simp
                  first
                  | done
                  | (with_reducible rfl)
                try simp only [Act.put, List.setIfInBounds_toArray, List.set_cons_zero, List.set_cons_succ]
                refine take_at 8 168 _ (v := ?vf8) rfl rfl (by kernel_rfl) (by kernel_rfl) (by kernel_rfl) (fun _ _ _ h => h) (Or.inl ⟨by rfl, ?hyf8⟩) (by assumption) ?restf8
                case hyf8 =>
                  intro wX hSw
                  try dsimp only at hSw
                  go_simp
                  first
                  | done
                  | (with_reducible rfl)
                try simp only [Act.put, List.setIfInBounds_toArray, List.set_cons_zero, List.set_cons_succ]
                refine take_at 9 169 _ (v := ?vf9) rfl rfl (by kernel_rfl) (by kernel_rfl) (by kernel_rfl) (fun _ _ _ h => h) (Or.inl ⟨by rfl, ?hyf9⟩) (by assumption) ?restf9
                case hyf9 =>
                  intro wX hSw
                  try dsimp only at hSw
                  go_simp
                  first
                  | done
                  | (with_reducible rfl)
                try simp only [Act.put, List.setIfInBounds_toArray, List.set_cons_zero, List.set_cons_succ]
                refine take_at 10 170 _ (v := ?vf10) rfl rfl (by kernel_rfl) (by kernel_rfl) (by kernel_rfl) (fun _ _ _ h => h) (Or.inl ⟨by rfl, ?hyf10⟩) (by assumption) ?restf10
                case hyf10 =>
                  intro wX hSw
                  try dsimp only at hSw
                  go_simp
                  first
                  | done
                  | (with_reducible rfl)
                try simp only [Act.put, List.setIfInBounds_toArray, List.set_cons_zero, List.set_cons_succ]
                refine take_at 11 171 _ (v := ?vf11) rfl rfl (by kernel_rfl) (by kernel_rfl) (by kernel_rfl) (fun _ _ _ h => h) (Or.inl ⟨by rfl, ?hyf11⟩) (by assumption) ?restf11
                case hyf11 =>
                  intro wX hSw
                  try dsimp only at hSw
                  go_simp
                  first
                  | done
                  | (with_reducible rfl)
                try simp only [Act.put, List.setIfInBounds_toArray, List.set_cons_zero, List.set_cons_succ]
                refine take_at 12 172 _ (v := ?vf12) rfl rfl (by kernel_rfl) (by kernel_rfl) (by kernel_rfl) (fun _ _ _ h => h) (Or.inl ⟨by rfl, ?hyf12⟩) (by assumption) ?restf12
                case hyf12 =>
                  intro wX hSw
                  try dsimp only at hSw
                  go_simp
                  first
                  | done
                  | (with_reducible rfl)
                try simp only [Act.put, List.setIfInBounds_toArray, List.set_cons_zero, List.set_cons_succ]
                refine wpAnyH_ready (rs := [13]) (by kernel_rfl) (by simp) ?_
                refine AllReadyH.cons rfl (fun K hK => ?_) AllReadyH.nil
                go_simp
                go_at_call 49
                (with_reducible refine (m_yes_n mk mt mtm 0 mT 0 0 mty mkey { data := #[] } mvs vn HVN.out HVY.out HVX.out).mono ?_)
                rintro e w3 ⟨rfl, hb3⟩
                have hb23 : Below wr.heap.size wr w3 := below_drewN (Below.refl _ wr) 1 |>.trans hb3
                have HB3 := Lib.hid hb23
                have HS3 : Hid (w3.cell? ⟨g, o + i * 12, none⟩ = some (.int .i64 mk) ∧ w3.cell? ⟨g, o + i * 12 + 1, none⟩ = some (.int .i64 mt) ∧ w3.cell? ⟨g, o + i * 12 + 2, none⟩ = some (.string mty) ∧ w3.cell? ⟨g, o + i * 12 + 3, none⟩ = some (.string mkey) ∧ w3.cell? ⟨g, o + i * 12 + 4, none⟩ = some (.int .i64 mtm) ∧ w3.cell? ⟨g, o + i * 12 + 5, none⟩ = some (.int .i64 0) ∧ w3.cell? ⟨g, o + i * 12 + 6, none⟩ = some (.slice mA vn mc) ∧ w3.cell? ⟨g, o + i * 12 + 7, none⟩ = some (.int .i64 mT) ∧ w3.cell? ⟨g, o + i * 12 + 8, none⟩ = some (.string { data := #[] }) ∧ w3.cell? ⟨g, o + i * 12 + 9, none⟩ = some (.slice none 0 0) ∧ w3.cell? ⟨g, o + i * 12 + 10, none⟩ = some (.int .i64 0) ∧ w3.cell? ⟨g, o + i * 12 + 11, none⟩ = some (.int .i64 0) ∧ w3.cell? ⟨h, p + jn * 12, none⟩ = some (.int .i64 mk) ∧ w3.cell? ⟨h, p + jn * 12 + 1, none⟩ = some (.int .i64 mt) ∧ w3.cell? ⟨h, p + jn * 12 + 2, none⟩ = some (.string mty) ∧ w3.cell? ⟨h, p + jn * 12 + 3, none⟩ = some (.string mkey) ∧ w3.cell? ⟨h, p + jn * 12 + 4, none⟩ = some (.int .i64 mtm) ∧ w3.cell? ⟨h, p + jn * 12 + 5, none⟩ = some (.int .i64 0) ∧ w3.cell? ⟨h, p + jn * 12 + 6, none⟩ = some (.slice bA vn bc) ∧ w3.cell? ⟨h, p + jn * 12 + 7, none⟩ = some (.int .i64 mT) ∧ w3.cell? ⟨h, p + jn * 12 + 8, none⟩ = some (.string { data := #[] }) ∧ w3.cell? ⟨h, p + jn * 12 + 9, none⟩ = some (.slice none 0 0) ∧ w3.cell? ⟨h, p + jn * 12 + 10, none⟩ = some (.int .i64 0) ∧ w3.cell? ⟨h, p + jn * 12 + 11, none⟩ = some (.int .i64 0)) := HC.out w3 hb23
                clear hb3 hb23
                try go_wp2_with fail
                refine hK.out _ _ ?_ (fun hHeld => ?_)
                · exact HS3.out
                clear hK K
                try simp only [Act.put, List.setIfInBounds_toArray, List.set_cons_zero, List.set_cons_succ]
                refine take_at 14 174 _ (v := ?vf14) rfl rfl (by kernel_rfl) (by kernel_rfl) (by kernel_rfl) (fun _ _ _ h => h) (Or.inl ⟨by rfl, ?hyf14⟩) (by assumption) ?restf14
                case hyf14 =>
                  intro wX hSw
                  try dsimp only at hSw
                  go_simp
                  first
                  | done
                  | (with_reducible rfl)
                try simp only [Act.put, List.setIfInBounds_toArray, List.set_cons_zero, List.set_cons_succ]
                refine take_at 15 175 _ (v := ?vf15) rfl rfl (by kernel_rfl) (by kernel_rfl) (by kernel_rfl) (fun _ _ _ h => h) (Or.inl ⟨by rfl, ?hyf15⟩) (by assumption) ?restf15
                case hyf15 =>
                  intro wX hSw
                  try dsimp only at hSw
                  go_simp
                  first
                  | done
                  | (with_reducible rfl)
                try simp only [Act.put, List.setIfInBounds_toArray, List.set_cons_zero, List.set_cons_succ]
                refine take_at 16 176 _ (v := ?vf16) rfl rfl (by kernel_rfl) (by kernel_rfl) (by kernel_rfl) (fun _ _ _ h => h) (Or.inl ⟨by rfl, ?hyf16⟩) (by assumption) ?restf16
                case hyf16 =>
                  intro wX hSw
                  try dsimp only at hSw
                  go_simp
                  first
                  | done
                  | (with_reducible rfl)
                try simp only [Act.put, List.setIfInBounds_toArray, List.set_cons_zero, List.set_cons_succ]
                refine take_at 17 177 _ (v := ?vf17) rfl rfl (by kernel_rfl) (by kernel_rfl) (by kernel_rfl) (fun _ _ _ h => h) (Or.inl ⟨by rfl, ?hyf17⟩) (by assumption) ?restf17
                case hyf17 =>
                  intro wX hSw
                  try dsimp only at hSw
                  go_simp
                  first
                  | done
                  | (with_reducible rfl)
                try simp only [Act.put, List.setIfInBounds_toArray, List.set_cons_zero, List.set_cons_succ]
                refine take_at 18 178 _ (v := ?vf18) rfl rfl (by kernel_rfl) (by kernel_rfl) (by kernel_rfl) (fun _ _ _ h => h) (Or.inl ⟨by rfl, ?hyf18⟩) (by assumption) ?restf18
                case hyf18 =>
                  intro wX hSw
                  try dsimp only at hSw
                  go_simp
                  first
                  | done
                  | (with_reducible rfl)
                try simp only [Act.put, List.setIfInBounds_toArray, List.set_cons_zero, List.set_cons_succ]
                refine take_at 19 179 _ (v := ?vf19) rfl rfl (by kernel_rfl) (by kernel_rfl) (by kernel_rfl) (fun _ _ _ h => h) (Or.inl ⟨by rfl, ?hyf19⟩) (by assumption) ?restf19
                case hyf19 =>
                  intro wX hSw
                  try dsimp only at hSw
                  go_simp
                  first
                  | done
                  | (with_reducible rfl)
                try simp only [Act.put, List.setIfInBounds_toArray, List.set_cons_zero, List.set_cons_succ]
                refine take_at 20 180 _ (v := ?vf20) rfl rfl (by kernel_rfl) (by kernel_rfl) (by kernel_rfl) (fun _ _ _ h => h) (Or.inl ⟨by rfl, ?hyf20⟩) (by assumption) ?restf20
                case hyf20 =>
                  intro wX hSw
                  try dsimp only at hSw
                  go_simp
                  first
                  | done
                  | (with_reducible rfl)
                try simp only [Act.put, List.setIfInBounds_toArray, List.set_cons_zero, List.set_cons_succ]
                refine take_at 21 181 _ (v := ?vf21) rfl rfl (by kernel_rfl) (by kernel_rfl) (by kernel_rfl) (fun _ _ _ h => h) (Or.inl ⟨by rfl, ?hyf21⟩) (by assumption) ?restf21
                case hyf21 =>
                  intro wX hSw
                  try dsimp only at hSw
                  go_simp
                  first
                  | done
                  | (with_reducible rfl)
                try simp only [Act.put, List.setIfInBounds_toArray, List.set_cons_zero, List.set_cons_succ]
                refine take_at 22 182 _ (v := ?vf22) rfl rfl (by kernel_rfl) (by kernel_rfl) (by kernel_rfl) (fun _ _ _ h => h) (Or.inl ⟨by rfl, ?hyf22⟩) (by assumption) ?restf22
                case hyf22 =>
                  intro wX hSw
                  try dsimp only at hSw
                  go_simp
                  first
                  | done
                  | (with_reducible rfl)
                try simp only [Act.put, List.setIfInBounds_toArray, List.set_cons_zero, List.set_cons_succ]
                refine take_at 23 183 _ (v := ?vf23) rfl rfl (by kernel_rfl) (by kernel_rfl) (by kernel_rfl) (fun _ _ _ h => h) (Or.inl ⟨by rfl, ?hyf23⟩) (by assumption) ?restf23
                case hyf23 =>
                  intro wX hSw
                  try dsimp only at hSw
                  go_simp
                  first
                  | done
                  | (with_reducible rfl)
                try simp only [Act.put, List.setIfInBounds_toArray, List.set_cons_zero, List.set_cons_succ]
                refine take_at 24 184 _ (v := ?vf24) rfl rfl (by kernel_rfl) (by kernel_rfl) (by kernel_rfl) (fun _ _ _ h => h) (Or.inl ⟨by rfl, ?hyf24⟩) (by assumption) ?restf24
                case hyf24 =>
                  intro wX hSw
                  try dsimp only at hSw
                  go_simp
                  first
                  | done
                  | (with_reducible rfl)
                try simp only [Act.put, List.setIfInBounds_toArray, List.set_cons_zero, List.set_cons_succ]
                refine take_at 25 185 _ (v := ?vf25) rfl rfl (by kernel_rfl) (by kernel_rfl) (by kernel_rfl) (fun _ _ _ h => h) (Or.inl ⟨by rfl, ?hyf25⟩) (by assumption) ?restf25
                case hyf25 =>
                  intro wX hSw
                  try dsimp only at hSw
                  go_simp
                  first
                  | done
                  | (with_reducible rfl)
                try simp only [Act.put, List.setIfInBounds_toArray, List.set_cons_zero, List.set_cons_succ]
                refine take_at 26 186 _ (v := ?vf26) rfl rfl (by kernel_rfl) (by kernel_rfl) (by kernel_rfl) (fun _ _ _ h => h) (Or.inl ⟨by rfl, ?hyf26⟩) (by assumption) ?restf26
                case hyf26 =>
                  intro wX hSw
                  try dsimp only at hSw
                  go_simp
                  first
                  | done
                  | (with_reducible rfl)
                try simp only [Act.put, List.setIfInBounds_toArray, List.set_cons_zero, List.set_cons_succ]
                refine take_at 27 187 _ (v := .bool false) rfl rfl (by kernel_rfl) (by kernel_rfl) (by kernel_rfl) (fun _ _ _ h => h) (Or.inl ⟨by rfl, ?hyf27⟩) (by assumption) ?restf27
                case hyf27 =>
                  intro wX hSw
                  try dsimp only at hSw
                  go_simp
                  first | done | (with_reducible rfl) | (simp; done)
                try simp only [Act.put, List.setIfInBounds_toArray, List.set_cons_zero, List.set_cons_succ]
                refine take_at 28 188 _ (v := ?vf28) rfl rfl (by kernel_rfl) (by kernel_rfl) (by kernel_rfl) (fun _ _ _ h => h) (Or.inl ⟨by rfl, ?hyf28⟩) (by assumption) ?restf28
                case hyf28 =>
                  intro wX hSw
                  try dsimp only at hSw
                  go_simp
                  first
                  | done
                  | (with_reducible rfl)
                try simp only [Act.put, List.setIfInBounds_toArray, List.set_cons_zero, List.set_cons_succ]
                refine wpAnyH_done (by kernel_rfl) ?_ _
                refine NoPanic.normal ?_
                have HG3 := Lib.hid (HJ.out.2.1.call HB3.out)
                have HF3 := Lib.hid (HJ.out.2.2.call HB3.out)
                have HJ3 := Lib.hid HSU.out
                clear HS0 HS3 HC HJ HVX HVY HX
                go_wp2
                go_roundw
                case rel => exact ⟨i + 1, jn + 1, by omega, by go_num, by go_num, Lib.hid ⟨HJ3.out, HG3.out, HF3.out⟩⟩
                case measure => simp [intOf]; omega
            · obtain rfl : i = k := by omega
              have hii : ¬ (i : Int) < (i : Int) := by omega
              have HG5 := Lib.hid HJ.out.2.1
              clear HJ hil hik
              go_wp2
              go_roundw
              case rel => exact ⟨q + 1, by omega, by go_num, HG5⟩
              case measure => simp [intOf]; omega
        · obtain rfl : q = N := by omega
          have hqi : ¬ (q : Int) < (q : Int) := by omega
          have hnil : (ms.filter fun m => goes m (q : Int) q) = [] := by
            rw [List.filter_eq_nil_iff]
            intro m _ h
            unfold goes at h
            split at h
            · have h1 := of_decide_eq_true h
              have h2 := Hash.partK_lt m.key.data.toList q hN1
              omega
            · have h1 := of_decide_eq_true h
              omega
          have HNIL := Lib.hid hnil
          clear hnil hlt hqN
          go_wp2_with fail
          refine (awake_any _).mono ?_
          rintro e w2 ⟨rfl, hb2⟩
          have HG2 := Lib.hid (HG.out.call hb2)
          clear hb2 HG
          go_wp2_with fail
          have hfor := for_any HTW.out (.slice vA k vcap) ms q parts w2 HG2.out.lst (by rw [HM.out]; exact hm20) vA vcap (by rw [HM.out])
          rw [HM.out, HN.out, HNIL.out] at hfor
          refine hfor.mono ?_
          rintro e w3 ⟨v', ob', ys, rfl, hF⟩
          obtain ⟨yA, yc, rfl, hy1, hy2⟩ := hF.seg.form
          have hL := hF.ln
          simp only [List.length_nil] at hL
          rw [hL] at hF hy1 ⊢
          have HBE := Lib.hid (HG2.out.be.trans (hF.be.mono HG2.out.be.size))
          clear hF HG2 hfor hy1 hy2
          go_wp2
          go_ret
          exact ⟨rfl, HBE.out⟩
theorem goes_end {w : World} (A : Option Addr) (n c : Nat) (f : Nat → MI) (hn : n ≤ c) (hc : c ≤ 9223372036854775807) (h : MLies w w.heap.size A n f) (parts : Int) (hp : (Lit.int .i64 parts).wf = true) :
    Calls Try.prog 9 #[.slice A n c, .int .i64 parts] w fun e w' => e = .returned (.bool true) ∧ Below w.heap.size w w' :=
  goes_law twin_is A n c f hn hc parts (bounds_i64 hp) w h
end Go.Proofs.Ytpgacadnmekdhaa.Ms
