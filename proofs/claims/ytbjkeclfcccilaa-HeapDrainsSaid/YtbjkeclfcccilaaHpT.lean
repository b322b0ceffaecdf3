/- The law HeapDrains. -/
import Derived.Test.YtbjkeclfcccilaaHpR
import Derived.Test.YtbjkeclfcccilaaHpS
import Derived.Test.YtbjkeclfcccilaaLaw
import Derived.Test.YtbjkeclfcccilaaBits
import Derived.Test.YtbjkeclfcccilaaOpen
import Derived.Deep.RegionHeld3
import Derived.Test.YtbjkeclfcccilaaHpU
namespace Go.Proofs.Ytbjkeclfcccilaa.Hp
open Go.RowKit Go.Proofs.Ytbjkeclfcccilaa Go.Proofs.Ytbjkeclfcccilaa.Mut
open BigFrame
set_option linter.unusedVariables false
set_option maxRecDepth 100000
attribute [local go_sem] Oper.semAt_some
/-- What the law holds between two pushes: the heap, the plain list; t: what has been put to the heap alone. -/
structure Dr (w wx : World) (hB : Nat) (i : Nat) (v : Value) (ob : Option Nat) (xs : List St) (vm : Value) (om : Option Nat) (m t : List St) : Prop where
  fr : Fresh w wx hB v ob xs
  res : Row wx w.heap.size 4 #[.bool false]
  rn : hB ≠ w.heap.size
  ro : ob ≠ some w.heap.size
  sl : Sl wx vm om m
  mo : ∀ g, om = some g → w.heap.size < g ∧ g ≠ hB ∧ ob ≠ some g
  ord : Hord xs
  prm : xs.Perm (m ++ t)
  len : m.length = i
theorem Dr.call {w w1 w2 : World} {hB i : Nat} {v vm : Value} {ob om : Option Nat} {xs m t : List St} (h : Dr w w1 hB i v ob xs vm om m t) (hb : Below w1.heap.size w1 w2) : Dr w w2 hB i v ob xs vm om m t :=
  ⟨h.fr.call hb, h.res.below hb h.res.lt, h.rn, h.ro, h.sl.turns (Turns.of_below hb) (fun _ _ x => x), h.mo, h.ord, h.prm, h.len⟩
theorem Dr.push {w w1 w2 : World} {hB i : Nat} {v vm v' : Value} {ob om ob' : Option Nat} {xs m : List St} {x : St} (h : Dr w w1 hB i v ob xs vm om m []) (p : Pz w1 w2 hB ob v' ob' (rise (xs ++ [x]) xs.length)) : Dr w w2 hB i v' ob' (rise (xs ++ [x]) xs.length) vm om m [x] := by
  have hres : ¬ (w.heap.size = hB ∨ ob = some w.heap.size) := fun e => e.elim (fun e => h.rn e.symm) h.ro
  refine ⟨h.fr.turn p, h.res.turns p.tr hres, h.rn, fun e => ?_, h.sl.turns p.tr (fun g hg e => e.elim (h.mo g hg).2.1 (h.mo g hg).2.2), fun g hg => ⟨(h.mo g hg).1, (h.mo g hg).2.1, fun e => ?_⟩, push_ord h.ord x, (rise_perm _ _ (by simp)).trans (by have := h.prm; simp at this; exact this.append_right [x]), h.len⟩
  · rcases p.nb with h1 | ⟨g', h1, h2⟩
    · exact h.ro (by rw [← h1]; exact e)
    · rw [h1] at e; injection e with e; subst e; have := h.res.lt; omega
  · rcases p.nb with h1 | ⟨g', h1, h2⟩
    · exact (h.mo g hg).2.2 (by rw [← h1]; exact e)
    · rw [h1] at e; injection e with e; subst e; have := h.sl.lt _ hg; omega
theorem Dr.app {w w1 w2 : World} {hB i : Nat} {v vm : Value} {ob om om' : Option Nat} {xs m : List St} {x : St} {A : Option Addr} {cap : Nat} (h : Dr w w1 hB i v ob xs vm om m [x])
    (hs : Seg w2 28 3 (.slice A (m.length + 1) cap) (m.length + 1) (hcells m ++ x.cells) om') (ht : Turns w1 w2 (fun k => om = some k)) (ho : om' = om ∨ ∃ g, om' = some g ∧ w1.heap.size ≤ g) :
    Dr w w2 hB (i + 1) v ob xs (.slice A (m.length + 1) cap) om' (m ++ [x]) [] := by
  have hgb : ∀ g, om' = some g → w.heap.size < g ∧ g ≠ hB ∧ ob ≠ some g := fun g hg => by
    rcases ho with h1 | ⟨g', h1, h2⟩
    · exact h.mo g (by rw [← h1]; exact hg)
    · rw [h1] at hg
      injection hg with hg
      subst hg
      have e1 := h.res.lt
      have e2 := h.fr.hm.row.lt
      exact ⟨by omega, by omega, fun e => by have := h.fr.hm.seg.lt _ e; omega⟩
  refine ⟨⟨⟨h.fr.hm.row.turns ht (fun e => (h.mo _ e).2.1 rfl), h.fr.hm.seg.turns ht (fun g hg e => (h.mo g e).2.2 hg)⟩, h.fr.b1, h.fr.o1, ht.below h.fr.be h.fr.be.size (fun k hk e => by have := (h.mo k e).1; omega)⟩, h.res.turns ht (fun e => Nat.lt_irrefl _ (h.mo _ e).1), h.rn, h.ro, ?_, hgb, h.ord, by simpa using h.prm, by simp [h.len]⟩
  have e : (m ++ [x]).length = m.length + 1 := by simp
  unfold Sl
  rw [e, hcells_append]
  simpa [hcells] using hs
/-- Between two rounds of the range over Drain. -/
structure Di (v0 W : World) (b : Nat) (ob : Option Nat) (aB : Nat) (pre : List St) : Prop where
  bx : Row W aB 3 #[.int .i64 pre.length]
  tr : Turns v0 W (fun k => k = b ∨ ob = some k ∨ k = aB)
theorem Di.own {v0 W X : World} {b : Nat} {ob : Option Nat} {aB : Nat} {pre : List St} {row : Option Nat} (h : Di v0 W b ob aB pre) (hg : W.grownBy X row) (hr : ∀ r, row = some r → v0.heap.size ≤ r ∧ ∃ o : Obj, W.heap[r]? = some o ∧ o.isCells = false) : Di v0 X b ob aB pre := by
  refine ⟨(hg.block aB h.bx.lt (fun e => ?_)).trans h.bx, h.tr.trans (Turns.of_grown hg) (fun k hk e => by have := (hr k e).1; omega)⟩
  obtain ⟨o, ho1, ho2⟩ := (hr aB e.symm).2
  have := h.bx
  unfold Row at this
  rw [this] at ho1
  cases ho1
  cases ho2
theorem Di.turn {v0 W X : World} {b : Nat} {ob : Option Nat} {aB : Nat} {pre : List St} (h : Di v0 W b ob aB pre) (ha : ¬ (aB = b ∨ ob = some aB)) (t : Turns W X (fun k => k = b ∨ ob = some k)) : Di v0 X b ob aB pre :=
  ⟨h.bx.turns t ha, h.tr.trans t (fun k _ e => e.elim .inl (fun e => .inr (.inl e)))⟩
theorem Di.put {v0 W : World} {b : Nat} {ob : Option Nat} {aB : Nat} {pre : List St} (h : Di v0 W b ob aB pre) {l : Nat} {o : Obj} (o' : Obj) (hl : W.heap[l]? = some o) (ho : o.isCells = false) (hw : v0.heap.size ≤ l) : Di v0 (W.putObj l o') b ob aB pre :=
  ⟨row_put o' hl ho h.bx, turns_put (o := o) o' hw h.tr⟩
theorem Di.next {v0 X : World} {b : Nat} {ob : Option Nat} {aB : Nat} {pre : List St} (h : Di v0 X b ob aB pre) (x : St) (nq : Nat) {q : Nat} (hq : pre.length = q) : Di v0 ((X.drewN nq).setCell ⟨aB, 0, none⟩ (.int .i64 ((q : Int) + 1))) b ob aB (pre ++ [x]) := by
  have hr : Row (X.drewN nq) aB 3 #[.int .i64 pre.length] := h.bx
  refine ⟨?_, (h.tr.drewN nq).put aB 0 _ (fun _ => .inr (.inr rfl))⟩
  have e : (((pre ++ [x]).length : Nat) : Int) = (q : Int) + 1 := by simp [hq]
  rw [e]
  simpa using hr.put 0 (.int .i64 ((q : Int) + 1))
theorem kp_next (B0 aB B : Nat) (X : World) (nq : Nat) (u : Value) : KeepsFrom B X ((X.drewN nq).setCell ⟨aB, 0, none⟩ u) ∧ KpB B0 aB X ((X.drewN nq).setCell ⟨aB, 0, none⟩ u) :=
  ⟨(show KeepsFrom B X (X.drewN nq) from ⟨Nat.le_refl _, fun _ _ _ h _ => h⟩).trans ((KeepsOthers.setCell _ _ _).from _), by simp, fun k o _ hn ho => by rw [heap_setCell_other _ _ _ _ hn]; exact ho⟩
set_option maxHeartbeats 20000000 in
theorem drains_law (A : Option Addr) (n c : Nat) (f : Nat → Int) (ln : n ≤ c) (lc : c ≤ 9223372036854775807) (lb : ∀ k, -9223372036854775808 ≤ f k ∧ f k ≤ 9223372036854775807) {w : World} (ll : Lies w w.heap.size A n (fun k => .int .i64 (f k)))
    (a : Int) (wa : (Lit.int .i64 a).wf = true) :
    Calls Try.prog 3 #[.slice A n c, .int .i64 a] w fun e w' => e = .returned (.bool true) ∧ Below w.heap.size w w' := by
  have HL := Lib.hid ll
  clear ll lb wa
  refine (callsIn_wide (n := 8)).1 ?_
  refine callsIn_of_wp_marks Try.func3 rfl trivial ?_ rfl
  simp only [Try.ntmps3, List.size_toArray, List.length_cons, List.length_nil, Nat.reduceAdd, Nat.reduceSub, Array.replicate_succ, Array.replicate_zero, List.push_toArray, List.append_toArray, List.nil_append, List.cons_append]
  have hF : ∀ k, Fence.wide.fn k := fun _ => trivial
  gi_wp2_with fail
  refine (callsIn_wide.2 (awake_any _)).mono ?_
  rintro e w1 ⟨rfl, hb1⟩
  have hB1 : Below w.heap.size w w1 := Below.trans (by go_grown) (hb1.mono (by simp))
  have r0 : Row w1 w.heap.size 4 #[.bool false] := Row.below (Row.made w _ _) hb1 (by simp)
  have H0 : Hid (Dr w ((w1.alloc (.cells #[.slice none 0 0] 26)).alloc (.cells #[] 28)) w1.heap.size 0 (.slice none 0 0) none [] (.slice (some ⟨w1.heap.size + 1, 0, none⟩) 0 0) none [] []) := Lib.hid
    ⟨⟨⟨(Row.made w1 _ _).alloc _, Seg.nil _ _ _⟩, Nat.le_of_lt r0.lt, (fun _ e => by cases e), (hB1.alloc hB1.size _).alloc (by have := hB1.size; simp; omega) _⟩, (r0.alloc _).alloc _, by have := r0.lt; omega, by simp, empty_sl _ _, (fun _ e => by cases e), (fun i h0 hl => by simp at hl), List.Perm.refl _, rfl⟩
  clear hb1 hB1 r0
  gi_wp2_with fail
  gi_loopw [6, 7] (fun s6 s7 wr => ∃ i : Nat, i ≤ n ∧ i ≤ 30 ∧ s7 = .int .i64 i ∧ Hid (∃ v ob xs om m, Dr w wr w1.heap.size i v ob xs s6 om m [])) (fun _ s7 _ => 30 - (intOf s7).toNat)
  case atStart => exact ⟨0, by omega, by omega, rfl, Lib.hid ⟨_, _, _, _, _, H0.out⟩⟩
  case round =>
    obtain ⟨i, hi, hi30, rfl, hj⟩ := hrel
    obtain ⟨v, ob, xs, om, m, hd⟩ := hj.out
    obtain ⟨V, rfl⟩ : ∃ V, V = wr := ⟨_, rfl⟩
    have HD := Lib.hid hd
    have hml := hd.len
    have hxl : xs.length = i := by have := hd.prm.length_eq; simp at this; omega
    have HML := Lib.hid hml
    have HXL := Lib.hid hxl
    clear hj H0 hml hxl
    by_cases hlt : i < n ∧ i < 30
    · obtain ⟨hin, hi3⟩ := hlt
      obtain ⟨g, o, rfl, hg, hc⟩ := HL.out i hin
      have hx : V.cell? ⟨g, o + i, none⟩ = some (.int .i64 (f i)) := (hd.fr.be.cell (p := ⟨g, o + i, none⟩) hg).trans hc
      have e30 : decide ((i : Int) < 30) = true := by simp; omega
      have hii : (i : Int) < (n : Int) := by omega
      obtain ⟨A6, c6, rfl, hn6, hm6⟩ := hd.sl.form
      obtain ⟨i0, hi0, hz0, hz1, hz2⟩ := info_parts stamp_info
      clear hd hc
      gi_wp2_with fail
      obtain ⟨x, hx2⟩ : ∃ x : St, x = ⟨bits .and .i64 (f i) 15, 0, i⟩ := ⟨_, rfl⟩
      have ex1 : bits .and .i64 (f i) 15 = x.t := by rw [hx2]
      have ex2 : (0 : Int) = x.q := by rw [hx2]
      have ex3 : (i : Int) = x.a := by rw [hx2]
      have hbox := Row.made V 28 #[.int .i64 x.t, .int .i64 x.q, .int .i64 x.a]
      have hd1 := HD.out.call ((Below.refl _ V).alloc (Nat.le_refl _) (.cells #[.int .i64 x.t, .int .i64 x.q, .int .i64 x.a] 28))
      have hpu := push_any w1.heap.size v ob xs x _ hd1.fr.hm (by rw [HXL.out]; omega)
      rw [hx2] at hpu
      have hVb : w1.heap.size < V.heap.size := HD.out.fr.hm.row.lt
      have hVo : ob ≠ some V.heap.size := fun e => by have := HD.out.fr.hm.seg.lt _ e; omega
      refine (callsIn_wide.2 hpu).mono ?_
      rintro e w3 ⟨rfl, v', ob', hp⟩
      rw [← hx2] at hp
      have hd2 := hd1.push hp
      have hb3 := hbox.turns hp.tr (fun e => e.elim (fun e => by omega) hVo)
      have x0 : w3.cell? ⟨V.heap.size, 0, none⟩ = some (.int .i64 x.t) := (hb3.cell 0).trans rfl
      have x1 : w3.cell? ⟨V.heap.size, 1, none⟩ = some (.int .i64 x.q) := (hb3.cell 1).trans rfl
      have x2 : w3.cell? ⟨V.heap.size, 2, none⟩ = some (.int .i64 x.a) := (hb3.cell 2).trans rfl
      have HD2 := Lib.hid hd2
      clear hbox hd1 hpu hp hd2 hb3 hVb hVo hx hx2 ex1 ex2 ex3
      gi_wp2_with (gi_at_builtin; refine wpListIn_append_seg _ rfl _ _ 24 rfl 28 i0 _ 3 24 Try.underlying24 hi0 hz0 hz1 hz2 rfl (by decide) _ m.length (hcells m) om rfl (HD2.out.sl.alloc _) ⟨w3.heap.size, 0, none⟩ 1 1 x.cells rfl rfl (news_row (Row.made w3 _ _)) (by simp [St.cells, Value.oneCell']) (by decide) (by rw [HML.out]; unfold maxLen; omega) (by rw [HML.out]; omega) ?_; intro v2 w5 om2 hs2 ht2 ho2; obtain ⟨A2, cap2, rfl, hn5, hm5⟩ := hs2.form; go_frame)
      have hd5 := Dr.app (HD2.out.call ((Below.refl _ w3).alloc (Nat.le_refl _) (.cells #[.int .i64 x.t, .int .i64 x.q, .int .i64 x.a] 28))) hs2 ht2 ho2
      go_roundw
      case rel => exact ⟨i + 1, by omega, by omega, by go_num, Lib.hid ⟨_, _, _, _, _, hd5⟩⟩
      case measure => simp [intOf]; omega
    · have hend : (i < n ∧ decide ((i : Int) < 30) = false) ∨ ¬ i < n := by
        by_cases h : i < n
        · exact .inl ⟨h, by simp; omega⟩
        · exact .inr h
      obtain ⟨A6, c6, rfl, hn6, hm6⟩ := hd.sl.form
      have hi6 : (n : Int) ≤ (i : Int) ∨ True := .inr trivial
      clear hd hi6
      rcases hend with ⟨hin, h30⟩ | hin
      all_goals
        gi_wp2_with fail
        refine (callsIn_wide.2 (sorted_any _ om m V HD.out.sl (by rw [HML.out]; omega))).mono ?_
        rintro e w2 ⟨vw, ow, rfl, hw2⟩
        have hord := HD.out.ord
        have hprm : xs.Perm m := by have := HD.out.prm; simpa using this
        obtain ⟨hsel, _⟩ := sel_outs m.length hord hprm (Nat.le_refl _)
        have HD2 := Lib.hid (HD.out.call hw2.be)
        obtain ⟨L, hL⟩ : ∃ L, m.length = L := ⟨_, rfl⟩
        have hLi : L = i := by rw [← hL]; exact HML.out
        have hxL : xs.length = L := by rw [HXL.out, hLi]
        rw [hL] at hsel
        have hwl : (sel L m).length = L := sel_len _ _
        have hsw : Sl w2 vw ow (sel L m) := by rw [← hL]; exact hw2.sl
        have how := hw2.own
        obtain ⟨AW, cW, e, hnW, hmW⟩ := hsw.form
        rw [hwl] at e hnW
        subst e
        have HSW := Lib.hid hsw
        have HSEL := Lib.hid hsel
        have HXL2 := Lib.hid hxL
        have HWL := Lib.hid hwl
        have hL30 : L ≤ 30 := by omega
        obtain ⟨r, hr⟩ : ∃ r : Nat, bits .and .i64 a 31 = (r : Int) := ⟨(a % 32).toNat, by rw [and31]; omega⟩
        have hr31 : r ≤ 31 := by have := and31 a; omega
        have hbw : w1.heap.size < w2.heap.size := HD2.out.fr.hm.row.lt
        have how2 : w.heap.size < w2.heap.size := HD2.out.res.lt
        have hobw : ∀ g, ob = some g → g < w2.heap.size := HD2.out.fr.hm.seg.lt
        have HOB := Lib.hid hobw
        have HR := Lib.hid hr
        have HOW := Lib.hid how
        clear hw2 hord hprm hsel hL hLi hxL hwl hsw hobw hr how
        gi_wp2_with fail
        refine (callsIn_wide.2 (drain_any _ _)).mono ?_
        rintro e w3 ⟨rfl, rfl⟩
        gi_wp2_with fail
        rw [HR.out]
        have rW := ((((Row.made w2 24 #[.slice AW L cW]).alloc (.cells #[.int .i64 r] 3)).alloc (.cells #[.int .i64 0] 3)).alloc (.cells #[.pointer (some ⟨w1.heap.size, 0, none⟩)] 34)).alloc (.cells #[.func (.func 15) #[] #[]] 29)
        have rK := (((Row.made (w2.alloc (.cells #[.slice AW L cW] 24)) 3 #[.int .i64 r]).alloc (.cells #[.int .i64 0] 3)).alloc (.cells #[.pointer (some ⟨w1.heap.size, 0, none⟩)] 34)).alloc (.cells #[.func (.func 15) #[] #[]] 29)
        have rA := ((Row.made ((w2.alloc (.cells #[.slice AW L cW] 24)).alloc (.cells #[.int .i64 r] 3)) 3 #[.int .i64 0]).alloc (.cells #[.pointer (some ⟨w1.heap.size, 0, none⟩)] 34)).alloc (.cells #[.func (.func 15) #[] #[]] 29)
        have rP := (Row.made (((w2.alloc (.cells #[.slice AW L cW] 24)).alloc (.cells #[.int .i64 r] 3)).alloc (.cells #[.int .i64 0] 3)) 34 #[.pointer (some ⟨w1.heap.size, 0, none⟩)]).alloc (.cells #[.func (.func 15) #[] #[]] 29)
        have rF := Row.made ((((w2.alloc (.cells #[.slice AW L cW] 24)).alloc (.cells #[.int .i64 r] 3)).alloc (.cells #[.int .i64 0] 3)).alloc (.cells #[.pointer (some ⟨w1.heap.size, 0, none⟩)] 34)) 29 #[.func (.func 15) #[] #[]]
        simp only [World.size_alloc] at rK rA rP rF
        have hB0 : Below w2.heap.size w2 (((((w2.alloc (.cells #[.slice AW L cW] 24)).alloc (.cells #[.int .i64 r] 3)).alloc (.cells #[.int .i64 0] 3)).alloc (.cells #[.pointer (some ⟨w1.heap.size, 0, none⟩)] 34)).alloc (.cells #[.func (.func 15) #[] #[]] 29)) := by go_grown
        have hs0 : (((((w2.alloc (.cells #[.slice AW L cW] 24)).alloc (.cells #[.int .i64 r] 3)).alloc (.cells #[.int .i64 0] 3)).alloc (.cells #[.pointer (some ⟨w1.heap.size, 0, none⟩)] 34)).alloc (.cells #[.func (.func 15) #[] #[]] 29)).heap.size = w2.heap.size + 5 := by simp
        generalize (((((w2.alloc (.cells #[.slice AW L cW] 24)).alloc (.cells #[.int .i64 r] 3)).alloc (.cells #[.int .i64 0] 3)).alloc (.cells #[.pointer (some ⟨w1.heap.size, 0, none⟩)] 34)).alloc (.cells #[.func (.func 15) #[] #[]] 29)) = v0 at rW rK rA rP rF hB0 hs0 ⊢
        have HRW := Lib.hid rW
        have HRK := Lib.hid rK
        have HRA := Lib.hid rA
        have HB0 := Lib.hid hB0
        have HD0 := Lib.hid (HD2.out.call hB0)
        have HSW0 := Lib.hid (HSW.out.turns (Turns.of_below hB0) (fun _ _ x => x))
        clear rW rK rA hB0
        have hTT : ∀ k, w2.heap.size ≤ k → ¬ (k = w1.heap.size ∨ ob = some k) := fun k hk => by
          rintro (e | e)
          · omega
          · have := HOB.out k e; omega
        have HTT := Lib.hid hTT
        have hnW : ¬ (w.heap.size = w1.heap.size ∨ ob = some w.heap.size) := fun e => e.elim (fun e => HD0.out.rn e.symm) HD0.out.ro
        have HNW := Lib.hid hnW
        clear hTT hnW
        refine wpIn_rangeMut rfl (by omega) (gf := 21) (lb := #[.pointer (some ⟨w2.heap.size + 1 + 1 + 1, 0, none⟩), .pointer (some ⟨w2.heap.size + 1 + 1 + 1 + 1, 0, none⟩)]) rfl trivial (enters_of Try.func21 (by kernel_rfl) rfl)
          (walks_drain 7 _ _ w1.heap.size ob v xs (by rw [HXL2.out]; omega) v0.heap.size (w2.heap.size + 1 + 1) v0 ⟨by omega, by omega, fun g hg => by have := HOB.out g hg; omega⟩ (by omega) (by omega) (HTT.out _ (by omega)) (HTT.out _ (by omega)) rP rF HD0.out.fr.hm)
          (fun k hk => by rcases hk with e | e; omega; have := HOB.out k e; omega) (fun h k => kpB_t h k) (fun W l o hl => ⟨by simp, fun k o' hk _ ho => (World.putObj_heap_other (by omega)).trans ho⟩) (Below.refl _ _) (fun _ => rfl)
          (fun c => pulled_own _ _ _ _ _ _)
          (fun pre W => Di v0 W w1.heap.size ob (w2.heap.size + 1 + 1) pre ∧ pre.length ≤ r) (fun c pre W => c = .exit 2 ∧ Di v0 W w1.heap.size ob (w2.heap.size + 1 + 1) pre ∧ pre.length = r + 1)
          (fun pre A B row h hg hr => ⟨h.1.own hg hr, h.2⟩) (fun s A B h t => ⟨h.1.turn (HTT.out _ (by omega)) t, h.2⟩) (fun c pre A B row h hg hr => ⟨h.1, h.2.1.own hg hr, h.2.2⟩) (fun c s A B h t => ⟨h.1, h.2.1.turn (HTT.out _ (by omega)) t, h.2.2⟩)
          ⟨⟨HRA.out, Turns.refl _ _⟩, Nat.zero_le _⟩ ?round ?done ?stop
        case round =>
          intro l pre x W hl hI hnx
          gi_wp2_with fail
          obtain ⟨hdi, hqr⟩ := hI
          obtain ⟨hql, _, hxq⟩ := hnx
          obtain ⟨q, hq⟩ : ∃ q, pre.length = q := ⟨_, rfl⟩
          refine ⟨(KeepsOthers.alloc _ _).from _, ⟨by simp, fun k o hk _ ho => (Below.heap_alloc W _ k (Array.getElem?_eq_some_iff.1 ho).1).trans ho⟩, fun o o' ho hlo => ?_⟩
          have hbx := row_put o' hlo ho (Row.made W 28 #[.int .i64 x.t, .int .i64 x.q, .int .i64 x.a])
          have hdx := (show Di v0 (W.alloc (.cells #[.int .i64 x.t, .int .i64 x.q, .int .i64 x.a] 28)) w1.heap.size ob (w2.heap.size + 1 + 1) pre from ⟨hdi.bx.alloc _, hdi.tr.alloc _⟩).put o' hlo ho hl
          generalize (W.alloc (.cells #[.int .i64 x.t, .int .i64 x.q, .int .i64 x.a] 28)).putObj l o' = X at hbx hdx ⊢
          have hwv : v0.heap.size ≤ W.heap.size := hdi.tr.size
          generalize W.heap.size = xB at hbx hwv ⊢
          have x0 : X.cell? ⟨xB, 0, none⟩ = some (.int .i64 x.t) := (hbx.cell 0).trans rfl
          have x1 : X.cell? ⟨xB, 1, none⟩ = some (.int .i64 x.q) := (hbx.cell 1).trans rfl
          have x2 : X.cell? ⟨xB, 2, none⟩ = some (.int .i64 x.a) := (hbx.cell 2).trans rfl
          have hT3 : ∀ k, w2.heap.size ≤ k → k ≠ w2.heap.size + 1 + 1 → ¬ (k = w1.heap.size ∨ ob = some k ∨ k = w2.heap.size + 1 + 1) := fun k hk hn => by
            rintro (e | e | e)
            · omega
            · have := HOB.out k e; omega
            · exact hn e
          have c1 : X.cell? ⟨w2.heap.size + 1 + 1, 0, none⟩ = some (.int .i64 q) := by rw [← hq]; exact (hdx.bx.cell 0).trans rfl
          have f1 : X.frozen? ⟨w2.heap.size + 1 + 1, 0, none⟩ = false := hdx.bx.free 0
          have c2 : X.cell? ⟨w2.heap.size + 1, 0, none⟩ = some (.int .i64 r) := ((HRK.out.turns hdx.tr (hT3 _ (by omega) (by omega))).cell 0).trans rfl
          have c3 : X.cell? ⟨w2.heap.size, 0, none⟩ = some (.slice AW L cW) := ((HRW.out.turns hdx.tr (hT3 _ (by omega) (by omega))).cell 0).trans rfl
          have hsx : Sl X (.slice AW L cW) ow (sel L m) := HSW0.out.turns hdx.tr (fun g hg e => by
            have h1 := HOW.out g hg
            have h2 := HSW.out.lt g hg
            rcases e with e | e | e
            · have := HD.out.fr.hm.row.lt; omega
            · have := HD.out.fr.hm.seg.lt g e; omega
            · omega)
          rw [HXL2.out, hq] at hql
          obtain ⟨gw, ow', cW', e, _, hn1, hn2, hcl⟩ := hsx.at (by rw [HWL.out]; omega)
          rw [HWL.out] at e hn1
          injection e with e1 e2 e3
          subst e1 e3
          obtain ⟨d0, d1, d2⟩ := hcl q (by rw [HWL.out]; exact hql)
          have hxv : gt (sel L m) q = x := by rw [HSEL.out, outs_get L xs q hql, hxq, hq]
          rw [hxv] at d0 d1 d2
          have hqL : (q : Int) < (L : Int) := by omega
          have hqd : decide ((L : Int) ≤ (q : Int)) = false := decide_eq_false (by omega)
          have hqd2 : decide (L ≤ q) = false := decide_eq_false (by omega)
          have hqd3 : ¬ (L : Int) ≤ (q : Int) := by omega
          have hdec : (q = r ∧ (r : Int) < (q : Int) + 1) ∨ (q < r ∧ ¬ (r : Int) < (q : Int) + 1 ∧ (q : Int) + 1 ≤ (r : Int)) := by omega
          have HDX := Lib.hid hdx
          have HQ := Lib.hid hq
          obtain ⟨p, hp⟩ : ∃ p, ow' + q * 3 = p := ⟨_, rfl⟩
          rw [hp] at d0 d1 d2
          clear hdi hxq hq hbx hdx hT3 hsx hcl hxv e2 hwv hlo ho hqr
          rcases hdec with ⟨hqr, hd1⟩ | ⟨hqr, hd1, hd2⟩
          · have HQR := Lib.hid hqr
            clear hqr
            gi_wp2_with fail
            refine region_quiet_round rfl (by kernel_rfl) (by kernel_rfl) (by kernel_rfl) ?_
            repeat (gi_big_quiet_step (fail))
            refine wpQuietIn_nil ?_
            intro _ hw'
            obtain ⟨nq, hw''⟩ := hw'
            subst hw''
            gi_wp2
            exact ⟨(kp_next 0 _ _ _ _ _).1, (kp_next _ _ 0 _ _ _).2, rfl, HDX.out.next x nq HQ.out, by simp [HQ.out, HQR.out]⟩
          · have HQR := Lib.hid hqr
            clear hqr
            gi_wp2_with fail
            refine region_quiet_round rfl (by kernel_rfl) (by kernel_rfl) (by kernel_rfl) ?_
            repeat (gi_big_quiet_step (fail))
            refine wpQuietIn_nil ?_
            intro _ hw'
            obtain ⟨nq, hw''⟩ := hw'
            subst hw''
            gi_wp2
            exact ⟨(kp_next 0 _ _ _ _ _).1, (kp_next _ _ 0 _ _ _).2, HDX.out.next x nq HQ.out, by simp [HQ.out]; exact HQR.out⟩
        case done =>
          rintro D ys W hD ⟨kk, v9, hys, hkl, hm9, _, hend⟩ ⟨hdi, hle⟩ hK
          have hkk : kk = L := by rcases hend rfl with h | h; rw [h, HXL2.out]; cases h
          subst hkk
          have hyl : ys.length = kk := by rw [hys, outs_len]
          rw [hyl] at hle
          have hpl : (pops kk xs).length = 0 := by rw [pops_len, HXL2.out]; omega
          have rAt : Row W (w2.heap.size + 1 + 1) 3 #[.int .i64 kk] := by rw [← hyl]; exact hdi.bx
          have hT3 : ∀ k, w2.heap.size ≤ k → k ≠ w2.heap.size + 1 + 1 → ¬ (k = w1.heap.size ∨ ob = some k ∨ k = w2.heap.size + 1 + 1) := fun k hk hn => by
            rintro (e | e | e)
            · omega
            · have := HOB.out k e; omega
            · exact hn e
          have rK := HRK.out.turns hdi.tr (hT3 _ (by omega) (by omega))
          have rW := HRW.out.turns hdi.tr (hT3 _ (by omega) (by omega))
          have r4 := HD0.out.res.turns hdi.tr (fun e => by
            rcases e with e | e | e
            · exact HNW.out (.inl e)
            · exact HNW.out (.inr e)
            · omega)
          have htr := hdi.tr
          have hwv : v0.heap.size ≤ W.heap.size := hdi.tr.size
          clear hT3 hdi
          have hmr : (kk : Int) < (r : Int) + 1 := by omega
          have hmn : ¬ (r : Int) + 1 ≤ (kk : Int) := by omega
          have hln := len_any w1.heap.size v9 ob (pops kk xs)
          rw [hpl] at hln
          have HRA := Lib.hid rAt
          have HRK := Lib.hid rK
          have HRW := Lib.hid rW
          have HR4 := Lib.hid r4
          have HMH := Lib.hid hm9
          have HTR := Lib.hid htr
          have HKD := Lib.hid hK
          have HDD := Lib.hid hD
          clear rAt rK rW r4 hm9 htr hK hD
          gi_wp2_with fail
          refine (callsIn_wide.2 (pop_nil _)).mono ?_
          rintro e w6 ⟨rfl, hb6⟩
          have hb7 : Below W.heap.size W (w6.alloc (.cells #[.int .i64 0, .int .i64 0, .int .i64 0] 28)) := hb6.alloc hb6.size _
          have HB7 := Lib.hid hb7
          have hsz7 : W.heap.size ≤ (w6.alloc (.cells #[.int .i64 0, .int .i64 0, .int .i64 0] 28)).heap.size := hb7.size
          have k1 : (w6.alloc (.cells #[.int .i64 0, .int .i64 0, .int .i64 0] 28)).cell? ⟨w2.heap.size + 1 + 1, 0, none⟩ = some (.int .i64 kk) := ((HRA.out.below hb7 HRA.out.lt).cell 0).trans rfl
          have k2 : (w6.alloc (.cells #[.int .i64 0, .int .i64 0, .int .i64 0] 28)).cell? ⟨w2.heap.size + 1, 0, none⟩ = some (.int .i64 r) := ((HRK.out.below hb7 HRK.out.lt).cell 0).trans rfl
          have k3 : (w6.alloc (.cells #[.int .i64 0, .int .i64 0, .int .i64 0] 28)).cell? ⟨w2.heap.size, 0, none⟩ = some (.slice AW kk cW) := ((HRW.out.below hb7 HRW.out.lt).cell 0).trans rfl
          clear hb6 hb7
          gi_wp2_with fail
          generalize w6.alloc (.cells #[.int .i64 0, .int .i64 0, .int .i64 0] 28) = W7 at HB7 hsz7 k1 k2 k3 ⊢
          refine wpIn_wide.2 ?_
          try simp only [List.append_eq, List.cons_append, List.nil_append]
          have hkeep : ∀ X, Below W7.heap.size W7 X → X.cell? ⟨w2.heap.size + 1 + 1, 0, none⟩ = some (.int .i64 kk) ∧ X.cell? ⟨w2.heap.size + 1, 0, none⟩ = some (.int .i64 r) ∧ X.cell? ⟨w2.heap.size, 0, none⟩ = some (.slice AW kk cW) := fun X hX =>
            ⟨(hX.cell (p := ⟨w2.heap.size + 1 + 1, 0, none⟩) (Nat.lt_of_lt_of_le HRA.out.lt hsz7)).trans k1, (hX.cell (p := ⟨w2.heap.size + 1, 0, none⟩) (Nat.lt_of_lt_of_le HRK.out.lt hsz7)).trans k2, (hX.cell (p := ⟨w2.heap.size, 0, none⟩) (Nat.lt_of_lt_of_le HRW.out.lt hsz7)).trans k3⟩
          have hstore : ∀ (X : World) (u : Value), (X.cell? ⟨w2.heap.size + 1 + 1, 0, none⟩ = some (.int .i64 kk) ∧ X.cell? ⟨w2.heap.size + 1, 0, none⟩ = some (.int .i64 r) ∧ X.cell? ⟨w2.heap.size, 0, none⟩ = some (.slice AW kk cW)) →
              ((X.setCell ⟨w.heap.size, 0, none⟩ u).cell? ⟨w2.heap.size + 1 + 1, 0, none⟩ = some (.int .i64 kk) ∧ (X.setCell ⟨w.heap.size, 0, none⟩ u).cell? ⟨w2.heap.size + 1, 0, none⟩ = some (.int .i64 r) ∧ (X.setCell ⟨w.heap.size, 0, none⟩ u).cell? ⟨w2.heap.size, 0, none⟩ = some (.slice AW kk cW)) := fun X u ⟨q0, q1, q2⟩ =>
            ⟨(World.cell?_setCell_other _ _ _ _ (by first | (simp; done) | (simp; omega))).trans q0, (World.cell?_setCell_other _ _ _ _ (by first | (simp; done) | (simp; omega))).trans q1, (World.cell?_setCell_other _ _ _ _ (by first | (simp; done) | (simp; omega))).trans q2⟩
          have HKEEP := Lib.hid hkeep
          have HSTORE := Lib.hid hstore
          clear hkeep hstore
          have hwr : IntKind.i64.wrap ((r : Int) + 1) = (r : Int) + 1 := by rw [IntKind.wrap_i64]; omega
          have hw00 : IntKind.i64.wrap (0 : Int) = 0 := by rw [IntKind.wrap_i64]; decide
          have HLN := Lib.hid hln
          have H47 := Lib.hid (HR4.out.below HB7.out HR4.out.lt)
          have HM7 := Lib.hid (HMH.out.call HB7.out)
          clear hln hsz7
          go_region_held3 (fun X => X.cell? ⟨w2.heap.size + 1 + 1, 0, none⟩ = some (.int .i64 kk) ∧ X.cell? ⟨w2.heap.size + 1, 0, none⟩ = some (.int .i64 r) ∧ X.cell? ⟨w2.heap.size, 0, none⟩ = some (.slice AW kk cW))
            (first
              | exact ⟨k1, k2, k3⟩
              | exact HSTORE.out _ _ (HKEEP.out _ HB9.out)
              | exact HKEEP.out _ HB9.out
              | exact HKEEP.out _ HB8.out
              | fail)
            ((first
              | (
                  go_at_call 4
                  refine (awake_any _).mono ?_
                  rintro e w8 ⟨rfl, hb8⟩
                  have h8 : Below W7.heap.size W7 w8 := Below.trans (by go_grown) hb8
                  have HB8 := Lib.hid h8
                  have HM8 := Lib.hid (HM7.out.call h8)
                  have H48 := Lib.hid (H47.out.below h8 H47.out.lt)
                  clear hb8 h8)
              | (
                  go_at_call 9
                  (with_reducible refine (len_nil _).mono ?_)
                  rintro e w' ⟨rfl, rfl⟩)
              | (
                  go_at_call 9
                  refine (HLN.out _ HM8.out).mono ?_
                  rintro e w' ⟨rfl, rfl⟩)
              | (
                  go_at_call 5
                  refine (push_nil z _).mono ?_
                  rintro e w9 ⟨rfl, hb9⟩
                  have h9 : Below w8.heap.size w8 w9 := Below.trans (by go_grown) hb9
                  have HB9 := Lib.hid (HB8.out.trans (h9.mono HB8.out.size))
                  have h49 := H48.out.below h9 H48.out.lt
                  have e9 : w9.cell? ⟨w.heap.size, 0, none⟩ = some (.bool false) := (h49.cell 0).trans rfl
                  have f9 : w9.frozen? ⟨w.heap.size, 0, none⟩ = false := h49.free 0
                  clear hb9 h9 h49)
              | (
                  go_at_call 10
                  (with_reducible refine (all_nil _).mono ?_)
                  rintro e w' ⟨rfl, rfl⟩)))
          have hBW : Below w.heap.size w W := HTR.out.below HD0.out.fr.be HD0.out.fr.be.size (fun k hk e => by
            rcases e with e | e | e
            · have := HD0.out.fr.b1; omega
            · have := HD0.out.fr.o1 k e; omega
            · omega)
          have B79 : Below W.heap.size W w9 := HB7.out.trans (HB9.out.mono HB7.out.size)
          have hDW : D < W.heap.size := (Array.getElem?_eq_some_iff.1 HKD.out).1
          have hDw : w.heap.size ≤ D := by have h1 := HDD.out; omega
          have hK6 : w9.heap[D]? = some (.deferred (some [])) := (B79.block D hDW).trans HKD.out
          have hK7 := (KeepsOthers.setCell w9 ⟨w.heap.size, 0, none⟩ (.bool true)).same D _ hK6 rfl
          have hc7 := cell_kept (World.cell?_setCell_same' w9 ⟨w.heap.size, 0, none⟩ (.bool true) (by rw [e9]; rfl)) (grownBy_putObj' _ D (.deferred none)) (fun r e => by cases e; exact ⟨_, hK7, rfl⟩)
          have hBF := hBW.trans (B79.mono hBW.size)
          gi_wp2
          refine ⟨by simp, .inl ⟨_, _, rfl, run_takeDeferred hK7, ?_⟩⟩
          refine ⟨.bool true, ?_, rfl, (hBF.setCell (p := ⟨w.heap.size, 0, none⟩) (Nat.le_refl _) _).trans (belowK_b (w := w) (Nat.le_refl _) _ D _ _ hDw hK7 rfl rfl)⟩
          simp [results, Try.f3, go_sem, hc7]
        case stop =>
          rintro D cc ys W hD ⟨kk, v9, hys, hkl, hm9, _, _⟩ ⟨rfl, hdi, hle⟩ hK
          have hyl : ys.length = kk := by rw [hys, outs_len]
          have hkr : kk = r + 1 := by rw [← hyl]; exact hle
          subst hkr
          rw [HXL2.out] at hkl
          obtain ⟨d, hd9⟩ : ∃ d : Nat, L - (r + 1) = d := ⟨_, rfl⟩
          have hpl : (pops (r + 1) xs).length = d := by rw [pops_len, HXL2.out]; exact hd9
          have rAt : Row W (w2.heap.size + 1 + 1) 3 #[.int .i64 ((r : Int) + 1)] := by have := hdi.bx; rw [hyl] at this; exact this
          have hT3 : ∀ k, w2.heap.size ≤ k → k ≠ w2.heap.size + 1 + 1 → ¬ (k = w1.heap.size ∨ ob = some k ∨ k = w2.heap.size + 1 + 1) := fun k hk hn => by
            rintro (e | e | e)
            · omega
            · have := HOB.out k e; omega
            · exact hn e
          have rK := HRK.out.turns hdi.tr (hT3 _ (by omega) (by omega))
          have rW := HRW.out.turns hdi.tr (hT3 _ (by omega) (by omega))
          have r4 := HD0.out.res.turns hdi.tr (fun e => by
            rcases e with e | e | e
            · exact HNW.out (.inl e)
            · exact HNW.out (.inr e)
            · omega)
          have htr := hdi.tr
          have hwv : v0.heap.size ≤ W.heap.size := hdi.tr.size
          clear hT3 hdi
          have hmr : ¬ ((L : Int) < (r : Int) + 1) := by omega
          have hmn : (r : Int) + 1 ≤ (L : Int) := by omega
          have hs1 : ¬ (L ≤ r) := by omega
          have hs5 : (if (L : Int) < (r : Int) + 1 then (L : Int) else (r : Int) + 1) = (r : Int) + 1 := if_neg hmr
          have hdd : (L : Int) - ((r : Int) + 1) = (d : Int) := by omega
          have hwd : IntKind.i64.wrap (d : Int) = (d : Int) := by rw [IntKind.wrap_i64]; omega
          have hln := len_any w1.heap.size v9 ob (pops (r + 1) xs)
          rw [hpl] at hln
          clear hd9 hys hyl hle
          have HRA := Lib.hid rAt
          have HRK := Lib.hid rK
          have HRW := Lib.hid rW
          have HR4 := Lib.hid r4
          have HMH := Lib.hid hm9
          have HTR := Lib.hid htr
          have HKD := Lib.hid hK
          have HDD := Lib.hid hD
          clear rAt rK rW r4 hm9 htr hK hD
          gi_wp2_with fail
          refine (callsIn_wide.2 (pop_nil _)).mono ?_
          rintro e w6 ⟨rfl, hb6⟩
          have hb7 : Below W.heap.size W (w6.alloc (.cells #[.int .i64 0, .int .i64 0, .int .i64 0] 28)) := hb6.alloc hb6.size _
          have HB7 := Lib.hid hb7
          have hsz7 : W.heap.size ≤ (w6.alloc (.cells #[.int .i64 0, .int .i64 0, .int .i64 0] 28)).heap.size := hb7.size
          have k1 : (w6.alloc (.cells #[.int .i64 0, .int .i64 0, .int .i64 0] 28)).cell? ⟨w2.heap.size + 1 + 1, 0, none⟩ = some (.int .i64 ((r : Int) + 1)) := ((HRA.out.below hb7 HRA.out.lt).cell 0).trans rfl
          have k2 : (w6.alloc (.cells #[.int .i64 0, .int .i64 0, .int .i64 0] 28)).cell? ⟨w2.heap.size + 1, 0, none⟩ = some (.int .i64 r) := ((HRK.out.below hb7 HRK.out.lt).cell 0).trans rfl
          have k3 : (w6.alloc (.cells #[.int .i64 0, .int .i64 0, .int .i64 0] 28)).cell? ⟨w2.heap.size, 0, none⟩ = some (.slice AW L cW) := ((HRW.out.below hb7 HRW.out.lt).cell 0).trans rfl
          clear hb6 hb7
          gi_wp2_with fail
          generalize w6.alloc (.cells #[.int .i64 0, .int .i64 0, .int .i64 0] 28) = W7 at HB7 hsz7 k1 k2 k3 ⊢
          refine wpIn_wide.2 ?_
          try simp only [List.append_eq, List.cons_append, List.nil_append]
          have hkeep : ∀ X, Below W7.heap.size W7 X → X.cell? ⟨w2.heap.size + 1 + 1, 0, none⟩ = some (.int .i64 ((r : Int) + 1)) ∧ X.cell? ⟨w2.heap.size + 1, 0, none⟩ = some (.int .i64 r) ∧ X.cell? ⟨w2.heap.size, 0, none⟩ = some (.slice AW L cW) := fun X hX =>
            ⟨(hX.cell (p := ⟨w2.heap.size + 1 + 1, 0, none⟩) (Nat.lt_of_lt_of_le HRA.out.lt hsz7)).trans k1, (hX.cell (p := ⟨w2.heap.size + 1, 0, none⟩) (Nat.lt_of_lt_of_le HRK.out.lt hsz7)).trans k2, (hX.cell (p := ⟨w2.heap.size, 0, none⟩) (Nat.lt_of_lt_of_le HRW.out.lt hsz7)).trans k3⟩
          have hstore : ∀ (X : World) (u : Value), (X.cell? ⟨w2.heap.size + 1 + 1, 0, none⟩ = some (.int .i64 ((r : Int) + 1)) ∧ X.cell? ⟨w2.heap.size + 1, 0, none⟩ = some (.int .i64 r) ∧ X.cell? ⟨w2.heap.size, 0, none⟩ = some (.slice AW L cW)) →
              ((X.setCell ⟨w.heap.size, 0, none⟩ u).cell? ⟨w2.heap.size + 1 + 1, 0, none⟩ = some (.int .i64 ((r : Int) + 1)) ∧ (X.setCell ⟨w.heap.size, 0, none⟩ u).cell? ⟨w2.heap.size + 1, 0, none⟩ = some (.int .i64 r) ∧ (X.setCell ⟨w.heap.size, 0, none⟩ u).cell? ⟨w2.heap.size, 0, none⟩ = some (.slice AW L cW)) := fun X u ⟨q0, q1, q2⟩ =>
            ⟨(World.cell?_setCell_other _ _ _ _ (by first | (simp; done) | (simp; omega))).trans q0, (World.cell?_setCell_other _ _ _ _ (by first | (simp; done) | (simp; omega))).trans q1, (World.cell?_setCell_other _ _ _ _ (by first | (simp; done) | (simp; omega))).trans q2⟩
          have HKEEP := Lib.hid hkeep
          have HSTORE := Lib.hid hstore
          clear hkeep hstore
          have hwr : IntKind.i64.wrap ((r : Int) + 1) = (r : Int) + 1 := by rw [IntKind.wrap_i64]; omega
          have hw00 : IntKind.i64.wrap (0 : Int) = 0 := by rw [IntKind.wrap_i64]; decide
          have HLN := Lib.hid hln
          have H47 := Lib.hid (HR4.out.below HB7.out HR4.out.lt)
          have HM7 := Lib.hid (HMH.out.call HB7.out)
          clear hln hsz7
          go_region_held3 (fun X => X.cell? ⟨w2.heap.size + 1 + 1, 0, none⟩ = some (.int .i64 ((r : Int) + 1)) ∧ X.cell? ⟨w2.heap.size + 1, 0, none⟩ = some (.int .i64 r) ∧ X.cell? ⟨w2.heap.size, 0, none⟩ = some (.slice AW L cW))
            (first
              | exact ⟨k1, k2, k3⟩
              | exact HSTORE.out _ _ (HKEEP.out _ HB9.out)
              | exact HKEEP.out _ HB9.out
              | exact HKEEP.out _ HB8.out
              | fail)
            ((first
              | (
                  go_at_call 4
                  refine (awake_any _).mono ?_
                  rintro e w8 ⟨rfl, hb8⟩
                  have h8 : Below W7.heap.size W7 w8 := Below.trans (by go_grown) hb8
                  have HB8 := Lib.hid h8
                  have HM8 := Lib.hid (HM7.out.call h8)
                  have H48 := Lib.hid (H47.out.below h8 H47.out.lt)
                  clear hb8 h8)
              | (
                  go_at_call 9
                  (with_reducible refine (len_nil _).mono ?_)
                  rintro e w' ⟨rfl, rfl⟩)
              | (
                  go_at_call 9
                  refine (HLN.out _ HM8.out).mono ?_
                  rintro e w' ⟨rfl, rfl⟩)
              | (
                  go_at_call 5
                  refine (push_nil z _).mono ?_
                  rintro e w9 ⟨rfl, hb9⟩
                  have h9 : Below w8.heap.size w8 w9 := Below.trans (by go_grown) hb9
                  have HB9 := Lib.hid (HB8.out.trans (h9.mono HB8.out.size))
                  have h49 := H48.out.below h9 H48.out.lt
                  have e9 : w9.cell? ⟨w.heap.size, 0, none⟩ = some (.bool false) := (h49.cell 0).trans rfl
                  have f9 : w9.frozen? ⟨w.heap.size, 0, none⟩ = false := h49.free 0
                  clear hb9 h9 h49)
              | (
                  go_at_call 10
                  (with_reducible refine (all_nil _).mono ?_)
                  rintro e w' ⟨rfl, rfl⟩)))
          have hBW : Below w.heap.size w W := HTR.out.below HD0.out.fr.be HD0.out.fr.be.size (fun k hk e => by
            rcases e with e | e | e
            · have := HD0.out.fr.b1; omega
            · have := HD0.out.fr.o1 k e; omega
            · omega)
          have B79 : Below W.heap.size W w9 := HB7.out.trans (HB9.out.mono HB7.out.size)
          have hDW : D < W.heap.size := (Array.getElem?_eq_some_iff.1 HKD.out).1
          have hDw : w.heap.size ≤ D := by have h1 := HDD.out; omega
          have hK6 : w9.heap[D]? = some (.deferred (some [])) := (B79.block D hDW).trans HKD.out
          have hK7 := (KeepsOthers.setCell w9 ⟨w.heap.size, 0, none⟩ (.bool true)).same D _ hK6 rfl
          have hc7 := cell_kept (World.cell?_setCell_same' w9 ⟨w.heap.size, 0, none⟩ (.bool true) (by rw [e9]; rfl)) (grownBy_putObj' _ D (.deferred none)) (fun r e => by cases e; exact ⟨_, hK7, rfl⟩)
          have hBF := hBW.trans (B79.mono hBW.size)
          gi_wp2
          refine ⟨by simp, .inl ⟨_, _, rfl, run_takeDeferred hK7, ?_⟩⟩
          refine ⟨.bool true, ?_, rfl, (hBF.setCell (p := ⟨w.heap.size, 0, none⟩) (Nat.le_refl _) _).trans (belowK_b (w := w) (Nat.le_refl _) _ D _ _ hDw hK7 rfl rfl)⟩
          simp [results, Try.f3, go_sem, hc7]
end Go.Proofs.Ytbjkeclfcccilaa.Hp
