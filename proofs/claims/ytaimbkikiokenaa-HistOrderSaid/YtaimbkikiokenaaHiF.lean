/- A book's calls: a call begins. -/
import Derived.Test.YtaimbkikiokenaaHiE
import Derived.Deep.RegionLaw
import Derived.Deep.Cut
namespace Go.Proofs.Ytaimbkikiokenaa.Hi
open Go.RowKit Go.Proofs.Ytaimbkikiokenaa Go.Maps
set_option linter.unusedVariables false
set_option maxRecDepth 100000
theorem cv_inj {a b a' b' : Int} {l : Lit} (h : keyOf Try.prog 179 (cv a b) = some l) (g : keyOf Try.prog 179 (cv a' b') = some l) : a = a' ∧ b = b' := by
  have := lawC.inj h g
  unfold cv at this
  simpa using this
theorem told_push {D : DataW Unit} {xs : List Sp} {x : Sp} {l : Lit} (h : Told D xs) (hm : IsMap D) (hl : keyOf Try.prog 179 (cv x.c x.n) = some l) (hf : fnd xs x.c x.n = none) : Told (D.put l (.lit (.int .i64 (xs.length : Int)))) (xs ++ [x]) := by
  intro c n l' hc hn hl'
  have hkey := lawC.key hl
  rw [fnd_app]
  by_cases hx : x.c = c ∧ x.n = n
  · obtain ⟨rfl, rfl⟩ := hx
    have : l' = l := by rw [hl] at hl'; injection hl' with e; exact e.symm
    subst this
    rw [hf]
    simp only [and_self, if_true]
    refine ⟨fun j hj => ?_, fun h => by cases h⟩
    injection hj with hj
    subst hj
    exact ⟨has_put_same hm hkey _, atKey_put_same hm hkey _ _⟩
  · have hne : l' ≠ l := fun e => by
      subst e
      exact hx (cv_inj hl hl')
    rw [has_put_other hne, atKey_put_other hne]
    have ho := h c n l' hc hn hl'
    cases hfx : fnd xs c n with
    | some j =>
      refine ⟨fun i hi => ?_, fun h => by cases h⟩
      injection hi with hi
      subst hi
      exact ho.1 j hfx
    | none =>
      rw [if_neg hx]
      exact ⟨fun j hj => (by cases hj), fun _ => ho.2 hfx⟩
theorem span_info : (Try.prog.info? 104).map (fun i => (i.zero, i.size, i.bytes)) = some (some (.agg #[.int .i64 0, .int .i64 0, .int .i64 0, .int .i64 0, .int .i64 0, .int .i64 0, .int .i64 0, .int .i64 0, .int .i64 0, .int .i64 0, .int .i64 0, .int .i64 0, .int .i64 0]), 13, 104) := by kernel_rfl
theorem begin_neg {w0 w : World} {b mb : Nat} {v : Value} {ob : Option Nat} {D : DataW Unit} {xs : List Sp} (h : Bk w0 w b mb v ob D xs) (k c n err tick : Int) (at' : Int) (hn : n < 0) :
    Calls Try.prog 115 #[.pointer (some ⟨b, 0, none⟩), .int .i64 at', (.agg #[.int .i64 k, .int .i64 c, .int .i64 n, .int .i64 err, .int .i64 tick, .int .i64 0, .int .i64 0, .int .i64 0, .int .i64 0, .int .i64 0, .int .i64 0])] w fun e w' => e = .returned (.bool false) ∧ Below w.heap.size w w' := by
  have hn' : decide (n < 0) = true := decide_eq_true hn
  go_enter Try.func115, Try.ntmps115
  go_wp2
  go_ret
  exact ⟨rfl, by go_grown⟩
theorem begin_early {w0 w : World} {b mb : Nat} {v : Value} {ob : Option Nat} {D : DataW Unit} {xs : List Sp} (h : Bk w0 w b mb v ob D xs) (k c n err tick : Int) (at' : Int) (hc : I64 c) (hn : I64 n) (hn0 : 0 < n)
    (hno : fnd xs c (n - 1) = none ∨ ∃ j x, fnd xs c (n - 1) = some j ∧ xs[j]? = some x ∧ x.reply < 0) :
    Calls Try.prog 115 #[.pointer (some ⟨b, 0, none⟩), .int .i64 at', (.agg #[.int .i64 k, .int .i64 c, .int .i64 n, .int .i64 err, .int .i64 tick, .int .i64 0, .int .i64 0, .int .i64 0, .int .i64 0, .int .i64 0, .int .i64 0])] w fun e w' => e = .returned (.bool false) ∧ Below w.heap.size w w' := by
  obtain ⟨hn1, hn2⟩ := hn
  have hn' : decide (n < 0) = false := decide_eq_false (by omega)
  have HB := Lib.hid (h.alloc (.cells #[.int .i64 k, .int .i64 c, .int .i64 n, .int .i64 err, .int .i64 tick, .int .i64 0, .int .i64 0, .int .i64 0, .int .i64 0, .int .i64 0, .int .i64 0] 144))
  clear h
  go_enter Try.func115, Try.ntmps115
  go_wp2_with fail
  rcases hno with hno | ⟨j, x, h1, h2, h3⟩
  · refine (ended_no HB.out c (n - 1) hc ⟨by omega, by omega⟩ hno).mono ?_
    rintro e w2 ⟨rfl, hb2⟩
    go_wp2
    go_ret
    exact ⟨rfl, ((Below.refl _ w).alloc (Nat.le_refl _) _).trans (hb2.mono (by simp))⟩
  · refine (ended_yes HB.out c (n - 1) hc ⟨by omega, by omega⟩ h1 h2 false (decide_eq_false (by omega))).mono ?_
    rintro e w2 ⟨rfl, hb2⟩
    go_wp2
    go_ret
    exact ⟨rfl, ((Below.refl _ w).alloc (Nat.le_refl _) _).trans (hb2.mono (by simp))⟩
theorem step_append_seg {P : Program} {e : TypeId} {v : Value} {n size : Nat} {xs : List Value} {ob : Option Nat} {ops : Array Oper} {o : Oper} {a : Act} {K : Act → World → Prop} {Q : Exit → Act → World → Prop} {E : Prop} (w : World) (hgd : o.guard = none) (s x : Operand) (t : TypeId)
    (hop : o.op = .call { callee := .builtin .append, args := #[s, x], argTypes := #[t, t] })
    (i : TypeInfo) (z : Value) (bytes : Nat) (ht : P.underlying t = some (.slice e)) (hi : P.info? e = some i) (hz : i.zero = some z)
    (hsize : i.size = size) (hby : i.bytes = bytes) (hzs : z.cells.size = size) (hsz : 0 < size) (hs : a.eval s = v) (h : Seg w e size v n xs ob)
    (ad : Addr) (m c : Nat) (news : List Value) (hx : a.eval x = .slice (some ad) m c) (hl : news.length = m * size) (hnews : ∀ j u, news[j]? = some u → w.cell? (ad.add j) = some u) (h1 : ∀ u ∈ news, u.oneCell' = true) (hm : 0 < m)
    (h63 : n + m ≤ maxLen) (hbytes : (n + m) * bytes ≤ 140737488355328)
    (hK : ∀ v' w' ob', Seg w' e size v' (n + m) (xs ++ news) ob' → Turns w w' (fun k => ob = some k) → (ob' = ob ∨ ∃ g, ob' = some g ∧ w.heap.size ≤ g) → K (a.put o.dst v') w') :
    if Region.wanted o (yielded ops a.tmps) = true then Oper.wp P o a w K Q else E := by
  rw [if_pos (by simp [Region.wanted, hgd])]
  obtain ⟨v', w', ob', hrun, r1, r2, r3⟩ := run_append_seg (P := P) t o.type i z bytes ht hi hz hsize hby hzs hsz h ad m c news hl hnews h1 hm h63 hbytes
  unfold Oper.wp
  simp [execOp, hop, resolve, invoke, builtin, hs, hx, hrun, Result.andThen]
  exact hK v' w' ob' r1 r2 r3
theorem news_row {w : World} {g : Nat} {t : TypeId} {cs : Array Value} (h : Row w g t cs) : ∀ j u, cs.toList[j]? = some u → w.cell? ((⟨g, 0, none⟩ : Addr).add j) = some u := fun j u hj => by
  rw [Addr.add_lit, Nat.zero_add, h.cell]
  simpa using hj
theorem info_parts {p : Program} {t : TypeId} {z : Option Value} {s b : Nat} (h : (p.info? t).map (fun i => (i.zero, i.size, i.bytes)) = some (z, s, b)) : ∃ i, p.info? t = some i ∧ i.zero = z ∧ i.size = s ∧ i.bytes = b := by
  cases hi : p.info? t with
  | none => rw [hi] at h; cases h
  | some i =>
    rw [hi] at h
    simp at h
    exact ⟨i, rfl, h.1, h.2.1, h.2.2⟩
theorem Seg.drew' {w : World} {e : TypeId} {size n : Nat} {v : Value} {xs : List Value} {ob : Option Nat} (h : Seg w e size v n xs ob) : Seg w.drew e size v n xs ob := h
abbrev nsp (c n at' : Int) : Sp := ⟨c, n, at', -1, -1, 0, 0⟩
theorem begin_end {w0 W1 wm Wa w5 : World} {b mb cap2 : Nat} {v : Value} {A2 : Option Addr} {ob ob2 : Option Nat} {D : DataW Unit} {xs : List Sp} {x : Sp} {l : Lit} (h : Bk w0 W1 b mb v ob D xs) (ht : Turns W1 wm (fun k => some mb = some k))
    (ho : wm.ownsMap Try.prog 179 (plainElem (H := Unit) Try.prog 3) mb (xs.length + 1) (D.put l (.lit (.int .i64 (xs.length : Int))))) (hl : keyOf Try.prog 179 (cv x.c x.n) = some l) (hf : fnd xs x.c x.n = none) (ha : Below wm.heap.size wm Wa)
    (hs2 : Seg w5 104 13 (.slice A2 (xs.length + 1) cap2) (xs.length + 1) (scells xs ++ x.cells) ob2) (ht2 : Turns Wa w5 (fun k => ob = some k)) (ho2 : ob2 = ob ∨ ∃ g, ob2 = some g ∧ Wa.heap.size ≤ g) :
    ∃ v' ob' D', Bk w0 (w5.setCell ⟨b, 0, none⟩ (.slice A2 (xs.length + 1) cap2)) b mb v' ob' D' (xs ++ [x]) := by
  have hmb := own_not_row h.own h.row
  have hz1 := h.be.size
  have hz2 := ht.size
  have hz3 := ha.size
  have hbm : Below w0.heap.size w0 wm := ht.below h.be hz1 (fun k hk e => by injection e with e; have := h.mge; omega)
  have hba : Below w0.heap.size w0 Wa := hbm.trans (ha.mono (by omega))
  have hb5 : Below w0.heap.size w0 w5 := ht2.below hba (by omega) (fun k hk e => by have := h.oge k e; omega)
  have hobb : ob ≠ some b := fun e => by
    subst e
    obtain ⟨c', hr'⟩ := seg_row h.seg
    exact row_ne h.row hr' (by decide) rfl
  have hobm : ob ≠ some mb := fun e => by
    subst e
    obtain ⟨c', hr'⟩ := seg_row h.seg
    exact own_not_row h.own hr' rfl
  have hra := (h.row.turns ht (fun e => hmb (by injection e))).below ha (h.row.turns ht (fun e => hmb (by injection e))).lt
  have hr5 := hra.turns ht2 hobb
  have hoa := own_turns ho (Turns.of_below ha) (fun x => x)
  have ho5 := own_turns hoa ht2 hobm
  have hT : Turns w5 (w5.setCell ⟨b, 0, none⟩ (.slice A2 (xs.length + 1) cap2)) (fun k => k = b) := (Turns.refl w5 _).put b 0 _ (fun _ => rfl)
  have hne2 : ob2 ≠ some b := fun e => by
    rcases ho2 with rfl | ⟨g, rfl, hg⟩
    · exact hobb e
    · cases e
      have := hra.lt
      omega
  have hlen : (xs ++ [x]).length = xs.length + 1 := by simp
  refine ⟨.slice A2 (xs.length + 1) cap2, ob2, D.put l (.lit (.int .i64 (xs.length : Int))), hb5.setCell (p := ⟨b, 0, none⟩) h.ge _, h.ge, h.mge, fun g hg => ?_, by simpa using hr5.put 0 (.slice A2 (xs.length + 1) cap2), ?_, ?_, told_push h.told h.own.isMap hl hf⟩
  · rcases ho2 with rfl | ⟨g', rfl, hg'⟩
    · exact h.oge g hg
    · cases hg
      omega
  · have := hs2.past (p := ⟨b, 0, none⟩) hne2 (.slice A2 (xs.length + 1) cap2)
    rw [hlen]
    have hc : scells (xs ++ [x]) = scells xs ++ x.cells := by simp [scells]
    rw [hc]
    exact this
  · rw [hlen]
    exact own_turns ho5 hT hmb
set_option maxHeartbeats 1000000 in
theorem begin_yes {w0 w : World} {b mb : Nat} {v : Value} {ob : Option Nat} {D : DataW Unit} {xs : List Sp} (h : Bk w0 w b mb v ob D xs) (k c n err tick : Int) (at' : Int) (hc : I64 c) (hn : I64 n) (hn0 : 0 ≤ n) (hl : xs.length ≤ 1000) (hf : fnd xs c n = none)
    (hyes : n = 0 ∨ (0 < n ∧ ∃ j x, fnd xs c (n - 1) = some j ∧ xs[j]? = some x ∧ 0 ≤ x.reply)) :
    Calls Try.prog 115 #[.pointer (some ⟨b, 0, none⟩), .int .i64 at', (.agg #[.int .i64 k, .int .i64 c, .int .i64 n, .int .i64 err, .int .i64 tick, .int .i64 0, .int .i64 0, .int .i64 0, .int .i64 0, .int .i64 0, .int .i64 0])] w fun e w' => e = .returned (.bool true) ∧ ∃ v' ob' D', Bk w0 w' b mb v' ob' D' (xs ++ [nsp c n at']) := by
  have hn' : decide (n < 0) = false := decide_eq_false (by omega)
  have HB := Lib.hid (h.alloc (.cells #[.int .i64 k, .int .i64 c, .int .i64 n, .int .i64 err, .int .i64 tick, .int .i64 0, .int .i64 0, .int .i64 0, .int .i64 0, .int .i64 0, .int .i64 0] 144))
  have hbox : Row (w.alloc (.cells #[.int .i64 k, .int .i64 c, .int .i64 n, .int .i64 err, .int .i64 tick, .int .i64 0, .int .i64 0, .int .i64 0, .int .i64 0, .int .i64 0, .int .i64 0] 144)) w.heap.size 144 #[.int .i64 k, .int .i64 c, .int .i64 n, .int .i64 err, .int .i64 tick, .int .i64 0, .int .i64 0, .int .i64 0, .int .i64 0, .int .i64 0, .int .i64 0] := Row.made _ _ _
  have HX := Lib.hid hbox
  obtain ⟨l, hkl⟩ := cv_some hc hn
  obtain ⟨hn1, hn2⟩ := hn
  clear h hbox
  go_enter Try.func115, Try.ntmps115
  by_cases hpos : 0 < n
  · obtain ⟨j, x, h1, h2, h3⟩ : ∃ j x, fnd xs c (n - 1) = some j ∧ xs[j]? = some x ∧ 0 ≤ x.reply := by
      rcases hyes with e | ⟨_, e⟩
      · omega
      · exact e
    go_wp2_with fail
    refine (ended_yes HB.out c (n - 1) hc ⟨by omega, by omega⟩ h1 h2 true (decide_eq_true h3)).mono ?_
    rintro e W1 ⟨rfl, hb1⟩
    have HB1 := Lib.hid (HB.out.call hb1)
    have HX1 := Lib.hid (HX.out.below hb1 HX.out.lt)
    clear hb1 HB HX h1 h2 h3
    go_wp2_with fail
    have HB2 := Lib.hid HB1.out.drew
    have hX2 : Row W1.drew w.heap.size 144 _ := HX1.out.drew
    have hw0 : (Lit.int .i64 (xs.length : Int)).wf = true := WalkArith.wf_i64 ⟨by omega, by omega⟩
    obtain ⟨wm, hmu, hown, hturn⟩ := HB2.out.own.store lawC Try.underlying140 (by unfold maxLen; omega) hkl (plainElem_int Try.underlying3 hw0)
    have hmb := own_not_row HB2.out.own HB2.out.row
    have hmx := own_not_row HB2.out.own hX2
    have hTm : Turns W1.drew wm (fun k => some mb = some k) := Turns.of_grown hturn.grown
    obtain ⟨vA, vc, hv0, hv1, hv2⟩ := HB2.out.seg.form
    have a0 := HB2.out.c0
    have a1 := HB2.out.c1
    have x1 : W1.drew.cell? ⟨w.heap.size, 1, none⟩ = some (.int .i64 c) := (hX2.cell 1).trans rfl
    have x2 : W1.drew.cell? ⟨w.heap.size, 2, none⟩ = some (.int .i64 n) := (hX2.cell 2).trans rfl
    unfold cv at hmu
    subst hv0
    have HT := Lib.hid hTm
    have HO := Lib.hid hown
    have HX2 := Lib.hid hX2
    clear hX2 hTm hown hturn
    go_region
    all_goals
      have hSm := HB2.out.seg.turns HT.out (fun g hg e => by
        subst hg
        injection e with e
        subst e
        obtain ⟨c', hr'⟩ := seg_row HB2.out.seg
        exact own_not_row HB2.out.own hr' rfl)
      have HSm := Lib.hid hSm
      have hRm := HB2.out.row.turns HT.out (fun e => hmb (by injection e))
      have hXm := HX2.out.turns HT.out (fun e => hmx (by injection e))
      have HRm := Lib.hid hRm
      have d0 : wm.cell? ⟨b, 0, none⟩ = some (.slice vA xs.length vc) := (hRm.cell 0).trans rfl
      have y1 : wm.cell? ⟨w.heap.size, 1, none⟩ = some (.int .i64 c) := (hXm.cell 1).trans rfl
      have y2 : wm.cell? ⟨w.heap.size, 2, none⟩ = some (.int .i64 n) := (hXm.cell 2).trans rfl
      have hbl := hRm.lt
      have hxl := hXm.lt
      have hbn : b ≠ wm.heap.size := by omega
      have hxn : w.heap.size ≠ wm.heap.size := by omega
      clear hSm hRm hXm a0 a1 x1 x2 hmu
      obtain ⟨i0, hi0, hz0, hz1, hz2⟩ := info_parts span_info
      go_upto_region 4 with fail
      go_region_law (
        refine step_append_seg _ rfl _ _ 93 rfl i0 _ 104 Try.underlying93 hi0 hz0 hz1 hz2 rfl (by decide) rfl (Seg.drew' (HSm.out.alloc _)) ⟨wm.heap.size, 0, none⟩ 1 1 (nsp c n at').cells rfl rfl (news_row (Row.drew (Row.made wm _ _))) (by intro u hu; simp [Sp.cells, rc] at hu; rcases hu with rfl | rfl | rfl | rfl | rfl | rfl <;> rfl) (by decide) (by unfold maxLen; omega) (by omega) ?_
        intro v2 w5 ob2 hs2 ht2 ho2
        obtain ⟨A2, cap2, rfl, hn5, hm5⟩ := hs2.form
        have r5 := (Row.drew (HRm.out.alloc _)).turns ht2 (fun e => by
          obtain ⟨c', hr'⟩ := seg_row (e ▸ HSm.out)
          exact row_ne HRm.out hr' (by decide) rfl)
        have f0 := (r5.cell 0).trans rfl
        have f1 := r5.free 0)
      all_goals
        go_wp2
        go_ret
        exact ⟨rfl, begin_end (x := nsp c n at') HB2.out HT.out HO.out hkl hf ((Below.refl _ wm).alloc (Nat.le_refl _) _ |> fun z => below_drewN z 1) hs2 ht2 ho2⟩
  · obtain rfl : n = 0 := by omega
    have HB1 := HB
    have HX1 := HX
    clear HB HX
    go_wp2_with fail
    generalize w.alloc (.cells #[.int .i64 k, .int .i64 c, .int .i64 0, .int .i64 err, .int .i64 tick, .int .i64 0, .int .i64 0, .int .i64 0, .int .i64 0, .int .i64 0, .int .i64 0] 144) = W1 at HB1 HX1 ⊢
    have HB2 := Lib.hid HB1.out.drew
    have hX2 : Row W1.drew w.heap.size 144 _ := HX1.out.drew
    have hw0 : (Lit.int .i64 (xs.length : Int)).wf = true := WalkArith.wf_i64 ⟨by omega, by omega⟩
    obtain ⟨wm, hmu, hown, hturn⟩ := HB2.out.own.store lawC Try.underlying140 (by unfold maxLen; omega) hkl (plainElem_int Try.underlying3 hw0)
    have hmb := own_not_row HB2.out.own HB2.out.row
    have hmx := own_not_row HB2.out.own hX2
    have hTm : Turns W1.drew wm (fun k => some mb = some k) := Turns.of_grown hturn.grown
    obtain ⟨vA, vc, hv0, hv1, hv2⟩ := HB2.out.seg.form
    have a0 := HB2.out.c0
    have a1 := HB2.out.c1
    have x1 : W1.drew.cell? ⟨w.heap.size, 1, none⟩ = some (.int .i64 c) := (hX2.cell 1).trans rfl
    have x2 : W1.drew.cell? ⟨w.heap.size, 2, none⟩ = some (.int .i64 0) := (hX2.cell 2).trans rfl
    unfold cv at hmu
    subst hv0
    have HT := Lib.hid hTm
    have HO := Lib.hid hown
    have HX2 := Lib.hid hX2
    clear hX2 hTm hown hturn
    go_region
    all_goals
      have hSm := HB2.out.seg.turns HT.out (fun g hg e => by
        subst hg
        injection e with e
        subst e
        obtain ⟨c', hr'⟩ := seg_row HB2.out.seg
        exact own_not_row HB2.out.own hr' rfl)
      have HSm := Lib.hid hSm
      have hRm := HB2.out.row.turns HT.out (fun e => hmb (by injection e))
      have hXm := HX2.out.turns HT.out (fun e => hmx (by injection e))
      have HRm := Lib.hid hRm
      have d0 : wm.cell? ⟨b, 0, none⟩ = some (.slice vA xs.length vc) := (hRm.cell 0).trans rfl
      have y1 : wm.cell? ⟨w.heap.size, 1, none⟩ = some (.int .i64 c) := (hXm.cell 1).trans rfl
      have y2 : wm.cell? ⟨w.heap.size, 2, none⟩ = some (.int .i64 0) := (hXm.cell 2).trans rfl
      have hbl := hRm.lt
      have hxl := hXm.lt
      have hbn : b ≠ wm.heap.size := by omega
      have hxn : w.heap.size ≠ wm.heap.size := by omega
      clear hSm hRm hXm a0 a1 x1 x2 hmu
      obtain ⟨i0, hi0, hz0, hz1, hz2⟩ := info_parts span_info
      go_upto_region 4 with fail
      go_region_law (
        refine step_append_seg _ rfl _ _ 93 rfl i0 _ 104 Try.underlying93 hi0 hz0 hz1 hz2 rfl (by decide) rfl (Seg.drew' (HSm.out.alloc _)) ⟨wm.heap.size, 0, none⟩ 1 1 (nsp c 0 at').cells rfl rfl (news_row (Row.drew (Row.made wm _ _))) (by intro u hu; simp [Sp.cells, rc] at hu; rcases hu with rfl | rfl | rfl | rfl | rfl | rfl <;> rfl) (by decide) (by unfold maxLen; omega) (by omega) ?_
        intro v2 w5 ob2 hs2 ht2 ho2
        obtain ⟨A2, cap2, rfl, hn5, hm5⟩ := hs2.form
        have r5 := (Row.drew (HRm.out.alloc _)).turns ht2 (fun e => by
          obtain ⟨c', hr'⟩ := seg_row (e ▸ HSm.out)
          exact row_ne HRm.out hr' (by decide) rfl)
        have f0 := (r5.cell 0).trans rfl
        have f1 := r5.free 0)
      all_goals
        go_wp2
        go_ret
        exact ⟨rfl, begin_end (x := nsp c 0 at') HB2.out HT.out HO.out hkl hf ((Below.refl _ wm).alloc (Nat.le_refl _) _ |> fun z => below_drewN z 1) hs2 ht2 ho2⟩
end Go.Proofs.Ytaimbkikiokenaa.Hi
