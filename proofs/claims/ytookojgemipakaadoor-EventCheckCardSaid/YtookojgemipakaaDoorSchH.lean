/- A schema made of types. -/
import Derived.Test.YtookojgemipakaaDoorSchF
import Derived.Test.YtookojgemipakaaDoorSchG
import Derived.Deep.RegionLaw
namespace Go.Proofs.YtookojgemipakaaDoor.Sch
open Go.RowKit Go.Proofs.YtookojgemipakaaDoor
set_option linter.unusedVariables false

section
variable {P : Program} {w w' : World} {e : TypeId}
theorem step_append_seg {ops : Array Oper} {o : Oper} {a : Act} {K : Act → World → Prop} {Q : Exit → Act → World → Prop} {E : Prop} (w : World) (hgd : o.guard = none) (s x : Operand) (t : TypeId)
    (hop : o.op = .call { callee := .builtin .append, args := #[s, x], argTypes := #[t, t] })
    (e : TypeId) (i : TypeInfo) (z : Value) (size bytes : Nat) (ht : P.underlying t = some (.slice e)) (hi : P.info? e = some i) (hz : i.zero = some z)
    (hsize : i.size = size) (hby : i.bytes = bytes) (hzs : z.cells.size = size) (hsz : 0 < size) (v : Value) (n : Nat) (xs : List Value) (ob : Option Nat) (hs : a.eval s = v) (h : Seg w e size v n xs ob)
    (ad : Addr) (m c : Nat) (news : List Value) (hx : a.eval x = .slice (some ad) m c) (hl : news.length = m * size) (hnews : ∀ j u, news[j]? = some u → w.cell? (ad.add j) = some u) (h1 : ∀ u ∈ news, u.oneCell' = true) (hm : 0 < m)
    (h63 : n + m ≤ maxLen) (hbytes : (n + m) * bytes ≤ 140737488355328)
    (hK : ∀ v' w' ob', Seg w' e size v' (n + m) (xs ++ news) ob' → Turns w w' (fun k => ob = some k) → (ob' = ob ∨ ∃ g, ob' = some g ∧ w.heap.size ≤ g) → K (a.put o.dst v') w') :
    if Region.wanted o (yielded ops a.tmps) = true then Oper.wp P o a w K Q else E := by
  rw [if_pos (by simp [Region.wanted, hgd])]
  obtain ⟨v', w', ob', hrun, r1, r2, r3⟩ := run_append_seg (P := P) t o.type i z bytes ht hi hz hsize hby hzs hsz h ad m c news hl hnews h1 hm h63 hbytes
  unfold Oper.wp
  simp [execOp, hop, resolve, invoke, builtin, hs, hx, hrun, Result.andThen]
  exact hK v' w' ob' r1 r2 r3
end
/-- All types so far may be, and have names of their own. -/
def OkT (ts : List Ty) (k : Nat) (h : k < ts.length) : Prop := MayT ts[k] ∧ idx ((ts.take k).map Prod.fst) ts[k].1 < 0
def Fine (ts : List Ty) (k : Nat) : Prop := ∀ j (h : j < ts.length), j < k → OkT ts j h
/-- What is told of types first. -/
def NewR (ts : List Ty) (c : Int) : Prop :=
  (16 < ts.length ∧ c = 5) ∨ (ts.length ≤ 16 ∧ ∃ k, ∃ h : k < ts.length, Fine ts k ∧ ¬ MayT ts[k] ∧ c = 1) ∨ (ts.length ≤ 16 ∧ ∃ k, ∃ h : k < ts.length, Fine ts k ∧ MayT ts[k] ∧ 0 ≤ idx ((ts.take k).map Prod.fst) ts[k].1 ∧ c = 4) ∨ (ts.length ≤ 16 ∧ Fine ts ts.length ∧ c = 0)
structure NI (w wr : World) (ts : List Ty) (k : Nat) (v : Value) (ob : Option Nat) (xs : List Value) : Prop where
  row : Row wr w.heap.size 64 #[v]
  seg : Seg wr 67 2 v k xs ob
  hob : ∀ g, ob = some g → w.heap.size < g
  be : Below w.heap.size w wr
  fs : ∀ j (hj : j < ts.length), j < k → ∃ fv, xs[j * 2]? = some (.string ts[j].1) ∧ xs[j * 2 + 1]? = some fv ∧ FsS wr (fun g => w.heap.size < g ∧ ob ≠ some g) fv ts[j].2
theorem NI.mono {w wr wr' : World} {ts : List Ty} {k : Nat} {v : Value} {ob : Option Nat} {xs : List Value} (h : NI w wr ts k v ob xs) (hb : Below wr.heap.size wr wr') : NI w wr' ts k v ob xs :=
  ⟨Row.below h.row hb h.row.lt, h.seg.keep fun g hg => hb.block g (h.seg.lt g hg), h.hob, h.be.trans (hb.mono h.be.size), fun j hj hk => by
    obtain ⟨fv, a, b, c⟩ := h.fs j hj hk
    exact ⟨fv, a, b, c.keep fun g hg hs => ⟨hb.block g hg, hs⟩⟩⟩
theorem NI.push {w W W2 : World} {ts : List Ty} {k : Nat} {v v2 v' : Value} {ob ob2 : Option Nat} {xs : List Value} (h : NI w W ts k v ob xs) (hk : k < ts.length)
    (hs2 : Seg W2 67 2 v2 (k + 1) (xs ++ [.string ts[k].1, v']) ob2) (ht2 : Turns W W2 (fun g => ob = some g)) (ho2 : ob2 = ob ∨ ∃ g, ob2 = some g ∧ W.heap.size ≤ g)
    (hv : FsS W (fun g => w.heap.size < g ∧ ob ≠ some g) v' ts[k].2) : NI w (W2.setCell ⟨w.heap.size, 0, none⟩ v2) ts (k + 1) v2 ob2 (xs ++ [.string ts[k].1, v']) := by
  have hlt := h.row.lt
  have hne : ob ≠ some w.heap.size := fun e => by have := h.hob _ e; omega
  have hob2 : ∀ g, ob2 = some g → w.heap.size < g := fun g hg => by
    rcases ho2 with e | ⟨g', e, hg'⟩
    · exact h.hob g (by rw [← e, hg])
    · rw [e] at hg; injection hg with hg; omega
  have keep : ∀ g, g < W.heap.size → (w.heap.size < g ∧ ob ≠ some g) → (W2.setCell ⟨w.heap.size, 0, none⟩ v2).heap[g]? = W.heap[g]? ∧ (w.heap.size < g ∧ ob2 ≠ some g) := fun g hg hs =>
    ⟨(heap_setCell_other _ _ g _ (by simp; omega)).trans (ht2.block g hg (fun e => hs.2 e)), hs.1, by
      rcases ho2 with e | ⟨g', e, hg'⟩
      · rw [e]; exact hs.2
      · rw [e]; intro e'; injection e' with e'; omega⟩
  have hxl : xs.length = k * 2 := h.seg.1
  refine ⟨by simpa using Row.put (h.row.turns ht2 hne) 0 v2, hs2.past (fun e => by have := hob2 _ e; simp at this) _, hob2, (ht2.below h.be h.be.size (fun j hj e => by have := h.hob _ e; omega)).setCell (Nat.le_refl _) _, fun j hj hk' => ?_⟩
  by_cases e : j = k
  · subst e
    refine ⟨v', ?_, ?_, hv.keep keep⟩
    · rw [List.getElem?_append_right (by omega)]; simp [hxl]
    · rw [List.getElem?_append_right (by omega)]; simp [hxl]
  · obtain ⟨fv, a, b, c⟩ := h.fs j hj (by omega)
    refine ⟨fv, ?_, ?_, c.keep keep⟩
    · rw [List.getElem?_append_left (by omega)]; exact a
    · rw [List.getElem?_append_left (by omega)]; exact b
theorem sc_of_NI {w wr : World} {ts : List Ty} {k : Nat} {v : Value} {ob : Option Nat} {xs : List Value} (h : NI w wr ts k v ob xs) (hk : k ≤ ts.length) : Sc wr wr.heap.size (some ⟨w.heap.size, 0, none⟩) (ts.take k) := by
  have hl : (ts.take k).length = k := by rw [List.length_take]; omega
  refine ⟨w.heap.size, v, rfl, h.row.lt, (h.row.cell 0).trans rfl, ?_⟩
  rcases Nat.eq_zero_or_pos k with h0 | h0
  · obtain ⟨A, c, rfl, h1, h2⟩ := h.seg.form
    exact ⟨A, c, by rw [hl], by omega, by unfold maxLen at h2; omega, fun j hj => by omega⟩
  · obtain ⟨g, o, cap, rfl, ho, h1, h2, h3, _⟩ := h.seg.shape h0
    refine ⟨_, cap, by rw [hl], by omega, by unfold maxLen at h2; omega, fun j hj => ?_⟩
    obtain ⟨fv, a, b, c⟩ := h.fs j (by omega) (by omega)
    refine ⟨g, o, fv, rfl, h.seg.lt g ho, ?_, ?_, ?_⟩
    · rw [List.getElem_take]; exact h3 _ _ a
    · exact h3 _ _ b
    · rw [List.getElem_take]; exact c.keep fun g hg _ => ⟨rfl, hg⟩
theorem two_news (w : World) (t : TypeId) (a b : Value) : ∀ j u, [a, b][j]? = some u → (w.alloc (.cells #[a, b] t)).cell? ((⟨w.heap.size, 0, none⟩ : Addr).add j) = some u := by
  intro j u hj
  match j, hj with
  | 0, hj => simp at hj; subst hj; simp [Addr.add]
  | 1, hj => simp at hj; subst hj; simp [Addr.add]
theorem MayT.len {t : Ty} {fl : List Fld} (h : MayT t) (e : fl = t.2) : fl.length ≤ 8 := by rw [e]; exact h.2.1
theorem type_info : (Tryd.prog.info? 67).map (fun i => (i.zero, i.size, i.bytes)) = some (some (.agg #[.string ByteArray.empty, .slice none 0 0]), 2, 40) := by kernel_rfl
def NewPost (w : World) (ts : List Ty) (e : Ending) (w' : World) : Prop :=
  ∃ p c, e = .returned (.tuple #[.pointer p, .int .i64 c]) ∧ NewR ts c ∧ (c = 0 → Sc w' w'.heap.size p ts) ∧ (c ≠ 0 → p = none) ∧ Below w.heap.size w w'
theorem may_is (n : ByteArray) (v : Value) (fs : List Fld) (B : Nat) (w : World) (r : Bool) (hr : mayB (n, fs) = r) (hf : Fs w B v fs) (hB : B ≤ w.heap.size) :
    Calls Tryd.prog 31 #[.agg #[.string n, v]] w fun e w' => e = .returned (.bool r) ∧ Below w.heap.size w w' := by subst hr; exact may_any n v fs B w hf hB
theorem place_is (p : Option Addr) (ts : List Ty) (nm : ByteArray) (B : Nat) (w : World) (r : Int) (hr : idx (ts.map Prod.fst) nm = r) (hs : Sc w B p ts) (hB : B ≤ w.heap.size) :
    Calls Tryd.prog 32 #[.pointer p, .string nm] w fun e w' => e = .returned (.int .i64 r) ∧ Below w.heap.size w w' := by subst hr; exact place_any p ts nm B w hs hB
set_option maxRecDepth 100000 in
set_option maxHeartbeats 2000000 in
theorem new_any (vl : Value) (ts : List Ty) (B : Nat) (w : World) (hts : Ts w B vl ts) (hB : B ≤ w.heap.size) :
    Calls Tryd.prog 7 #[vl] w (NewPost w ts) := by
  have HT := Lib.hid hts
  obtain ⟨A, c, rfl, hn, hcm, _⟩ := hts
  by_cases h16 : 16 < ts.length
  · go_enter Tryd.func7, Tryd.ntmps7
    go_wp2
    go_ret2
    exact ⟨none, 5, rfl, .inl ⟨h16, rfl⟩, by simp, fun _ => rfl, Below.refl _ _⟩
  have hle : ts.length ≤ 16 := by omega
  clear h16
  obtain ⟨i0, hi0, hz0, hz1, hz2⟩ := info_parts type_info
  go_enter Tryd.func7, Tryd.ntmps7
  go_wp2
  go_loopw [14] (fun s wr => ∃ k : Nat, k ≤ ts.length ∧ s = .int .i64 k ∧ Hid (∃ v ob xs, NI w wr ts k v ob xs) ∧ Hid (Fine ts k)) (fun s _ => ts.length - (intOf s).toNat)
  case atStart => exact ⟨0, by omega, rfl, ⟨.slice none 0 0, none, [], Row.made w _ _, seg_zero _ _ _ _, (fun _ e => by cases e), (Below.refl _ w).alloc (Nat.le_refl _) _, fun _ _ h => absurd h (by omega)⟩, fun _ _ h => absurd h (by omega)⟩
  case round =>
    obtain ⟨k, hk, rfl, hni, hfine⟩ := hrel
    obtain ⟨v, ob, xs, hNI⟩ := hni.out
    have HN := Lib.hid hNI
    by_cases hlt : k < ts.length
    · obtain ⟨A', c', e1, _, _, h3⟩ := HT.out.below (hNI.be.mono hB) (Nat.le_refl _)
      injection e1 with e1 _ e3
      subst e1 e3
      obtain ⟨g, o, fv, rfl, hg, c0, c1, hf⟩ := h3 k hlt
      obtain ⟨x, hx⟩ : ∃ x, x = ts[k].1 := ⟨_, rfl⟩
      obtain ⟨fl, hfl⟩ : ∃ fl, fl = ts[k].2 := ⟨_, rfl⟩
      have HX := Lib.hid hx
      have HFL := Lib.hid hfl
      have hMT : MayT ts[k] ↔ mayB (x, fl) = true := by rw [hx, hfl]; unfold mayB; simp only [decide_eq_true_eq]
      have HMT := Lib.hid hMT
      rw [← hx] at c0
      rw [← hfl] at hf
      have HFv := Lib.hid hf
      have hwz : w.heap.size < wr.heap.size := hNI.row.lt
      obtain ⟨A2, c2, rfl, hn2, hcm2, _⟩ := hf
      have hBz : B ≤ wr.heap.size := by omega
      obtain ⟨bm, hbm⟩ : ∃ b, mayB (x, fl) = b := ⟨_, rfl⟩
      obtain ⟨r, hr⟩ : ∃ r, idx ((ts.take k).map Prod.fst) x = r := ⟨_, rfl⟩
      have HBM := Lib.hid hbm
      have HR := Lib.hid hr
      have HBE := Lib.hid hNI.be
      clear h3 hNI hni hMT hx hfl hbm hr
      cases bm with
      | false =>
        go_wp2_with (go_at_call 31; refine (may_is x (.slice A2 fl.length c2) fl B _ false HBM.out ?_ ?_).mono ?_; (exact HFv.out.below (by go_grown) (Nat.le_refl _)); (first | omega | (simp; omega)); rintro e w1 ⟨rfl, hb1⟩)
        go_ret2
        exact ⟨none, 1, rfl, .inr (.inl ⟨hle, k, hlt, hfine.out, (fun h => by have := HMT.out.1 h; rw [HBM.out] at this; cases this), rfl⟩), by simp, fun _ => rfl, HBE.out.trans ((show Below w.heap.size wr _ from by go_grown).trans (hb1.mono (by simp; omega)))⟩
      | true =>
        go_wp2_with fail
        refine (may_is x (.slice A2 fl.length c2) fl B _ true HBM.out (HFv.out.below (by go_grown) (Nat.le_refl _)) (by simp; omega)).mono ?_
        rintro e w1 ⟨rfl, hb1⟩
        have hr1 : Row w1 wr.heap.size 67 #[.string x, .slice A2 fl.length c2] := Row.below (Row.made wr _ _) hb1 (by simp)
        have hw1 : Below wr.heap.size wr w1 := ((Below.refl _ wr).alloc (Nat.le_refl _) _).trans (hb1.mono (by simp))
        have d0 : w1.cell? ⟨wr.heap.size, 0, none⟩ = some (.string x) := (hr1.cell 0).trans rfl
        have z1 : wr.heap.size + 1 ≤ w1.heap.size := by have := hb1.size; simpa using this
        have HR1 := Lib.hid hr1
        have HW1 := Lib.hid hw1
        clear hb1 hr1 hw1 c0 c1
        go_wp2_with fail
        refine (place_is (some ⟨w.heap.size, 0, none⟩) (ts.take k) x _ _ r HR.out (sc_of_NI (HN.out.mono HW1.out) hk) (Nat.le_refl _)).mono ?_
        rintro e w2 ⟨rfl, hb2⟩
        clear d0
        by_cases hr0 : 0 ≤ r
        · go_wp2
          go_ret2
          exact ⟨none, 4, rfl, .inr (.inr (.inl ⟨hle, k, hlt, hfine.out, HMT.out.2 HBM.out, by rw [← HX.out, HR.out]; exact hr0, rfl⟩)), by simp, fun _ => rfl, HBE.out.trans ((HW1.out.mono (by omega)).trans (hb2.mono (by omega)))⟩
        · have hrd : decide (0 ≤ r) = false := by simp; omega
          have hN2 : NI w w2 ts k v ob xs := HN.out.mono (HW1.out.trans (hb2.mono (by omega)))
          have hr2 : Row w2 wr.heap.size 67 #[.string x, .slice A2 fl.length c2] := Row.below HR1.out hb2 (by omega)
          have z2 : wr.heap.size + 1 ≤ w2.heap.size := Nat.le_trans z1 hb2.size
          have hF2 : Fs w2 B (.slice A2 fl.length c2) fl := HFv.out.below ((HW1.out.mono hBz).trans (hb2.mono (by omega))) (Nat.le_refl _)
          have e0 : w2.cell? ⟨wr.heap.size, 0, none⟩ = some (.string x) := (hr2.cell 0).trans rfl
          have e1 : w2.cell? ⟨wr.heap.size, 1, none⟩ = some (.slice A2 fl.length c2) := (hr2.cell 1).trans rfl
          have e2 : w2.cell? ⟨w.heap.size, 0, none⟩ = some v := (hN2.row.cell 0).trans rfl
          have HN2 := Lib.hid hN2
          have HF2 := Lib.hid hF2
          have HR0 := Lib.hid hr0
          clear hb2 hN2 hr2 hF2 hr0
          go_wp2
          go_region_law (first
            | (
                refine step_append_seg _ rfl (.tmp 30) (.tmp 33) 29 rfl 67 i0 _ 2 40 Tryd.underlying29 hi0 hz0 hz1 hz2 rfl (by decide) _ k xs ob rfl (Seg.alloc HN3.out.seg _) ⟨w3.heap.size, 0, none⟩ 1 1 [.string x, .slice A3 fl.length c3] rfl rfl (two_news _ _ _ _) (by simp [Value.oneCell']) (by omega) (by unfold maxLen; omega) (by omega) ?_
                intro v4 w4 ob4 hs4 ht4 ho4
                have HS4 := Lib.hid hs4
                obtain ⟨A4, c4, rfl, _, _⟩ := hs4.form
                have r4 : Row w4 w.heap.size 64 #[v] := Row.turns (Row.alloc HN3.out.row _) ht4 (fun e => by have := HN3.out.hob _ e; omega)
                have g0 : w4.cell? ⟨w.heap.size, 0, none⟩ = some v := (r4.cell 0).trans rfl
                have g1 : w4.frozen? ⟨w.heap.size, 0, none⟩ = false := r4.free 0)
            | (
                go_simp
                go_at_call 33
                refine (twin_any x (.slice A2 fl.length c2) fl B _ ?_ ?_ ?_).mono ?_
                exact HF2.out.below (by go_grown) (Nat.le_refl _)
                (first | omega | (simp; omega))
                (have h8 := MayT.len (HMT.out.2 HBM.out) HFL.out; omega)
                rintro e w3 ⟨v3, rfl, hf3, hb3⟩
                have HF3 := Lib.hid hf3
                obtain ⟨A3, c3, rfl, _, _, _⟩ := hf3
                have hN3 : NI w w3 ts k v ob xs := HN2.out.mono (Below.trans (by go_grown) hb3)
                have HN3 := Lib.hid hN3
                have HB3 := Lib.hid hb3
                have k0 : w3.cell? ⟨w.heap.size, 0, none⟩ = some v := (hN3.row.cell 0).trans rfl
                have k1 : (w3.alloc (.cells #[.string x, .slice A3 fl.length c3] 67)).cell? ⟨w.heap.size, 0, none⟩ = some v := Lib.cell?_alloc_some _ k0
                clear hN3 hb3))
          all_goals
            go_wp2
            have hW : NI w (w3.alloc (.cells #[.string x, .slice A3 fl.length c3] 67)) ts k v ob xs := HN3.out.mono (by go_grown)
            have hV : FsS (w3.alloc (.cells #[.string x, .slice A3 fl.length c3] 67)) (fun g => w.heap.size < g ∧ ob ≠ some g) (.slice A3 fl.length c3) ts[k].2 := by
              rw [← HFL.out]
              exact HF3.out.keep fun g hg hs => ⟨Below.heap_alloc _ _ g hg, by have h : w2.heap.size ≤ g := hs.1; omega, fun e => by have h := HN2.out.seg.lt g e; have h' : w2.heap.size ≤ g := hs.1; omega⟩
            have hP := hW.push hlt (by rw [← HX.out]; exact HS4.out) ht4 ho4 hV
            go_roundw
            case rel => exact ⟨k + 1, by omega, by go_num, ⟨_, _, _, hP⟩, fun j hj h1 => by
              by_cases e : j = k
              · subst e; exact ⟨HMT.out.2 HBM.out, by rw [← HX.out, HR.out]; have := HR0.out; omega⟩
              · exact hfine.out j hj (by omega)⟩
            case measure => simp [intOf]; omega
    · have hk' : k = ts.length := by omega
      subst hk'
      clear hlt
      go_wp2
      go_ret2
      exact ⟨_, 0, rfl, .inr (.inr (.inr ⟨hle, hfine.out, rfl⟩)), fun _ => by have := sc_of_NI HN.out (Nat.le_refl _); rwa [List.take_length] at this, by simp, HN.out.be⟩
end Go.Proofs.YtookojgemipakaaDoor.Sch
