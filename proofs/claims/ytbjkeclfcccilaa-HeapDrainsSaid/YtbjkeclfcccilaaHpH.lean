/- A heap in memory: a thing is put to it. -/
import Derived.Test.YtbjkeclfcccilaaHpG
import Derived.Deep.RegionLaw
namespace Go.Proofs.Ytbjkeclfcccilaa.Hp
open Go.RowKit Go.Proofs.Ytbjkeclfcccilaa
set_option linter.unusedVariables false
set_option maxRecDepth 100000
theorem step_append_seg {P : Program} {e : TypeId} {v : Value} {n size : Nat} {xs : List Value} {ob : Option Nat} {ops : Array Oper} {o : Oper} {a : Act} {K : Act → World → Prop} {Q : Exit → Act → World → Prop} {E : Prop} (w : World) (hgd : o.guard = none) (s x : Operand) (t : TypeId)
    (hop : o.op = .call { callee := .builtin .append, args := #[s, x], argTypes := #[t, t] })
    (i : TypeInfo) (z : Value) (bytes : Nat) (ht : P.underlying t = some (.slice e)) (hi : P.info? e = some i) (hz : i.zero = some z)
    (hsize : i.size = size) (hby : i.bytes = bytes) (hzs : z.cells.size = size) (hsz : 0 < size) (hs : a.eval s = v) (h : Seg w e size v n xs ob)
    (ad : Addr) (m c : Nat) (news : List Value) (hx : a.eval x = .slice (some ad) m c) (hl : news.length = m * size) (hnews : ∀ j u, news[j]? = some u → w.cell? (ad.add j) = some u) (h1 : ∀ u ∈ news, u.oneCell' = true) (hm : 0 < m)
    (h63 : n + m ≤ maxLen) (hbytes : (n + m) * bytes ≤ 140737488355328)
    (hK : ∀ v' w' ob', Seg w' e size v' (n + m) (xs ++ news) ob' → Turns w w' (fun k => ob = some k) → (ob' = ob ∨ ∃ g, ob' = some g ∧ w.heap.size ≤ g) → K (a.put o.dst v') w') :
    if Region.wanted o (yielded ops a.tmps) = true then Oper.wp P o a w K Q else E := by
  rw [if_pos (by simp [Region.wanted, hgd])]
  obtain ⟨v', w', ob', hrun, r1, r2, r3⟩ := run_append_seg (P := P) t o.type i z bytes ht hi hz hsize hby hzs hsz h ad m c news hl hnews h1 hm h63 hbytes
  unfold Oper.wp
  simp [execOp, hop, resolve, invoke, builtin, hs, hx, hrun, Result.andThen]
  exact hK v' w' ob' r1 r2 r3
theorem news_row {w : World} {g : Nat} {t : TypeId} {cs : Array Value} (h : Row w g t cs) : ∀ j u, cs.toList[j]? = some u → w.cell? ((⟨g, 0, none⟩ : Addr).add j) = some u := fun j u hj => by
  rw [Addr.add_lit, Nat.zero_add, h.cell]
  simpa using hj
theorem drewS {w : World} {e : TypeId} {size : Nat} {v : Value} {n : Nat} {xs : List Value} {ob : Option Nat} (h : Seg w e size v n xs ob) : Seg w.drew e size v n xs ob := h
theorem stamp_info : (Try.prog.info? 28).map (fun i => (i.zero, i.size, i.bytes)) = some (some (.agg #[.int .i64 0, .int .i64 0, .int .i64 0]), 3, 24) := by kernel_rfl
/-- Which blocks a heap's own calls turn: its own, and that of its things. -/
structure Pz (w wx : World) (b : Nat) (ob : Option Nat) (v' : Value) (ob' : Option Nat) (ys : List St) : Prop where
  hm : Hm wx b v' ob' ys
  tr : Turns w wx (fun k => k = b ∨ ob = some k)
  nb : ob' = ob ∨ ∃ g, ob' = some g ∧ w.heap.size ≤ g
set_option maxHeartbeats 4000000 in
theorem push_any (b : Nat) (v : Value) (ob : Option Nat) (xs : List St) (x : St) (w : World) (h : Hm w b v ob xs) (h64 : xs.length < 65536) :
    Calls Try.prog 5 #[.pointer (some ⟨b, 0, none⟩), .agg #[.int .i64 x.t, .int .i64 x.q, .int .i64 x.a]] w fun e w' => e = .returned (.bool true) ∧ ∃ v' ob', Pz w w' b ob v' ob' (rise (xs ++ [x]) xs.length) := by
  have hB := (Below.refl _ w).alloc (Nat.le_refl _) (.cells #[.int .i64 x.t, .int .i64 x.q, .int .i64 x.a] 28)
  have HM := Lib.hid (h.call hB)
  have HR := Lib.hid (Row.made w 28 #[.int .i64 x.t, .int .i64 x.q, .int .i64 x.a])
  obtain ⟨A, cap, rfl, h1, h2⟩ := h.seg.form
  have h3 : cap ≤ 9223372036854775807 := by unfold maxLen at h2; omega
  have c0 : (w.alloc (.cells #[.int .i64 x.t, .int .i64 x.q, .int .i64 x.a] 28)).cell? ⟨b, 0, none⟩ = some (.slice A xs.length cap) := (HM.out.row.cell 0).trans rfl
  have hd : decide ((65536 : Int) ≤ (xs.length : Int)) = false := decide_eq_false (by omega)
  have hb : b < w.heap.size := h.row.lt
  obtain ⟨i0, hi0, hz0, hz1, hz2⟩ := info_parts stamp_info
  clear h h2 hB
  go_enter Try.func5, Try.ntmps5
  go_upto_region 3 with fail
  have hBE : Below w.heap.size w (w.alloc (.cells #[.int .i64 x.t, .int .i64 x.q, .int .i64 x.a] 28)) := (Below.refl _ w).alloc (Nat.le_refl _) _
  have HBE := Lib.hid hBE
  clear hBE
  generalize (w.alloc (.cells #[.int .i64 x.t, .int .i64 x.q, .int .i64 x.a] 28)) = W1 at HM HR c0 HBE ⊢
  generalize w.heap.size = bx at HR ⊢
  have x0 : W1.cell? ⟨bx, 0, none⟩ = some (.int .i64 x.t) := (HR.out.cell 0).trans rfl
  have x1 : W1.cell? ⟨bx, 1, none⟩ = some (.int .i64 x.q) := (HR.out.cell 1).trans rfl
  have x2 : W1.cell? ⟨bx, 2, none⟩ = some (.int .i64 x.a) := (HR.out.cell 2).trans rfl
  have hb1 : b < W1.heap.size := HM.out.row.lt
  have hx1 : bx < W1.heap.size := HR.out.lt
  have hbn : b ≠ W1.heap.size := by omega
  have hxn : bx ≠ W1.heap.size := by omega
  go_region_law (
    refine step_append_seg _ rfl _ _ 24 rfl i0 _ 24 Try.underlying24 hi0 hz0 hz1 hz2 rfl (by decide) rfl (drewS (HM.out.seg.alloc _)) ⟨W1.heap.size, 0, none⟩ 1 1 x.cells rfl rfl (news_row (Row.drew (Row.made W1 _ _))) (by simp [St.cells, Value.oneCell']) (by decide) (by unfold maxLen; omega) (by omega) ?_
    intro v2 w5 ob2 hs2 ht2 ho2
    have r5 := (Row.drew (HM.out.row.alloc _)).turns ht2 (fun e => by
      have hsg := HM.out.seg
      rw [e] at hsg
      obtain ⟨c', hr'⟩ := seg_row hsg
      exact row_ne HM.out.row hr' (by decide) rfl)
    obtain ⟨A2, cap2, rfl, hn5, hm5⟩ := hs2.form
    have f0 := (r5.cell 0).trans rfl
    have f1 := r5.free 0)
  all_goals
    have hs2' := hs2
    obtain ⟨g2, o2, cap3, e2, hob2, q1, q2, q3, q4⟩ := hs2.shape (by omega)
    injection e2 with e2 e3 e4
    subst e2 hob2
    clear q1 q2 q3 q4 e3 e4 hs2
    have hl : (xs ++ [x]).length = xs.length + 1 := by simp
    have hne : some g2 ≠ some b := fun e => by
      injection e with e
      obtain ⟨c', hr'⟩ := seg_row hs2'
      exact row_ne hr' r5 (by decide) e
    have hm5' : Hm (w5.setCell ⟨b, 0, none⟩ (.slice (some ⟨g2, o2, none⟩) (xs.length + 1) cap2)) b (.slice (some ⟨g2, o2, none⟩) (xs ++ [x]).length cap2) (some g2) (xs ++ [x]) := by
      rw [hl]
      refine ⟨by simpa using r5.put 0 (.slice (some ⟨g2, o2, none⟩) (xs.length + 1) cap2), ?_⟩
      have e : hcells (xs ++ [x]) = hcells xs ++ x.cells := by simp [hcells]
      rw [hl, e]
      exact hs2'.past (p := ⟨b, 0, none⟩) hne _
    have hT : Turns w (w5.setCell ⟨b, 0, none⟩ (.slice (some ⟨g2, o2, none⟩) (xs.length + 1) cap2)) (fun k => k = b ∨ ob = some k) :=
      ((((((Turns.of_below HBE.out).mono (S' := fun k => k = b ∨ ob = some k) (fun _ _ h => h.elim)).alloc _).drewN 1).trans ht2 (fun k hk e => Or.inr e))).put b 0 _ (fun _ => Or.inl rfl)
    have hz1 := HBE.out.size
    have hg2 : ob = some g2 ∨ w.heap.size ≤ g2 := by
      rcases ho2 with e | ⟨g', e, hg'⟩
      · exact .inl e.symm
      · injection e with e
        subst e
        simp at hg'
        exact .inr (by omega)
    have n5 : (w5.setCell ⟨b, 0, none⟩ (.slice (some ⟨g2, o2, none⟩) (xs.length + 1) cap2)).cell? ⟨b, 0, none⟩ = some (.slice (some ⟨g2, o2, none⟩) (xs.length + 1) cap2) := by
      rw [hm5'.row.cell 0, hl]
      rfl
    have HM5 := Lib.hid hm5'
    have HT5 := Lib.hid hT
    have HG2 := Lib.hid hg2
    have HL := Lib.hid hl
    clear hs2' ht2 ho2 r5 f0 f1 hm5' hT hg2 hl hne
    go_wp2_with fail
    refine (rise_any b g2 o2 cap2 (xs ++ [x]) xs.length _ HM5.out (by rw [HL.out]; omega) (by rw [HL.out]; omega)).mono ?_
    rintro e w6 ⟨rfl, hrz⟩
    have HP : Hid (Pz w w6 b ob (.slice (some ⟨g2, o2, none⟩) (xs ++ [x]).length cap2) (some g2) (rise (xs ++ [x]) xs.length)) := Lib.hid ⟨hrz.hm, HT5.out.trans hrz.tr (fun k hk e => by
      subst e
      rcases HG2.out with h | h
      · exact .inr h
      · omega), by
      rcases HG2.out with h | h
      · exact .inl h.symm
      · exact .inr ⟨g2, rfl, h⟩⟩
    clear hrz
    go_wp2
    go_ret
    exact ⟨rfl, _, _, HP.out⟩
end Go.Proofs.Ytbjkeclfcccilaa.Hp
