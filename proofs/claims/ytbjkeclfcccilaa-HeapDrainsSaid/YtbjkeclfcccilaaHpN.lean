/- A heap in memory: what is told one by one, as a list. -/
import Derived.Test.YtbjkeclfcccilaaHpM
import Derived.Test.YtbjkeclfcccilaaHpH
import Derived.Deep.RegionHeld3
namespace Go.Proofs.Ytbjkeclfcccilaa.Hp
open Go.RowKit Go.Proofs.Ytbjkeclfcccilaa Go.Proofs.Ytbjkeclfcccilaa.Mut
set_option linter.unusedVariables false
set_option maxRecDepth 100000
attribute [local go_sem] Oper.semAt_some
/-- The list so far. -/
structure Lst (w W : World) (T : Nat → Prop) (N : Nat) (pre : List St) (v : Value) (ob : Option Nat) : Prop where
  row : Row W w.heap.size 24 #[v]
  seg : Seg W 28 3 v pre.length (hcells pre) ob
  own : ∀ g, ob = some g → w.heap.size < g
  tr : Turns w W T
  le : pre.length ≤ N
theorem Lst.turn {w W X : World} {T : Nat → Prop} {N : Nat} {pre : List St} {v : Value} {ob : Option Nat} (h : Lst w W T N pre v ob) (hT : ∀ k, T k → k < w.heap.size) (t : Turns W X T) : Lst w X T N pre v ob :=
  ⟨h.row.turns t (fun e => by have := hT _ e; omega), h.seg.turns t (fun g hg e => by have := hT _ e; have := h.own g hg; omega), h.own, h.tr.trans t (fun _ _ e => e), h.le⟩
theorem Lst.put {w W : World} {T : Nat → Prop} {N : Nat} {pre : List St} {v : Value} {ob : Option Nat} (h : Lst w W T N pre v ob) {l : Nat} {o : Obj} (o' : Obj) (hl : W.heap[l]? = some o) (ho : o.isCells = false) (hw : w.heap.size ≤ l) : Lst w (W.putObj l o') T N pre v ob :=
  ⟨row_put o' hl ho h.row, seg_put o' hl ho h.seg, h.own, turns_put (o := o) o' hw h.tr, h.le⟩
theorem keeps_turns {B : Nat} {W W' : World} {S : Nat → Prop} (h : Turns W W' S) (hS : ∀ k o, S k → W.heap[k]? = some o → o.isCells = true) : KeepsFrom B W W' :=
  ⟨h.size, fun k o _ hk ho => (h.block k (Array.getElem?_eq_some_iff.1 hk).1 (fun e => by have := hS k o e hk; rw [ho] at this; cases this)).trans hk⟩
theorem wpListIn_append_seg {F : Fence} {nF : Nat} {P : Program} {ops : Array Oper} {rest : List Oper} {o : Oper} {a : Act} {Q : Exit → Act → World → Prop} (w : World) (hgd : o.guard = none) (s x : Operand) (t : TypeId)
    (hop : o.op = .call { callee := .builtin .append, args := #[s, x], argTypes := #[t, t] })
    (e : TypeId) (i : TypeInfo) (z : Value) (size bytes : Nat) (ht : P.underlying t = some (.slice e)) (hi : P.info? e = some i) (hz : i.zero = some z)
    (hsize : i.size = size) (hby : i.bytes = bytes) (hzs : z.cells.size = size) (hsz : 0 < size) (v : Value) (n : Nat) (xs : List Value) (ob : Option Nat) (hs : a.eval s = v) (h : Seg w e size v n xs ob)
    (ad : Addr) (m c : Nat) (news : List Value) (hx : a.eval x = .slice (some ad) m c) (hl : news.length = m * size) (hnews : ∀ j u, news[j]? = some u → w.cell? (ad.add j) = some u) (h1 : ∀ u ∈ news, u.oneCell' = true) (hm : 0 < m)
    (h63 : n + m ≤ maxLen) (hbytes : (n + m) * bytes ≤ 140737488355328)
    (hK : ∀ v' w' ob', Seg w' e size v' (n + m) (xs ++ news) ob' → Turns w w' (fun k => ob = some k) → (ob' = ob ∨ ∃ g, ob' = some g ∧ w.heap.size ≤ g) → wpListIn F nF P ops Q rest (a.put o.dst v') w') :
    wpListIn F nF P ops Q (o :: rest) a w := by
  refine wpListIn_plain hgd fun K hK' => ?_
  obtain ⟨v', w', ob', hrun, r1, r2, r3⟩ := run_append_seg (P := P) t o.type i z bytes ht hi hz hsize hby hzs hsz h ad m c news hl hnews h1 hm h63 hbytes
  unfold Oper.wpIn
  refine ⟨?_, ?_⟩
  · simp [Oper.about, hop, resolve, Target.leads, Sem.run_pure]
  · rw [Oper.semAt_plain F _ _ (by rw [hop]; intro c hc'; cases hc')]
    simp [execOp, hop, resolve, invoke, builtin, hs, hx, hrun, Result.andThen]
    exact hK' _ _ (hK v' w' ob' r1 r2 r3)
set_option maxHeartbeats 4000000 in
theorem listed_any (hB mB : Nat) (T : Nat → Prop) (S : Bool → List St → World → Prop) (N : Nat) (hN : N ≤ 65536) (G : List St → St → Prop) (hG : ∀ pre x, G pre x → pre.length < N) (w : World)
    (hseq : Walks Fence.wide 5 Try.prog 21 #[.pointer (some ⟨hB, 0, none⟩), .pointer (some ⟨mB, 0, none⟩)] (fun x : St => #[Value.agg #[.int .i64 x.t, .int .i64 x.q, .int .i64 x.a]]) (KpB w.heap.size w.heap.size) T S G w)
    (hT : ∀ k, T k → k < w.heap.size) (hS : ∀ c, OwnFrom w.heap.size (S c)) :
    Calls Try.prog 19 #[.func (.func 21) #[] #[.pointer (some ⟨hB, 0, none⟩), .pointer (some ⟨mB, 0, none⟩)]] w fun e w' =>
      ∃ v ob ys, e = .returned v ∧ Seg w' 28 3 v ys.length (hcells ys) ob ∧ (∀ g, ob = some g → w.heap.size ≤ g) ∧ S true ys w' ∧ Turns w w' T := by
  have HT := Lib.hid hT
  refine (callsIn_wide (n := 6)).1 ?_
  refine callsIn_of_wp_marks Try.func19 rfl trivial ?_ rfl
  simp only [Try.ntmps19, List.size_toArray, List.length_cons, List.length_nil, Nat.reduceAdd, Nat.reduceSub, Array.replicate_succ, Array.replicate_zero, List.push_toArray, List.append_toArray, List.nil_append, List.cons_append]
  have hF : ∀ k, Fence.wide.fn k := fun _ => trivial
  have HSEQ := Lib.hid hseq
  have HS := Lib.hid hS
  have H1 : Hid (Lst w (w.alloc (.cells #[.slice none 0 0] 24)) T N [] (.slice none 0 0) none) := Lib.hid
    ⟨Row.made w _ _, Seg.nil _ _ _, (fun _ e => by cases e), (Turns.refl w T).alloc _, Nat.zero_le _⟩
  clear hseq hS hT
  gi_wp2_with fail
  obtain ⟨w1, hw1⟩ : ∃ w1, w1 = w.alloc (.cells #[.slice none 0 0] 24) := ⟨_, rfl⟩
  have hs1 : w1.heap.size = w.heap.size + 1 := by rw [hw1]; simp
  have HB1 : Hid (Below w.heap.size w w1) := Lib.hid (by rw [hw1]; exact (Below.refl _ w).alloc (Nat.le_refl _) _)
  rw [← hw1] at H1 ⊢
  clear hw1
  refine wpIn_rangeMut rfl (by omega) (gf := 21) (lb := #[.pointer (some ⟨hB, 0, none⟩), .pointer (some ⟨mB, 0, none⟩)]) rfl trivial (enters_of Try.func21 (by kernel_rfl) rfl)
    HSEQ.out (fun k hk => by have := HT.out k hk; omega) (fun h k => kpB_t h k) (fun W l o hl => ⟨by simp, fun k o' hk _ ho => (World.putObj_heap_other (by omega)).trans ho⟩) HB1.out (fun _ => rfl)
    (fun c s A B row h hg hr => HS.out c s A B row h hg (fun r e => by obtain ⟨h1, h2⟩ := hr r e; exact ⟨by omega, h2⟩))
    (fun pre W => ∃ v ob, Lst w W T N pre v ob) (fun _ _ _ => False) ?iown (fun s A B h t => by obtain ⟨v, ob, h⟩ := h; exact ⟨v, ob, h.turn HT.out t⟩) (fun _ _ _ _ _ h _ _ => h) (fun _ _ _ _ h _ => h) ⟨_, _, H1.out⟩ ?round ?done ?stop
  case stop =>
    intro D c pre W _ _ h
    exact h.elim
  case iown =>
    intro pre A B row h hg hr
    obtain ⟨v, ob, h⟩ := h
    have hcell : ∀ r, row = some r → ∃ o : Obj, A.heap[r]? = some o ∧ o.isCells = false := fun r e => (hr r e).2
    have hrow : ∀ {b : Nat} {t : TypeId} {cs : Array Value}, Row A b t cs → Row B b t cs := fun {b t cs} hb => (hg.block b hb.lt (fun e => by
      obtain ⟨o, ho1, ho2⟩ := hcell b e.symm
      unfold Row at hb
      rw [hb] at ho1
      cases ho1
      cases ho2)).trans hb
    refine ⟨v, ob, hrow h.row, ?_, h.own, h.tr.trans (Turns.of_grown hg) (fun k hk e => by have := (hr k e).1; omega), h.le⟩
    obtain ⟨h0, A', cap, hv, h1, h2, h3⟩ := h.seg
    refine ⟨h0, A', cap, hv, h1, h2, ?_⟩
    rcases h3 with h3 | ⟨g, o2, cur, a1, a2, a3, a4, a5⟩
    · exact .inl h3
    · exact .inr ⟨g, o2, cur, a1, a2, hrow a3, a4, a5⟩
  case round =>
    intro l pre x W hl hI hgx
    have hlen := hG pre x hgx
    obtain ⟨v, ob, hL⟩ := hI
    have HL := Lib.hid hL
    obtain ⟨i0, hi0, hz0, hz1, hz2⟩ := info_parts stamp_info
    clear hL
    gi_wp2_with fail
    have hwl : w.heap.size < W.heap.size := HL.out.row.lt
    refine ⟨(KeepsOthers.alloc _ _).from _, ⟨by simp, fun k o hk _ ho => (Below.heap_alloc W _ k (Array.getElem?_eq_some_iff.1 ho).1).trans ho⟩, fun o o' ho hlo => ?_⟩
    have HX := Lib.hid (row_put o' hlo ho (Row.made W 28 #[.int .i64 x.t, .int .i64 x.q, .int .i64 x.a]))
    have HL2 := Lib.hid ((⟨HL.out.row.alloc _, HL.out.seg.alloc _, HL.out.own, HL.out.tr.alloc _, HL.out.le⟩ : Lst w (W.alloc (.cells #[.int .i64 x.t, .int .i64 x.q, .int .i64 x.a] 28)) T N pre v ob).put o' hlo ho (by omega))
    generalize (W.alloc (.cells #[.int .i64 x.t, .int .i64 x.q, .int .i64 x.a] 28)).putObj l o' = X at HX HL2 ⊢
    generalize W.heap.size = xB at HX ⊢
    have x0 : X.cell? ⟨xB, 0, none⟩ = some (.int .i64 x.t) := (HX.out.cell 0).trans rfl
    have x1 : X.cell? ⟨xB, 1, none⟩ = some (.int .i64 x.q) := (HX.out.cell 1).trans rfl
    have x2 : X.cell? ⟨xB, 2, none⟩ = some (.int .i64 x.a) := (HX.out.cell 2).trans rfl
    have l0 : X.cell? ⟨w.heap.size, 0, none⟩ = some v := (HL2.out.row.cell 0).trans rfl
    gi_wp2_with (gi_at_builtin; refine wpListIn_append_seg _ rfl _ _ 24 rfl 28 i0 _ 3 24 Try.underlying24 hi0 hz0 hz1 hz2 rfl (by decide) _ pre.length (hcells pre) ob rfl (HL2.out.seg.alloc _) ⟨X.heap.size, 0, none⟩ 1 1 x.cells rfl rfl (news_row (Row.made X _ _)) (by simp [St.cells, Value.oneCell']) (by decide) (by unfold maxLen; omega) (by omega) ?_; intro v2 w5 ob2 hs2 ht2 ho2; have r5 := (Row.alloc HL2.out.row (.cells #[.int .i64 x.t, .int .i64 x.q, .int .i64 x.a] 28)).turns ht2 (fun e => Nat.lt_irrefl _ (HL2.out.own _ e)); obtain ⟨A2, cap2, rfl, hn5, hm5⟩ := hs2.form; have f0 := (r5.cell 0).trans rfl; have f1 := r5.free 0; go_frame)
    have hXs := HL2.out.row.lt
    have hx2 : ∀ k o, ob = some k → (X.alloc (.cells #[.int .i64 x.t, .int .i64 x.q, .int .i64 x.a] 28)).heap[k]? = some o → o.isCells = true := fun k o e h => by
      have hsg := HL2.out.seg.alloc (.cells #[.int .i64 x.t, .int .i64 x.q, .int .i64 x.a] 28)
      rw [e] at hsg
      obtain ⟨c', hr'⟩ := seg_row hsg
      unfold Row at hr'
      rw [hr'] at h
      cases h
      rfl
    have hb5 : Turns X w5 (fun k => ob = some k) := ((Turns.refl X (fun k => ob = some k)).alloc _).trans ht2 (fun _ _ e => e)
    have ho5 : ∀ g, ob2 = some g → w.heap.size < g := fun g e => by
      rcases ho2 with h | ⟨g', h, hg'⟩
      · rw [h] at e; exact HL2.out.own g e
      · rw [h] at e; injection e with e; subst e; simp at hg'; omega
    have hle5 : (pre ++ [x]).length ≤ N := by simp; omega
    have hcs : hcells (pre ++ [x]) = hcells pre ++ x.cells := by simp [hcells]
    refine ⟨((KeepsOthers.alloc _ _).from _).trans ((keeps_turns ht2 hx2).trans ((KeepsOthers.setCell _ _ _).from _)), ⟨Nat.le_trans hb5.size (by simp), fun k o hk _ hko => ?_⟩, _, ob2, ⟨by simpa using r5.put 0 (.slice A2 (pre.length + 1) cap2), ?_, ho5, ?_, hle5⟩⟩
    · rw [heap_setCell_other _ _ _ _ (by omega), hb5.block k (Array.getElem?_eq_some_iff.1 hko).1 (fun e => by have := HL2.out.own k e; omega)]
      exact hko
    · rw [hcs, List.length_append]
      exact hs2.past (p := ⟨w.heap.size, 0, none⟩) (fun e => Nat.lt_irrefl _ (ho5 _ e)) _
    · exact (HL2.out.tr.trans hb5 (fun k hk e => by have := HL2.out.own k e; omega)).put w.heap.size 0 _ (fun h => absurd h (Nat.lt_irrefl _))
  case done =>
    intro D ys W hD hs hI hK
    obtain ⟨v, ob, hL⟩ := hI
    have HL := Lib.hid hL
    have HK := Lib.hid hK
    have l0 : W.cell? ⟨w.heap.size, 0, none⟩ = some v := (hL.row.cell 0).trans rfl
    clear hL hK
    gi_wp2
    refine ⟨by simp, .inl ⟨_, _, rfl, run_takeDeferred HK.out, ?_⟩⟩
    refine ⟨v, ?_, v, ob, ys, rfl, seg_put _ HK.out rfl HL.out.seg, fun g hg => Nat.le_of_lt (HL.out.own g hg), (HS.out true).putObj _ hs (by omega) HK.out rfl, turns_put (l := D) (o := .deferred none) _ (by omega) HL.out.tr⟩
    simp [results, Try.f19, go_sem]
end Go.Proofs.Ytbjkeclfcccilaa.Hp
