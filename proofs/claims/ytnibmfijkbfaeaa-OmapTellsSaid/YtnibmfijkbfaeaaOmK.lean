/- A list that a range's body appends to, and the keys of a map: keys that are numbers (written by gen_omk). -/
import Derived.Test.YtnibmfijkbfaeaaOmX
namespace Go.Proofs.Ytnibmfijkbfaeaa.Om
open Go.RowKit Go.Proofs.Ytnibmfijkbfaeaa
set_option linter.unusedVariables false
set_option linter.unusedSimpArgs false
set_option maxRecDepth 100000
attribute [local go_sem] Oper.semAt_some
open Key (lt)
theorem keeps_turns {B : Nat} {W W' : World} {S : Nat → Prop} (h : Turns W W' S) (hS : ∀ k o, S k → W.heap[k]? = some o → o.isCells = true) : KeepsFrom B W W' :=
  ⟨h.size, fun k o _ hk ho => (h.block k (Array.getElem?_eq_some_iff.1 hk).1 (fun e => by have := hS k o e hk; rw [ho] at this; cases this)).trans hk⟩
theorem wpListIn_append_seg {F : Fence} {nF : Nat} {P : Program} {ops : Array Oper} {rest : List Oper} {o : Oper} {a : Act} {Q : Exit → Act → World → Prop} (w : World) (hgd : o.guard = none) (s x : Operand) (t : TypeId)
    (hop : o.op = .call { callee := .builtin .append, args := #[s, x], argTypes := #[t, t] })
    (e : TypeId) (i : TypeInfo) (z : Value) (size bytes : Nat) (ht : P.underlying t = some (.slice e)) (hi : P.info? e = some i) (hz : i.zero = some z)
    (hsize : i.size = size) (hby : i.bytes = bytes) (hzs : z.cells.size = size) (hsz : 0 < size) (v : Value) (n : Nat) (xs : List Value) (ob : Option Nat) (hs : a.eval s = v) (h : Seg w e size v n xs ob)
    (ad : Addr) (m c : Nat) (news : List Value) (hx : a.eval x = .slice (some ad) m c) (hl : news.length = m * size) (hnews : ∀ j u, news[j]? = some u → w.cell? (ad.add j) = some u) (h1 : ∀ u ∈ news, u.oneCell' = true) (hm : 0 < m)
    (h63 : n + m ≤ maxLen) (hbytes : (n + m) * bytes ≤ 140737488355328)
    (hK : ∀ v' w' ob', Seg w' e size v' (n + m) (xs ++ news) ob' → Turns w w' (fun k => ob = some k) → (ob' = ob ∨ ∃ g, ob' = some g ∧ w.heap.size ≤ g) → wpListIn F nF P ops Q rest (a.put o.dst v') w') :
    wpListIn F nF P ops Q (o :: rest) a w := by
  refine wpListIn_plain hgd fun K hK' => ?_
  obtain ⟨v', w', ob', hrun, r1, r2, r3⟩ := run_append_seg (P := P) t o.type i z bytes ht hi hz hsize hby hzs hsz h ad m c news hl hnews h1 hm h63 hbytes
  unfold Oper.wpIn
  refine ⟨?_, ?_⟩
  · simp [Oper.about, hop, resolve, Target.leads, Sem.run_pure]
  · rw [Oper.semAt_plain F _ _ (by rw [hop]; intro c hc'; cases hc')]
    simp [execOp, hop, resolve, invoke, builtin, hs, hx, hrun, Result.andThen]
    exact hK' _ _ (hK v' w' ob' r1 r2 r3)
theorem news_row {w : World} {g : Nat} {t : TypeId} {cs : Array Value} (h : Row w g t cs) : ∀ j u, cs.toList[j]? = some u → w.cell? ((⟨g, 0, none⟩ : Addr).add j) = some u := fun j u hj => by
  rw [Addr.add_lit, Nat.zero_add, h.cell]
  simpa using hj
theorem info_parts {p : Program} {t : TypeId} {z : Option Value} {s b : Nat} (h : (p.info? t).map (fun i => (i.zero, i.size, i.bytes)) = some (z, s, b)) : ∃ i, p.info? t = some i ∧ i.zero = z ∧ i.size = s ∧ i.bytes = b := by
  cases hi : p.info? t with
  | none => rw [hi] at h; cases h
  | some i =>
    rw [hi] at h
    simp at h
    exact ⟨i, rfl, h.1, h.2.1, h.2.2⟩
theorem int_info : (Try.prog.info? 3).map (fun i => (i.zero, i.size, i.bytes)) = some (some (.int .i64 0), 1, 8) := by kernel_rfl
theorem seg_walk {A B : World} {row : Option Nat} {e : TypeId} {size n : Nat} {v : Value} {xs : List Value} {ob : Option Nat} (hs : Seg A e size v n xs ob) (hg : A.grownBy B row) (hr : ∀ x, row = some x → ∃ o : Obj, A.heap[x]? = some o ∧ o.isCells = false) : Seg B e size v n xs ob := by
  obtain ⟨h0, A', cap, hv, h1, h2, h3⟩ := hs
  refine ⟨h0, A', cap, hv, h1, h2, ?_⟩
  rcases h3 with h3 | ⟨g, o2, cur, a1, a2, a3, a4, a5⟩
  · exact .inl h3
  · exact .inr ⟨g, o2, cur, a1, a2, row_kept' a3 hg hr, a4, a5⟩
theorem TmP.hold {K : Type} {T : TypeId} {ek : K → Value} {P : Own} {w W : World} (hW : Hold P w W) : ∀ {t : Tr K Int} {p : Value}, TmP T ek P w t p → TmP T ek P W t p
  | .leaf, _, h => h
  | .node _ _ _ _, _, ⟨b, pl, pr, h1, h2, h3, h4, h5⟩ => ⟨b, pl, pr, h1, h2, hW.row h2 h3, TmP.hold hW h4, TmP.hold hW h5⟩
def valsI (l : List Int) : List Value := l.map fun k => Value.int .i64 k
/-- The list so far: it lies in a block that no iterator owns; its variable is block L. -/
structure LoI (w : World) (L m : Nat) (O : Own) (X : World) (pre : List Int) (v : Value) (ob : Option Nat) : Prop where
  row : Row X L 35 #[v]
  seg : Seg X 3 1 v pre.length (valsI pre) ob
  own : ∀ g, ob = some g → m ≤ g ∧ ¬ O g
  ge : ∀ k, O k → L < k
  lt : ∀ k, O k → k < X.heap.size
  be : Below w.heap.size w X
theorem lo_stbI (w : World) (L m B : Nat) (hL : w.heap.size ≤ L) (hB : w.heap.size ≤ B) : Stb B (fun (O : Own) (pre : List Int) X => ∃ v ob, LoI w L m O X pre v ob) :=
  ⟨fun O O' s A hO ⟨v, ob, h⟩ => ⟨v, ob, h.row, h.seg, fun g e => ⟨(h.own g e).1, fun x => (h.own g e).2 (hO _ x)⟩, fun k e => h.ge k (hO k e), fun k e => h.lt k (hO k e), h.be⟩,
   fun O s A o ⟨v, ob, h⟩ => ⟨v, ob, h.row.alloc o, h.seg.alloc o, fun g e => ⟨(h.own g e).1, fun x => x.elim (h.own g e).2 (fun x => by subst e; have := h.seg.lt g rfl; omega)⟩, fun k e => e.elim (h.ge k) (fun e => by have := h.row.lt; omega), fun k e => e.elim (fun e => by have := h.lt k e; simp; omega) (fun e => by simp; omega), h.be.alloc h.be.size _⟩,
   fun O s A k v' ⟨v, ob, h⟩ hk => ⟨v, ob, (heap_setCell_other _ _ L v' (fun e => by have e : L = k := e; have := h.ge k hk; omega)).trans h.row, h.seg.past (p := ⟨k, 0, none⟩) (fun e => (h.own _ e).2 hk) v', h.own, h.ge, fun k e => by have := h.lt k e; simpa using this, h.be.setCell (by have := h.ge k hk; show w.heap.size ≤ k; omega) _⟩,
   fun O s A A' row ⟨v, ob, h⟩ hg hr => ⟨v, ob, row_kept' h.row hg (fun x e => (hr x e).2), seg_walk h.seg hg (fun x e => (hr x e).2), h.own, h.ge, fun k e => Nat.lt_of_lt_of_le (h.lt k e) hg.size, h.be.grown hg h.be.size (fun k e => Nat.le_trans hB (hr k e).1)⟩,
   fun O s A A' ⟨v, ob, h⟩ hg => ⟨v, ob, h.row.turns hg (fun e => by have := h.ge L e; omega), h.seg.turns hg (fun g e => (h.own g e).2), fun g e => ⟨(h.own g e).1, fun x => x.elim (h.own g e).2 (fun x => by have := h.seg.lt g e; omega)⟩, fun k e => e.elim (h.ge k) (fun e => by have := h.row.lt; omega), fun k e => e.elim (fun e => Nat.lt_of_lt_of_le (h.lt k e) hg.size) (fun e => e.2), hg.below h.be h.be.size (fun k hk e => by have := h.ge k e; omega)⟩⟩
theorem lo_pushI {w : World} {L m : Nat} {O : Own} {X : World} {pre : List Int} {v : Value} {ob : Option Nat} {x : Int} {v2 : Value} {w5 : World} {ob2 : Option Nat} (hL : LoI w L m O X pre v ob) (hLw : w.heap.size ≤ L) (hLm : L < m) (hmX : m ≤ X.heap.size)
    (hs2 : Seg w5 3 1 v2 (pre.length + 1) (valsI pre ++ [.int .i64 x]) ob2) (ht2 : Turns (X.alloc (.cells #[.int .i64 x] 3)) w5 (fun k => ob = some k)) (ho2 : ob2 = ob ∨ ∃ g, ob2 = some g ∧ (X.alloc (.cells #[.int .i64 x] 3)).heap.size ≤ g) :
    LoI w L m O (w5.setCell ⟨L, 0, none⟩ v2) (pre ++ [x]) v2 ob2 ∧ (∀ B, KeepsFrom B X (w5.setCell ⟨L, 0, none⟩ v2)) ∧ (∀ PP : Own, (∀ k, PP k → k < m ∧ k ≠ L) → ∀ B, Kq PP O B X (w5.setCell ⟨L, 0, none⟩ v2)) ∧ (∀ k o, k < m → k ≠ L → X.heap[k]? = some o → (w5.setCell ⟨L, 0, none⟩ v2).heap[k]? = some o) := by
  have hap : ob ≠ some L := fun e => by have := (hL.own L e).1; omega
  have r5 := (Row.alloc hL.row (.cells #[.int .i64 x] 3)).turns ht2 hap
  have hx2 : ∀ k o, ob = some k → (X.alloc (.cells #[.int .i64 x] 3)).heap[k]? = some o → ∃ c, o = .cells c 3 := fun k o e h => by
    have hsg := hL.seg.alloc (.cells #[.int .i64 x] 3)
    rw [e] at hsg
    obtain ⟨c', hr'⟩ := seg_row hsg
    unfold Row at hr'
    rw [hr'] at h
    cases h
    exact ⟨_, rfl⟩
  have hcs : valsI (pre ++ [x]) = valsI pre ++ [.int .i64 x] := by simp [valsI]
  have hkf : ∀ B, KeepsFrom B X (w5.setCell ⟨L, 0, none⟩ v2) := fun B => ((KeepsOthers.alloc _ _).from _).trans ((keeps_turns ht2 (fun k o e h => by obtain ⟨c, rfl⟩ := hx2 k o e h; rfl)).trans ((KeepsOthers.setCell _ _ _).from _))
  have hoth : ∀ k o, ob ≠ some k → k ≠ L → X.heap[k]? = some o → (w5.setCell ⟨L, 0, none⟩ v2).heap[k]? = some o := fun k o h1 h2 h => by
    have hk3 : (X.alloc (.cells #[.int .i64 x] 3)).heap[k]? = some o := (Below.heap_alloc X _ k (Array.getElem?_eq_some_iff.1 h).1).trans h
    rw [heap_setCell_other _ _ _ _ h2, ht2.block k (Array.getElem?_eq_some_iff.1 hk3).1 h1]
    exact hk3
  have hnb : ∀ k, k < m → ob ≠ some k := fun k hk e => by have := (hL.own k e).1; omega
  refine ⟨⟨by simpa using r5.put 0 v2, ?_, ?_, hL.ge, fun k e => by have h1 := hL.lt k e; have h2 := ht2.size; simp at h2 ⊢; omega, ?_⟩, hkf, fun PP hPP B => ⟨hkf B, fun k cs t hk ht => ?_⟩, fun k o h1 h2 h => hoth k o (hnb k h1) h2 h⟩
  · rw [hcs, List.length_append]
    refine hs2.past (p := ⟨L, 0, none⟩) (fun e => ?_) _
    have e : ob2 = some L := e
    rcases ho2 with h | ⟨g', h, hg'⟩
    · rw [h] at e; exact hap e
    · rw [h] at e; have e : g' = L := Option.some.inj e; have : L < X.heap.size := hL.row.lt; simp at hg'; omega
  · intro g e
    rcases ho2 with h | ⟨g', h, hg'⟩
    · rw [h] at e; exact hL.own g e
    · rw [h] at e; injection e with e; subst e; simp at hg'
      refine ⟨by omega, fun hO => ?_⟩
      have := hL.lt g' hO
      omega
  · exact (ht2.below (hL.be.alloc hL.be.size _) (by have := hL.be.size; simp; omega) (fun g hg e => by have := (hL.own g e).1; omega)).setCell hLw _
  · refine hoth k _ (fun e => ?_) (fun e => ?_) hk
    · have h7 := hL.own k e
      rcases ht with h | h
      · exact h7.2 h
      · have := (hPP k h).1; omega
    · subst e
      rcases ht with h | h
      · have := hL.ge _ h; omega
      · exact (hPP _ h).2 rfl

theorem putI (p r : Tmp) (t : Array Value) (x : Int × Int) : ((#[p, r] : Array Tmp).zip (encI x)).foldl (fun t (p, v) => t.setIfInBounds p v) t = (t.setIfInBounds p (.int .i64 x.1)).setIfInBounds r (.int .i64 x.2) := by simp [encI]
set_option maxHeartbeats 2000000 in
theorem keys_i (P : Own) (mv p : Value) (t : Tr Int Int) (w : World) (hPc : Cells P w) (hv : MpV 26 P w mv p) (ht : TmPI P w t p) (hz : t.size ≤ 65536) :
    Calls Try.prog 10 #[mv] w fun e w' => ∃ v ob, e = .returned v ∧ Seg w' 3 1 v (t.toL.map Prod.fst).length (valsI (t.toL.map Prod.fst)) ob ∧ Below w.heap.size w w' := by
  obtain ⟨q, rfl⟩ := hv.isPtr
  have HC := Lib.hid hPc
  have HV := Lib.hid hv
  have HT := Lib.hid ht
  have hF : ∀ k, Fence.wide.fn k := fun _ => trivial
  have hro : Fence.wide.round = none := rfl
  have HZ : Hid (t.toL.length ≤ 65536) := Lib.hid (by rw [Tr.len]; exact hz)
  clear hPc hv ht hz
  refine (callsIn_wide (n := 60)).1 ?_
  refine callsIn_of_wp_marks Try.func10 rfl trivial ?_ rfl
  simp only [Try.ntmps10, List.size_toArray, List.length_cons, List.length_nil, Nat.reduceAdd, Nat.reduceSub, Array.replicate_succ, Array.replicate_zero, List.push_toArray, List.append_toArray, List.nil_append, List.cons_append]
  gi_wp2_with (gi_at_call 16; refine (callsIn_wide.2 (allmk_i q _)).mono ?_; rintro e w' ⟨rfl, rfl⟩)
  obtain ⟨V, hV⟩ : ∃ V, (w.alloc (.cells #[.slice none 0 0] 35)).alloc (.cells #[.pointer q] 47) = V := ⟨_, rfl⟩
  have bV : Below w.heap.size w V := by rw [← hV]; exact ((Below.refl _ w).alloc (Nat.le_refl _) _).alloc (by simp) _
  have zV : V.heap.size = w.heap.size + 2 := by rw [← hV]; simp
  have rL : Row V w.heap.size 35 #[.slice none 0 0] := by rw [← hV]; exact (Row.made w _ _).alloc _
  have rS : Row V (w.heap.size + 1) 47 #[.pointer q] := by
    rw [← hV]; have := Row.made (w.alloc (.cells #[.slice none 0 0] 35)) 47 #[.pointer q]
    rwa [World.size_alloc] at this
  have hcp : Cells (fun j => P j ∨ j = w.heap.size + 1) V := fun j hj => hj.elim (fun hj => HC.out.hold (Hold.below bV) j hj) (fun e => by subst e; exact ⟨_, _, rS⟩)
  have HA := Lib.hid (alltel_i (fun j => P j ∨ j = w.heap.size + 1) (w.heap.size + 1) (.pointer q) p t V hcp (.inr rfl) rS (by
    rcases HV.out with ⟨b, h1, h2, h3⟩ | h
    · exact .inl ⟨b, h1, .inl h2, h3.below bV h3.lt⟩
    · exact .inr h) ((HT.out.hold (Hold.below bV)).more (fun _ => .inl)) 59)
  have HPL := Lib.hid (fun j (e : P j ∨ j = w.heap.size + 1) => show j < w.heap.size ∨ j = w.heap.size + 1 from e.imp_left (fun e => HC.out.lt e))
  have HS := Lib.hid (lo_stbI w w.heap.size (w.heap.size + 2) V.heap.size (Nat.le_refl _) (by omega))
  have HL0 : Hid (∃ v ob, LoI w w.heap.size (w.heap.size + 2) (fun _ => False) V [] v ob) := Lib.hid ⟨_, none, rL, Seg.nil _ _ _, (fun _ e => by cases e), (fun _ e => e.elim), (fun _ e => e.elim), bV⟩
  have HS2 : Hid (Stb V.heap.size (fun (O : Own) (pre : List (Int × Int)) X => ∃ v ob, LoI w w.heap.size (w.heap.size + 2) O X (pre.map Prod.fst) v ob)) := Lib.hid (HS.out.at (fun pre : List (Int × Int) => pre.map Prod.fst))
  rw [hV]
  clear hV rS rL hcp
  refine rangeTel_all (n := 60) (d := 0) hro (by omega) (gf := 33) (lb := #[.pointer (some ⟨w.heap.size + 1, 0, none⟩)]) rfl trivial (enters_of Try.func33 (by kernel_rfl) rfl) HA.out (fun _ => rfl)
    (fun O pre X => ∃ v ob, LoI w w.heap.size (w.heap.size + 2) O X (pre.map Prod.fst) v ob) HS2.out HL0.out ?round ?done
  case round =>
    intro l O pre x W hl hI hnx hsz
    have hlen : pre.length + 1 ≤ 65536 := by
      have h1 := List.IsPrefix.length_le hnx
      have := HZ.out
      simp at h1
      omega
    obtain ⟨i0, hi0, hz0, hz1, hz2⟩ := info_parts int_info
    rw [putI]
    simp only [List.setIfInBounds_toArray, List.set_cons_succ, List.set_cons_zero]
    gi_wp2
    refine ⟨(KeepsOthers.refl _).from _, Kq.refl _ _ _ _, fun o o' ho hlo => ?_⟩
    obtain ⟨v, ob, hL⟩ := HS2.out.put o' hI hl hlo ho
    have HL2 := Lib.hid hL
    have hs1 : V.heap.size + 2 ≤ (W.putObj l o').heap.size := by simpa using hsz
    clear hL hlo hsz hI hnx
    generalize W.putObj l o' = X at HL2 hs1 ⊢
    obtain ⟨zs, hzs⟩ : ∃ zs, pre.map Prod.fst = zs := ⟨_, rfl⟩
    have HZS := Lib.hid hzs
    rw [hzs] at HL2
    obtain ⟨np, hnp⟩ : ∃ np, zs.length = np := ⟨_, rfl⟩
    have HNP := Lib.hid hnp
    have hnl : np ≤ 65535 := by rw [← hnp, ← hzs, List.length_map]; omega
    have l0 : X.cell? ⟨w.heap.size, 0, none⟩ = some v := (HL2.out.row.cell 0).trans rfl
    have HSG : Hid (Seg X 3 1 v np (valsI zs) ob) := Lib.hid (by rw [← hnp]; exact HL2.out.seg)
    obtain ⟨x1, x2⟩ := x
    clear hzs hnp hlen
    gi_wp2_with (gi_at_builtin; refine wpListIn_append_seg _ rfl _ _ 35 rfl 3 i0 _ 1 8 Try.underlying35 hi0 hz0 hz1 hz2 rfl (by decide) _ np (valsI zs) ob rfl (HSG.out.alloc _) ⟨X.heap.size, 0, none⟩ 1 1 [.int .i64 x1] rfl rfl (news_row (Row.made X _ _)) (by simp [Value.oneCell']) (by decide) (by unfold maxLen; omega) (by omega) ?_; intro v2 w5 ob2 hs2 ht2 ho2; have r5 := (Row.alloc HL2.out.row (.cells #[.int .i64 x1] 3)).turns ht2 (fun e => by have := (HL2.out.own _ e).1; omega); obtain ⟨A2, cap2, rfl, hn5, hm5⟩ := hs2.form; have f0 := (r5.cell 0).trans rfl; have f1 := r5.free 0; go_frame)
    rw [← HNP.out] at hs2
    obtain ⟨p1, p2, p3, p4⟩ := lo_pushI HL2.out (Nat.le_refl _) (by omega) (by omega) hs2 ht2 ho2
    rw [HNP.out] at p1 p2 p3 p4
    refine ⟨p2 _, p3 _ (fun k hk => by have := HPL.out k hk; omega) _, .slice A2 (np + 1) cap2, ob2, ?_⟩
    rw [List.map_append, HZS.out]
    exact p1
  case done =>
    intro D O xs W2 hD hO hS hI hK
    have e : xs = t.toL := hS
    subst e
    obtain ⟨v, ob, hL⟩ := hI
    have l0 : W2.cell? ⟨w.heap.size, 0, none⟩ = some v := (hL.row.cell 0).trans rfl
    have HL := Lib.hid hL
    clear hL
    gi_wp2
    refine ⟨by simp, .inl ⟨_, _, rfl, run_takeDeferred hK, ?_⟩⟩
    have hsg : Seg (W2.putObj D (.deferred none)) 3 1 v (t.toL.map Prod.fst).length (valsI (t.toL.map Prod.fst)) ob := seg_putObj _ HL.out.seg hK rfl
    have hbe : Below w.heap.size w (W2.putObj D (.deferred none)) := HL.out.be.grown (grownBy_putObj' W2 D (.deferred none)) HL.out.be.size (fun k e => by injection e with e; omega)
    exact ⟨_, results_tmp rfl _ _ _, v, ob, rfl, hsg, hbe⟩
end Go.Proofs.Ytnibmfijkbfaeaa.Om
