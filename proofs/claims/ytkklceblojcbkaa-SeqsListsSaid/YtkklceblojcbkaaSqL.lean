/- Some of Of's things. -/
import Derived.Test.YtkklceblojcbkaaSqK
import Derived.Test.YtkklceblojcbkaaSqD
import Derived.Test.YtkklceblojcbkaaSeg
import Derived.Deep.RegionHeld3
namespace Go.Proofs.Ytkklceblojcbkaa.Sq
open Go.RowKit Go.Proofs.Ytkklceblojcbkaa
set_option linter.unusedVariables false
set_option maxRecDepth 100000
attribute [local go_sem] Oper.semAt_some
theorem keeps_turns {B : Nat} {W W' : World} {S : Nat → Prop} (h : Turns W W' S) (hS : ∀ k o, S k → W.heap[k]? = some o → o.isCells = true) : KeepsFrom B W W' :=
  ⟨h.size, fun k o _ hk ho => (h.block k (Array.getElem?_eq_some_iff.1 hk).1 (fun e => by have := hS k o e hk; rw [ho] at this; cases this)).trans hk⟩
theorem wpListIn_append_seg {F : Fence} {nF : Nat} {P : Program} {ops : Array Oper} {rest : List Oper} {o : Oper} {a : Act} {Q : Exit → Act → World → Prop} (w : World) (hgd : o.guard = none) (s x : Operand) (t : TypeId)
    (hop : o.op = .call { callee := .builtin .append, args := #[s, x], argTypes := #[t, t] })
    (e : TypeId) (i : TypeInfo) (z : Value) (size bytes : Nat) (ht : P.underlying t = some (.slice e)) (hi : P.info? e = some i) (hz : i.zero = some z)
    (hsize : i.size = size) (hby : i.bytes = bytes) (hzs : z.cells.size = size) (hsz : 0 < size) (v : Value) (n : Nat) (xs : List Value) (ob : Option Nat) (hs : a.eval s = v) (h : Seg w e size v n xs ob)
    (ad : Addr) (m c : Nat) (news : List Value) (hx : a.eval x = .slice (some ad) m c) (hl : news.length = m * size) (hnews : ∀ j u, news[j]? = some u → w.cell? (ad.add j) = some u) (h1 : ∀ u ∈ news, u.oneCell' = true) (hm : 0 < m)
    (h63 : n + m ≤ maxLen) (hbytes : (n + m) * bytes ≤ 140737488355328)
    (hK : ∀ v' w' ob', Seg w' e size v' (n + m) (xs ++ news) ob' → Turns w w' (fun k => ob = some k) → (ob' = ob ∨ ∃ g, ob' = some g ∧ w.heap.size ≤ g) → wpListIn F nF P ops Q rest (a.put o.dst v') w') :
    wpListIn F nF P ops Q (o :: rest) a w := by
  refine wpListIn_plain hgd fun K hK' => ?_
  obtain ⟨v', w', ob', hrun, r1, r2, r3⟩ := run_append_seg (P := P) t o.type i z bytes ht hi hz hsize hby hzs hsz h ad m c news hl hnews h1 hm h63 hbytes
  unfold Oper.wpIn
  refine ⟨?_, ?_⟩
  · simp [Oper.about, hop, resolve, Target.leads, Sem.run_pure]
  · rw [Oper.semAt_plain F _ _ (by rw [hop]; intro c hc'; cases hc')]
    simp [execOp, hop, resolve, invoke, builtin, hs, hx, hrun, Result.andThen]
    exact hK' _ _ (hK v' w' ob' r1 r2 r3)

theorem news_row {w : World} {g : Nat} {t : TypeId} {cs : Array Value} (h : Row w g t cs) : ∀ j u, cs.toList[j]? = some u → w.cell? ((⟨g, 0, none⟩ : Addr).add j) = some u := fun j u hj => by
  rw [Addr.add_lit, Nat.zero_add, h.cell]
  simpa using hj
theorem info_parts {p : Program} {t : TypeId} {z : Option Value} {s b : Nat} (h : (p.info? t).map (fun i => (i.zero, i.size, i.bytes)) = some (z, s, b)) : ∃ i, p.info? t = some i ∧ i.zero = z ∧ i.size = s ∧ i.bytes = b := by
  cases hi : p.info? t with
  | none => rw [hi] at h; cases h
  | some i =>
    rw [hi] at h
    simp at h
    exact ⟨i, rfl, h.1, h.2.1, h.2.2⟩
theorem seg_row {w : World} {e : TypeId} {size n : Nat} {v : Value} {xs : List Value} {g : Nat} (h : Seg w e size v n xs (some g)) : ∃ c, Row w g e c := by
  obtain ⟨_, A, cap, _, _, _, ⟨_, h2, _⟩ | ⟨g', o, cur, _, h2, h3, _⟩⟩ := h
  · cases h2
  · cases h2; exact ⟨_, h3⟩
theorem int_info : (Try.prog.info? 3).map (fun i => (i.zero, i.size, i.bytes)) = some (some (.int .i64 0), 1, 8) := by kernel_rfl
/-- The list so far. -/
structure Lst (w X : World) (pre : List Int) (v : Value) (ob : Option Nat) : Prop where
  row : Row X w.heap.size 22 #[v]
  seg : Seg X 3 1 v pre.length (ints pre) ob
  own : ∀ g, ob = some g → w.heap.size + 7 ≤ g
  be : Below w.heap.size w X
theorem Lst.mv {m B : Nat} {w X Y : World} {pre : List Int} {v : Value} {ob : Option Nat} (h : Lst w X pre v ob) (t : Mv m B X Y) (hB : w.heap.size < B) (hm : B + m ≤ w.heap.size + 7) : Lst w Y pre v ob :=
  ⟨t.row (by decide) (by omega) h.row, t.seg (by decide) (fun g e => by have := h.own g e; omega) h.seg, h.own, t.below (by omega) (Nat.le_refl _) h.be⟩
set_option maxHeartbeats 2000000 in
theorem some_of (F : Fence) (n : Nat) (hF : ∀ k, F.fn k) (hro : F.round = none) (hn : 12 ≤ n) (Bn : Nat) (k : Int) (zs : List Int) (A : Option Addr) (cap : Nat) (oz : Option Nat) (w : World) (hz : zs.length ≤ 65536) (hk0 : 0 < k)
    (hB : w.cell? ⟨Bn, 0, none⟩ = some (.slice A zs.length cap)) (hBn : Bn < w.heap.size) (hS : Seg w 3 1 (.slice A zs.length cap) zs.length (ints zs) oz) :
    CallsIn F n Try.prog 16 #[.func (.func 28) #[] #[.pointer (some ⟨Bn, 0, none⟩)], .int .i64 k] w fun e w' => ∃ v ob, e = .returned v ∧ Seg w' 3 1 v (zs.take k.toNat).length (ints (zs.take k.toNat)) ob ∧ Below w.heap.size w w' := by
  have h1 : 1 ≤ n := by omega
  refine callsIn_of_wp_marks Try.func16 rfl (hF _) ?_ hro
  simp only [Try.ntmps16, List.size_toArray, List.length_cons, List.length_nil, Nat.reduceAdd, Nat.reduceSub, Array.replicate_succ, Array.replicate_zero, List.push_toArray, List.append_toArray, List.nil_append, List.cons_append]
  gi_wp2_with (gi_at_call 10; refine (takef_mk F (n - 1) (hF _) hro _ _ _ k _).mono ?_; rintro e w' ⟨rfl, rfl⟩)
  obtain ⟨V, hV⟩ : ∃ V, ((w.alloc (.cells #[.slice none 0 0] 22)).alloc (.cells #[.func (.func 28) #[] #[.pointer (some ⟨Bn, 0, none⟩)]] 26)).alloc (.cells #[.int .i64 k] 3) = V := ⟨_, rfl⟩
  have bV : Below w.heap.size w V := by rw [← hV]; exact (((Below.refl _ w).alloc (Nat.le_refl _) _).alloc (by simp) _).alloc (by simp; omega) _
  have zV : V.heap.size = w.heap.size + 3 := by rw [← hV]; simp
  have rL : Row V w.heap.size 22 #[.slice none 0 0] := by rw [← hV]; exact ((Row.made w _ _).alloc _).alloc _
  have rS : Row V (w.heap.size + 1) 26 #[.func (.func 28) #[] #[.pointer (some ⟨Bn, 0, none⟩)]] := by
    rw [← hV]; have := (Row.made (w.alloc (.cells #[.slice none 0 0] 22)) 26 #[.func (.func 28) #[] #[.pointer (some ⟨Bn, 0, none⟩)]]).alloc (.cells #[.int .i64 k] 3)
    rwa [World.size_alloc] at this
  have rK : Row V (w.heap.size + 2) 3 #[.int .i64 k] := by
    rw [← hV]; have := Row.made ((w.alloc (.cells #[.slice none 0 0] 22)).alloc (.cells #[.func (.func 28) #[] #[.pointer (some ⟨Bn, 0, none⟩)]] 26)) 3 #[.int .i64 k]
    rwa [World.size_alloc, World.size_alloc] at this
  have sS : Seg V 3 1 (.slice A zs.length cap) zs.length (ints zs) oz := hS.keep fun g hg => bV.block g (hS.lt g hg)
  have cB : V.cell? ⟨Bn, 0, none⟩ = some (.slice A zs.length cap) := (bV.cell (p := ⟨Bn, 0, none⟩) hBn).trans hB
  have HZ : Hid (∀ g, oz = some g → g < w.heap.size) := Lib.hid hS.lt
  have HT := Lib.hid (take1_of F (n - 1) hF hro (by omega) (w.heap.size + 2) (w.heap.size + 1) Bn k zs A cap oz V (by omega) hk0 rK ((rS.cell 0).trans rfl) (by omega) cB (by omega) sS)
  have HL0 := Lib.hid (⟨rL, Seg.nil _ _ _, (fun _ e => by cases e), bV⟩ : Lst w V [] (.slice none 0 0) none)
  rw [hV]
  clear hV rS sS cB rK rL hS hB
  refine wpIn_rangeTells (m := 2) (d := 5) hro h1 (gf := 25) (lb := #[.pointer (some ⟨w.heap.size + 2, 0, none⟩), .pointer (some ⟨w.heap.size + 1, 0, none⟩)]) rfl (hF _) (enters_of Try.func25 (by kernel_rfl) rfl) HT.out
    (Kp := Kp (fun j => oz = some j ∨ j = w.heap.size + 2) 2 (V.heap.size + 2)) (fun h => h) (fun h k => h.trans k) (fun W l o o' _ hB h hc => kp_put W l o o' (by omega) h hc) (Below.refl _ _) (fun _ => rfl)
    (fun pre X => ∃ v ob, Lst w X pre v ob) (fun _ _ _ => False)
    (fun pre A B row ⟨v, ob, h⟩ hg hr => ⟨v, ob, h.mv (m := 0) (B := V.heap.size) (.inl ⟨row, hg, hr⟩) (by omega) (by omega)⟩)
    (fun s A B ⟨v, ob, h⟩ t => ⟨v, ob, h.mv t (by omega) (by omega)⟩) (fun c pre A B row h hg hr => h) (fun c s A B h t => h)
    ⟨_, _, HL0.out⟩ ?round ?done ?stop
  case round =>
    intro l pre x W hl hI hnx hsz
    have hlen : pre.length + 1 ≤ 65536 := by
      have h1 := List.IsPrefix.length_le hnx
      have h2 := List.length_take_le k.toNat zs
      have h3 : (zs.take k.toNat).length ≤ zs.length := by simp; omega
      simp at h1 ⊢
      omega
    obtain ⟨v, ob, hL⟩ := hI
    obtain ⟨i0, hi0, hz0, hz1, hz2⟩ := info_parts int_info
    rw [put1]
    simp only [List.setIfInBounds_toArray, List.set_cons_succ, List.set_cons_zero]
    gi_wp2
    refine ⟨(KeepsOthers.refl _).from _, Kp.refl _ _ _ _, fun o o' ho hlo => ?_⟩
    have HL2 := Lib.hid (hL.mv (m := 0) (B := V.heap.size) (.inl ⟨_, grownBy_putObj' W l o', fun r e => by injection e with e; subst e; exact ⟨hl, o, hlo, ho⟩⟩) (by omega) (by omega))
    have hs1 : V.heap.size + 4 ≤ (W.putObj l o').heap.size := by simpa using hsz
    clear hL hlo hsz
    generalize W.putObj l o' = X at HL2 hs1 ⊢
    have l0 : X.cell? ⟨w.heap.size, 0, none⟩ = some v := (HL2.out.row.cell 0).trans rfl
    have hap : Hid (∀ g, ob = some g → g ≠ w.heap.size) := Lib.hid fun g e => by have := HL2.out.own g e; omega
    gi_wp2_with (gi_at_builtin; refine wpListIn_append_seg _ rfl _ _ 22 rfl 3 i0 _ 1 8 Try.underlying22 hi0 hz0 hz1 hz2 rfl (by decide) _ pre.length (ints pre) ob rfl (HL2.out.seg.alloc _) ⟨X.heap.size, 0, none⟩ 1 1 [.int .i64 x] rfl rfl (news_row (Row.made X _ _)) (by simp [Value.oneCell']) (by decide) (by unfold maxLen; omega) (by omega) ?_; intro v2 w5 ob2 hs2 ht2 ho2; have r5 := (Row.alloc HL2.out.row (.cells #[.int .i64 x] 3)).turns ht2 (fun e => hap.out _ e rfl); obtain ⟨A2, cap2, rfl, hn5, hm5⟩ := hs2.form; have f0 := (r5.cell 0).trans rfl; have f1 := r5.free 0; go_frame)
    have hx2 : ∀ k o, ob = some k → (X.alloc (.cells #[.int .i64 x] 3)).heap[k]? = some o → ∃ c, o = .cells c 3 := fun k o e h => by
      have hsg := HL2.out.seg.alloc (.cells #[.int .i64 x] 3)
      rw [e] at hsg
      obtain ⟨c', hr'⟩ := seg_row hsg
      unfold Row at hr'
      rw [hr'] at h
      cases h
      exact ⟨_, rfl⟩
    have ho5 : ∀ g, ob2 = some g → w.heap.size + 7 ≤ g := fun g e => by
      rcases ho2 with h | ⟨g', h, hg'⟩
      · rw [h] at e; exact HL2.out.own g e
      · rw [h] at e; injection e with e; subst e; simp at hg'; omega
    have hcs : ints (pre ++ [x]) = ints pre ++ [.int .i64 x] := by simp [ints]
    have hkf : ∀ B, KeepsFrom B X (w5.setCell ⟨w.heap.size, 0, none⟩ (.slice A2 (pre.length + 1) cap2)) := fun B => ((KeepsOthers.alloc _ _).from _).trans ((keeps_turns ht2 (fun k o e h => by obtain ⟨c, rfl⟩ := hx2 k o e h; rfl)).trans ((KeepsOthers.setCell _ _ _).from _))
    refine ⟨hkf _, ⟨hkf _, fun k2 cs t hk2 ht => ?_⟩, _, ob2, ⟨by simpa using r5.put 0 (.slice A2 (pre.length + 1) cap2), ?_, ho5, ?_⟩⟩
    · have hk3 : (X.alloc (.cells #[.int .i64 x] 3)).heap[k2]? = some (.cells cs t) := (Below.heap_alloc X _ k2 (Array.getElem?_eq_some_iff.1 hk2).1).trans hk2
      have hno : ob ≠ some k2 := fun e => by
        obtain ⟨c, hc⟩ := hx2 k2 _ e hk3
        injection hc with _ hc
        subst hc
        have h7 := HL2.out.own k2 e
        rcases ht with e | e | e | e
        · exact absurd e (by decide)
        · exact absurd e (by decide)
        · rcases e with e | e
          · have := HZ.out _ e; omega
          · omega
        · omega
      have hnl : k2 ≠ w.heap.size := fun e => by
        subst e
        have hr := HL2.out.row
        unfold Row at hr
        rw [hr] at hk2
        injection hk2 with hk2
        injection hk2 with _ hk2
        subst hk2
        rcases ht with e | e | e | e
        · exact absurd e (by decide)
        · exact absurd e (by decide)
        · rcases e with e | e
          · have := HZ.out _ e; omega
          · omega
        · omega
      rw [heap_setCell_other _ _ _ _ hnl, ht2.block k2 (Array.getElem?_eq_some_iff.1 hk3).1 hno]
      exact hk3
    · rw [hcs, List.length_append]
      exact hs2.past (p := ⟨w.heap.size, 0, none⟩) (fun e => by have : w.heap.size + 7 ≤ w.heap.size := ho5 _ e; omega) _
    · exact (ht2.below (HL2.out.be.alloc HL2.out.be.size _) (by have := HL2.out.be.size; simp; omega) (fun g _ e => by have := HL2.out.own g e; omega)).setCell (Nat.le_refl _) _
  case done =>
    intro D xs W2 hD hS hI hK
    have e : xs = zs.take k.toNat := hS
    subst e
    obtain ⟨v, ob, hL⟩ := hI
    have l0 : W2.cell? ⟨w.heap.size, 0, none⟩ = some v := (hL.row.cell 0).trans rfl
    have HL := Lib.hid hL
    clear hL
    gi_wp2
    refine ⟨by simp, .inl ⟨_, _, rfl, run_takeDeferred hK, ?_⟩⟩
    have h2 := HL.out.mv (m := 0) (B := V.heap.size) (.inl ⟨some D, grownBy_putObj' W2 D (.deferred none), fun r e => by injection e with e; subst e; exact ⟨hD, _, hK, rfl⟩⟩) (by omega) (by omega)
    exact ⟨_, results_tmp rfl _ _ _, v, ob, rfl, h2.seg, h2.be⟩
  case stop =>
    intro D c pre W _ _ h
    exact h.elim
end Go.Proofs.Ytkklceblojcbkaa.Sq
