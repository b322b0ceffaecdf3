/- Some of any iterator. -/
import Derived.Test.YtkklceblojcbkaaSrE
namespace Go.Proofs.Ytkklceblojcbkaa.Sr
open Go.RowKit Go.Proofs.Ytkklceblojcbkaa Go.Proofs.Ytkklceblojcbkaa.Sq
set_option linter.unusedVariables false
set_option maxRecDepth 100000
attribute [local go_sem] Oper.semAt_some
theorem seg_walk {A B : World} {row : Option Nat} {e : TypeId} {size n : Nat} {v : Value} {xs : List Value} {ob : Option Nat} (hs : Seg A e size v n xs ob) (hg : A.grownBy B row) (hr : ∀ x, row = some x → ∃ o : Obj, A.heap[x]? = some o ∧ o.isCells = false) : Seg B e size v n xs ob := by
  obtain ⟨h0, A', cap, hv, h1, h2, h3⟩ := hs
  refine ⟨h0, A', cap, hv, h1, h2, ?_⟩
  rcases h3 with h3 | ⟨g, o2, cur, a1, a2, a3, a4, a5⟩
  · exact .inl h3
  · exact .inr ⟨g, o2, cur, a1, a2, row_kept' a3 hg hr, a4, a5⟩
/-- The list so far: it lies in a block that no iterator owns; its variable is block L. -/
structure Lo (w : World) (L m : Nat) (O : Own) (X : World) (pre : List Int) (v : Value) (ob : Option Nat) : Prop where
  row : Row X L 22 #[v]
  seg : Seg X 3 1 v pre.length (ints pre) ob
  own : ∀ g, ob = some g → m ≤ g ∧ ¬ O g
  ge : ∀ k, O k → L < k
  lt : ∀ k, O k → k < X.heap.size
  be : Below w.heap.size w X
theorem lo_stb (w : World) (L m B : Nat) (hL : w.heap.size ≤ L) (hB : w.heap.size ≤ B) : Stb B (fun (O : Own) (pre : List Int) X => ∃ v ob, Lo w L m O X pre v ob) :=
  ⟨fun O O' s A hO ⟨v, ob, h⟩ => ⟨v, ob, h.row, h.seg, fun g e => ⟨(h.own g e).1, fun x => (h.own g e).2 (hO _ x)⟩, fun k e => h.ge k (hO k e), fun k e => h.lt k (hO k e), h.be⟩,
   fun O s A o ⟨v, ob, h⟩ => ⟨v, ob, h.row.alloc o, h.seg.alloc o, fun g e => ⟨(h.own g e).1, fun x => x.elim (h.own g e).2 (fun x => by subst e; have := h.seg.lt g rfl; omega)⟩, fun k e => e.elim (h.ge k) (fun e => by have := h.row.lt; omega), fun k e => e.elim (fun e => by have := h.lt k e; simp; omega) (fun e => by simp; omega), h.be.alloc h.be.size _⟩,
   fun O s A k v' ⟨v, ob, h⟩ hk => ⟨v, ob, (heap_setCell_other _ _ L v' (fun e => by have e : L = k := e; have := h.ge k hk; omega)).trans h.row, h.seg.past (p := ⟨k, 0, none⟩) (fun e => (h.own _ e).2 hk) v', h.own, h.ge, fun k e => by have := h.lt k e; simpa using this, h.be.setCell (by have := h.ge k hk; show w.heap.size ≤ k; omega) _⟩,
   fun O s A A' row ⟨v, ob, h⟩ hg hr => ⟨v, ob, row_kept' h.row hg (fun x e => (hr x e).2), seg_walk h.seg hg (fun x e => (hr x e).2), h.own, h.ge, fun k e => Nat.lt_of_lt_of_le (h.lt k e) hg.size, h.be.grown hg h.be.size (fun k e => Nat.le_trans hB (hr k e).1)⟩,
   fun O s A A' ⟨v, ob, h⟩ hg => ⟨v, ob, h.row.turns hg (fun e => by have := h.ge L e; omega), h.seg.turns hg (fun g e => (h.own g e).2), fun g e => ⟨(h.own g e).1, fun x => x.elim (h.own g e).2 (fun x => by have := h.seg.lt g e; omega)⟩, fun k e => e.elim (h.ge k) (fun e => by have := h.row.lt; omega), fun k e => e.elim (fun e => Nat.lt_of_lt_of_le (h.lt k e) hg.size) (fun e => e.2), hg.below h.be h.be.size (fun k hk e => by have := h.ge k e; omega)⟩⟩
set_option maxHeartbeats 2000000 in
theorem some_any (F : Fence) (n : Nat) (hF : ∀ k, F.fn k) (hro : F.round = none) (gs : Nat) (lbs : Array Value) (d : Nat) (hn : d + 9 ≤ n) (P : Own) (k : Int) (zs : List Int) (w : World) (hz : zs.length ≤ 65536) (hPc : Cells P w)
    (eg : ∀ args w, (callFunc gs args).run Try.prog w = .ok (.enter gs args) w) (hE : Ear d F (n - 3) gs lbs P (Firsts zs) (Sq.Next zs) w) :
    CallsIn F n Try.prog 16 #[.func (.func gs) #[] lbs, .int .i64 k] w fun e w' => ∃ v ob, e = .returned v ∧ Seg w' 3 1 v (zs.take k.toNat).length (ints (zs.take k.toNat)) ob ∧ Below w.heap.size w w' := by
  have h1 : 1 ≤ n := by omega
  have HC := Lib.hid hPc
  have HE := Lib.hid hE
  clear hE hPc
  refine callsIn_of_wp_marks Try.func16 rfl (hF _) ?_ hro
  simp only [Try.ntmps16, List.size_toArray, List.length_cons, List.length_nil, Nat.reduceAdd, Nat.reduceSub, Array.replicate_succ, Array.replicate_zero, List.push_toArray, List.append_toArray, List.nil_append, List.cons_append]
  gi_wp2_with (gi_at_call 10; refine (takef_mk F (n - 1) (hF _) hro _ _ _ k _).mono ?_; rintro e w' ⟨rfl, rfl⟩)
  obtain ⟨V, hV⟩ : ∃ V, ((w.alloc (.cells #[.slice none 0 0] 22)).alloc (.cells #[.func (.func gs) #[] lbs] 26)).alloc (.cells #[.int .i64 k] 3) = V := ⟨_, rfl⟩
  have bV : Below w.heap.size w V := by rw [← hV]; exact (((Below.refl _ w).alloc (Nat.le_refl _) _).alloc (by simp) _).alloc (by simp; omega) _
  have zV : V.heap.size = w.heap.size + 3 := by rw [← hV]; simp
  have rL : Row V w.heap.size 22 #[.slice none 0 0] := by rw [← hV]; exact ((Row.made w _ _).alloc _).alloc _
  have rS : Row V (w.heap.size + 1) 26 #[.func (.func gs) #[] lbs] := by
    rw [← hV]; have := (Row.made (w.alloc (.cells #[.slice none 0 0] 22)) 26 #[.func (.func gs) #[] lbs]).alloc (.cells #[.int .i64 k] 3)
    rwa [World.size_alloc] at this
  have rK : Row V (w.heap.size + 2) 3 #[.int .i64 k] := by
    rw [← hV]; have := Row.made ((w.alloc (.cells #[.slice none 0 0] 22)).alloc (.cells #[.func (.func gs) #[] lbs] 26)) 3 #[.int .i64 k]
    rwa [World.size_alloc, World.size_alloc] at this
  have HT := Lib.hid (take_y F (n - 1) hF hro gs lbs d (by omega) (fun j => P j ∨ (j = w.heap.size + 1 ∨ j = w.heap.size + 2)) (w.heap.size + 2) (w.heap.size + 1) k zs V (by omega) (fun j hj => hj.elim (fun hj => HC.out.hold (Hold.below bV) j hj) (fun e => e.elim (fun e => by subst e; exact ⟨_, _, rS⟩) (fun e => by subst e; exact ⟨_, _, rK⟩))) (.inr (.inr rfl)) (.inr (.inl rfl)) eg rK rS ((HE.out.later (Hold.below bV)).less (fun _ => .inl)))
  have hPl : ∀ j, (P j ∨ (j = w.heap.size + 1 ∨ j = w.heap.size + 2)) → j < w.heap.size ∨ (j = w.heap.size + 1 ∨ j = w.heap.size + 2) := fun j e => e.imp_left (fun e => HC.out.lt e)
  have HPL := Lib.hid hPl
  have HS := Lib.hid (lo_stb w w.heap.size (w.heap.size + 3) V.heap.size (Nat.le_refl _) (by omega))
  have HL0 : Hid (∃ v ob, Lo w w.heap.size (w.heap.size + 3) (fun _ => False) V [] v ob) := Lib.hid ⟨_, none, rL, Seg.nil _ _ _, (fun _ e => by cases e), (fun _ e => e.elim), (fun _ e => e.elim), bV⟩
  rw [hV]
  clear hV rS rK rL hPl
  refine wpIn_rangeTel (d := d + 4) hro h1 (gf := 25) (lb := #[.pointer (some ⟨w.heap.size + 2, 0, none⟩), .pointer (some ⟨w.heap.size + 1, 0, none⟩)]) rfl (hF _) (enters_of Try.func25 (by kernel_rfl) rfl) HT.out (Hold.refl _ _) (fun _ => rfl)
    (fun O pre X => ∃ v ob, Lo w w.heap.size (w.heap.size + 3) O X pre v ob) (fun _ _ _ _ => False) HS.out (fun _ => Stb.no) HL0.out ?round ?done ?stop
  case round =>
    intro l O pre x W hl hI hnx hsz
    have hlen : pre.length + 1 ≤ 65536 := by
      have h1 := List.IsPrefix.length_le hnx
      have h2 := List.length_take_le k.toNat zs
      have h3 : (zs.take k.toNat).length ≤ zs.length := by simp; omega
      simp at h1 ⊢
      omega
    obtain ⟨i0, hi0, hz0, hz1, hz2⟩ := info_parts int_info
    rw [put1]
    simp only [List.setIfInBounds_toArray, List.set_cons_succ, List.set_cons_zero]
    gi_wp2
    refine ⟨(KeepsOthers.refl _).from _, Kq.refl _ _ _ _, fun o o' ho hlo => ?_⟩
    obtain ⟨v, ob, hL⟩ := HS.out.put o' hI (by omega) hlo ho
    have HL2 := Lib.hid hL
    have hs1 : V.heap.size + 2 ≤ (W.putObj l o').heap.size := by simpa using hsz
    clear hL hlo hsz hI
    generalize W.putObj l o' = X at HL2 hs1 ⊢
    have l0 : X.cell? ⟨w.heap.size, 0, none⟩ = some v := (HL2.out.row.cell 0).trans rfl
    have hap : Hid (∀ g, ob = some g → g ≠ w.heap.size) := Lib.hid fun g e => by have := (HL2.out.own g e).1; omega
    gi_wp2_with (gi_at_builtin; refine wpListIn_append_seg _ rfl _ _ 22 rfl 3 i0 _ 1 8 Try.underlying22 hi0 hz0 hz1 hz2 rfl (by decide) _ pre.length (ints pre) ob rfl (HL2.out.seg.alloc _) ⟨X.heap.size, 0, none⟩ 1 1 [.int .i64 x] rfl rfl (news_row (Row.made X _ _)) (by simp [Value.oneCell']) (by decide) (by unfold maxLen; omega) (by omega) ?_; intro v2 w5 ob2 hs2 ht2 ho2; have r5 := (Row.alloc HL2.out.row (.cells #[.int .i64 x] 3)).turns ht2 (fun e => hap.out _ e rfl); obtain ⟨A2, cap2, rfl, hn5, hm5⟩ := hs2.form; have f0 := (r5.cell 0).trans rfl; have f1 := r5.free 0; go_frame)
    have hx2 : ∀ k o, ob = some k → (X.alloc (.cells #[.int .i64 x] 3)).heap[k]? = some o → ∃ c, o = .cells c 3 := fun k o e h => by
      have hsg := HL2.out.seg.alloc (.cells #[.int .i64 x] 3)
      rw [e] at hsg
      obtain ⟨c', hr'⟩ := seg_row hsg
      unfold Row at hr'
      rw [hr'] at h
      cases h
      exact ⟨_, rfl⟩
    have hOl : ∀ j, O j → ¬ (X.heap.size < j) → True := fun _ _ _ => trivial
    have hcs : ints (pre ++ [x]) = ints pre ++ [.int .i64 x] := by simp [ints]
    have hkf : ∀ B, KeepsFrom B X (w5.setCell ⟨w.heap.size, 0, none⟩ (.slice A2 (pre.length + 1) cap2)) := fun B => ((KeepsOthers.alloc _ _).from _).trans ((keeps_turns ht2 (fun k o e h => by obtain ⟨c, rfl⟩ := hx2 k o e h; rfl)).trans ((KeepsOthers.setCell _ _ _).from _))
    refine ⟨hkf _, ⟨hkf _, fun k2 cs t hk2 ht => ?_⟩, _, ob2, ⟨by simpa using r5.put 0 (.slice A2 (pre.length + 1) cap2), ?_, ?_, HL2.out.ge, (fun k e => by have h1 := HL2.out.lt k e; have h2 := ht2.size; simp at h2 ⊢; omega), ?_⟩⟩
    · have hk3 : (X.alloc (.cells #[.int .i64 x] 3)).heap[k2]? = some (.cells cs t) := (Below.heap_alloc X _ k2 (Array.getElem?_eq_some_iff.1 hk2).1).trans hk2
      have hno : ob ≠ some k2 := fun e => by
        have h7 := HL2.out.own k2 e
        rcases ht with h | h
        · exact h7.2 h
        · have := HPL.out k2 h; omega
      have hnl : k2 ≠ w.heap.size := fun e => by
        subst e
        rcases ht with h | h
        · have := HL2.out.ge _ h; omega
        · have := HPL.out _ h; omega
      rw [heap_setCell_other _ _ _ _ hnl, ht2.block k2 (Array.getElem?_eq_some_iff.1 hk3).1 hno]
      exact hk3
    · rw [hcs, List.length_append]
      exact hs2.past (p := ⟨w.heap.size, 0, none⟩) (fun e => by
        rcases ho2 with h | ⟨g', h, hg'⟩
        · rw [h] at e; exact hap.out _ e rfl
        · rw [h] at e; have e : g' = w.heap.size := Option.some.inj e; have : w.heap.size < X.heap.size := HL2.out.row.lt; simp at hg'; omega) _
    · intro g e
      rcases ho2 with h | ⟨g', h, hg'⟩
      · rw [h] at e; exact HL2.out.own g e
      · rw [h] at e; injection e with e; subst e; simp at hg'
        refine ⟨by omega, fun hO => ?_⟩
        have := HL2.out.lt g' hO
        omega
    · exact (ht2.below (HL2.out.be.alloc HL2.out.be.size _) (by have := HL2.out.be.size; simp; omega) (fun g _ e => by have := (HL2.out.own g e).1; omega)).setCell (Nat.le_refl _) _
  case done =>
    intro D O xs W2 hD hO hS hI hK
    have e : xs = zs.take k.toNat := hS
    subst e
    obtain ⟨v, ob, hL⟩ := hI
    have l0 : W2.cell? ⟨w.heap.size, 0, none⟩ = some v := (hL.row.cell 0).trans rfl
    have HL := Lib.hid hL
    clear hL
    gi_wp2
    refine ⟨by simp, .inl ⟨_, _, rfl, run_takeDeferred hK, ?_⟩⟩
    obtain ⟨v', ob', h2⟩ := HS.out.put (.deferred none) ⟨v, ob, HL.out⟩ (by omega) hK rfl
    have hv : v' = v := by
      have a1 := (h2.row.cell 0).trans rfl
      have a2 := ((row_kept' HL.out.row (grownBy_putObj' W2 D (.deferred none)) (fun r e => by injection e with e; subst e; exact ⟨_, hK, rfl⟩)).cell 0).trans rfl
      rw [a1] at a2
      injection a2
    subst hv
    exact ⟨_, results_tmp rfl _ _ _, v', ob', rfl, h2.seg, h2.be⟩
  case stop =>
    intro D c O pre W _ _ _ h
    exact h.elim
end Go.Proofs.Ytkklceblojcbkaa.Sr
