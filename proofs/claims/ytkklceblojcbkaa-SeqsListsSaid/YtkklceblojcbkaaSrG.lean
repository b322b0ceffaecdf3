/- Numbers as they lie in memory; Of, Take, Skip, Both made; all of an iterator. -/
import Derived.Test.YtkklceblojcbkaaSrF
import Derived.Test.YtkklceblojcbkaaApp2
namespace Go.Proofs.Ytkklceblojcbkaa.Sr
open Go.RowKit Go.Proofs.Ytkklceblojcbkaa Go.Proofs.Ytkklceblojcbkaa.Sq
set_option linter.unusedVariables false
set_option maxRecDepth 100000
attribute [local go_sem] Oper.semAt_some
/-- Numbers as they lie in memory. -/
def LI (w : World) (B : Nat) (v : Value) (L : List Int) : Prop :=
  ∃ A c, v = .slice A L.length c ∧ L.length ≤ c ∧ c ≤ 9223372036854775807 ∧ ∀ k (h : k < L.length), ∃ g o, A = some ⟨g, o, none⟩ ∧ g < B ∧ w.cell? ⟨g, o + k, none⟩ = some (.int .i64 L[k])
theorem LI.below {w w' : World} {B B' : Nat} {v : Value} {L : List Int} (h : LI w B v L) (hb : Below B w w') (hB : B ≤ B') : LI w' B' v L := by
  obtain ⟨A, c, rfl, h1, h2, h3⟩ := h
  refine ⟨A, c, rfl, h1, h2, fun k hk => ?_⟩
  obtain ⟨g, o, e, hg, hc⟩ := h3 k hk
  exact ⟨g, o, e, by omega, (hb.cell (p := ⟨g, o + k, none⟩) hg).trans hc⟩
theorem LI.of_seg {w : World} {v : Value} {L : List Int} {ob : Option Nat} (h : Seg w 3 1 v L.length (ints L) ob) : LI w w.heap.size v L := by
  obtain ⟨A, c, rfl, h1, h2⟩ := h.form
  refine ⟨A, c, rfl, h1, by unfold maxLen at h2; omega, fun k hk => ?_⟩
  obtain ⟨g, o, c', e, e2, _, _, h3, _⟩ := h.shape (by omega)
  injection e with e
  subst e
  exact ⟨g, o, rfl, h.lt g e2, h3 k _ (by simp [ints, hk])⟩
theorem LI.zero (w : World) (B : Nat) (A : Option Addr) (c : Nat) (hc : c ≤ 9223372036854775807) : LI w B (.slice A 0 c) [] := ⟨A, c, rfl, by simp, hc, fun k hk => by simp at hk⟩
theorem LI.take {w : World} {B : Nat} {A : Option Addr} {n c : Nat} {L : List Int} (h : LI w B (.slice A n c) L) (k : Nat) (hk : k ≤ L.length) : LI w B (.slice A k c) (L.take k) := by
  obtain ⟨A, c, e, h1, h2, h3⟩ := h
  injection e with e1 e2 e3
  subst e1 e2 e3
  refine ⟨A, c, by simp [Nat.min_eq_left hk], by simp; omega, h2, fun j hj => ?_⟩
  simp at hj
  obtain ⟨g, o, e, hg, hc⟩ := h3 j (by omega)
  exact ⟨g, o, e, hg, by simpa using hc⟩
theorem LI.drop {w : World} {B : Nat} {g o n c : Nat} {L : List Int} (h : LI w B (.slice (some ⟨g, o, none⟩) n c) L) (k : Nat) (hk : k ≤ L.length) : LI w B (.slice (some ⟨g, o + k, none⟩) (n - k) (c - k)) (L.drop k) := by
  obtain ⟨A, c, e, h1, h2, h3⟩ := h
  injection e with e1 e2 e3
  subst e1 e2 e3
  refine ⟨some ⟨g, o + k, Option.none⟩, c - k, by simp, by simp; omega, by omega, fun j hj => ?_⟩
  simp at hj
  obtain ⟨g, o, e, hg, hc⟩ := h3 (k + j) (by omega)
  injection e with e
  injection e with e1 e2
  subst e1 e2
  exact ⟨_, _, rfl, hg, by simpa [Nat.add_assoc] using hc⟩
theorem LI.dropi {w : World} {B n c : Nat} {A : Option Addr} {L : List Int} (h : LI w B (.slice A n c) L) (k : Nat) (hk : k ≤ L.length) : LI w B (.slice (if c = k then A else Option.map (fun x => x.add k) A) (n - k) (c - k)) (L.drop k) := by
  obtain ⟨A, c, e, h1, h2, h3⟩ := h
  injection e with e1 e2 e3
  subst e1 e2 e3
  refine ⟨(if c = k then A else Option.map (fun x => x.add k) A), c - k, by simp, by simp; omega, by omega, fun j hj => ?_⟩
  simp at hj
  obtain ⟨g, o, e, hg, hc⟩ := h3 (k + j) (by omega)
  subst e
  refine ⟨g, o + k, ?_, hg, by simpa [Nat.add_assoc] using hc⟩
  rw [if_neg (by omega)]
  simp [Addr.add_lit]
theorem LI.len {w : World} {B : Nat} {A : Option Addr} {n c : Nat} {L : List Int} (h : LI w B (.slice A n c) L) : n = L.length := by
  obtain ⟨A, c, e, _⟩ := h
  injection e
theorem LI.of_lies {w : World} {A : Option Addr} {n c : Nat} {f : Nat → Int} (h1 : n ≤ c) (h2 : c ≤ 9223372036854775807) (h : Lies w w.heap.size A n (fun k => .int .i64 (f k))) : LI w w.heap.size (.slice A n c) ((List.range n).map f) :=
  ⟨A, c, by simp, by simpa using h1, h2, fun k hk => by
    simp at hk
    obtain ⟨g, o, e, hg, hc⟩ := h k hk
    exact ⟨g, o, e, hg, by simpa using hc⟩⟩
set_option maxHeartbeats 800000 in
theorem clone_l (v : Value) (zs : List Int) (w : World) (h : LI w w.heap.size v zs) (hl : zs.length ≤ 1000000) :
    Calls Try.prog 27 #[v] w fun e w' => ∃ v' ob', e = .returned v' ∧ Seg w' 3 1 v' zs.length (ints zs) ob' ∧ Below w.heap.size w w' := by
  rcases Nat.eq_zero_or_pos zs.length with h0 | hp
  · obtain rfl : zs = [] := List.eq_nil_of_length_eq_zero h0
    obtain ⟨A, c, rfl, _⟩ := h
    refine (clone_none A c w).mono ?_
    rintro e w' ⟨A', rfl, hb⟩
    exact ⟨_, none, rfl, Sq.seg_zero _ _, hb⟩
  have q22 : ∀ (w : World) (a : Option Addr) (n c n' c' : Nat), (binOp .eql 22 (.slice a n c) (.slice none n' c')).run Try.prog w = .ok (.bool a.isNone) w := fun w a n c n' c' => Lib.run_eql_slice_nil w _ _ a n c n' c' Try.underlying22
  obtain ⟨i0, hi0, hz0, hz1, hz2⟩ := info_parts int_info
  obtain ⟨A, c, rfl, h1, h2, h3⟩ := h
  obtain ⟨g, o, rfl, hg, _⟩ := h3 0 hp
  have hnews : ∀ j u, (ints zs)[j]? = some u → (w.alloc (.cells #[] 3)).cell? ((⟨g, o, none⟩ : Addr).add j) = some u := fun j u hj => by
    have hj' : j < zs.length := by have := (List.getElem?_eq_some_iff.1 hj).1; simpa [ints] using this
    obtain ⟨g', o', e, hg', hc⟩ := h3 j hj'
    injection e with e
    injection e with e1 e2
    subst e1 e2
    rw [Addr.add_lit]
    refine Lib.cell?_alloc_some _ (hc.trans ?_)
    rw [← hj]
    simp [ints, hj']
  have HN := Lib.hid hnews
  have hone : ∀ u ∈ ints zs, u.oneCell' = true := fun u hu => by
    obtain ⟨z, _, rfl⟩ := List.mem_map.1 hu; rfl
  have HO := Lib.hid hone
  have hlen : (ints zs).length = zs.length * 1 := by simp [ints]
  have HLN := Lib.hid hlen
  clear h3 hnews hone hlen h2
  go_enter Try.func27, Try.ntmps27
  go_wp2_with (at_builtin; go_loud (refine wpList_append_seg _ rfl _ _ 22 rfl 3 i0 _ 1 8 Try.underlying22 hi0 hz0 hz1 hz2 rfl (by decide) _ 0 [] none rfl ⟨by simp, _, 0, rfl, Nat.le_refl _, by unfold maxLen; omega, .inl ⟨rfl, rfl, fun _ => trivial⟩⟩ ⟨g, o, none⟩ zs.length c (ints zs) rfl HLN.out HN.out HO.out hp (by unfold maxLen; omega) (by omega) ?_); intro v1 w1 ob1 hs1 ht1 ho1)
  go_ret
  exact ⟨v1, ob1, rfl, by simpa using hs1, ht1.below (by go_grown) (by simp) (fun _ _ e => by cases e)⟩
/-- A function value that tells a list. -/
def It (w : World) (f : Value) (zs : List Int) (d : Nat) : Prop := ∃ gs lbs P, f = .func (.func gs) #[] lbs ∧ Cells P w ∧ (∀ args w, (callFunc gs args).run Try.prog w = .ok (.enter gs args) w) ∧ ∀ n, d + 9 ≤ n → Ear d Fence.wide n gs lbs P (Firsts zs) (Sq.Next zs) w
theorem It.below {w w' : World} {f : Value} {zs : List Int} {d : Nat} (h : It w f zs d) (hb : Below w.heap.size w w') : It w' f zs d := by
  obtain ⟨gs, lbs, P, rfl, hc, eg, hE⟩ := h
  exact ⟨gs, lbs, P, rfl, hc.hold (Hold.below hb), eg, fun n hn => (hE n hn).later (Hold.below hb)⟩
/-- What Of hands back. -/
structure OfS (w : World) (f : Value) (zs : List Int) (Bn : Nat) (A : Option Addr) (cap : Nat) (ob : Option Nat) : Prop where
  eq : f = .func (.func 28) #[] #[.pointer (some ⟨Bn, 0, none⟩)]
  row : Row w Bn 22 #[.slice A zs.length cap]
  seg : Seg w 3 1 (.slice A zs.length cap) zs.length (ints zs) ob
theorem OfS.it {w : World} {f : Value} {zs : List Int} {Bn : Nat} {A : Option Addr} {cap : Nat} {ob : Option Nat} (h : OfS w f zs Bn A cap ob) (hl : zs.length ≤ 1000000) : It w f zs 1 :=
  ⟨_, _, fun j => j = Bn ∨ ob = some j, h.eq, fun k e => e.elim (fun e => by subst e; exact ⟨_, _, h.row⟩) (fun e => by
    have hs := h.seg
    rw [e] at hs
    obtain ⟨c, hr⟩ := seg_row hs
    exact ⟨_, _, hr⟩), enters_of Try.func28 (by kernel_rfl) rfl,
   fun n hn => of_ear Fence.wide n (fun _ => trivial) rfl (by omega) _ Bn zs A cap ob w (fun g e => .inr e) (.inl rfl) hl h.row h.seg⟩
theorem of_l (zs : List Int) (v : Value) (w : World) (h : LI w w.heap.size v zs) (hl : zs.length ≤ 1000000) :
    Calls Try.prog 11 #[v] w fun e w' => ∃ f Bn A cap o2, e = .returned f ∧ OfS w' f zs Bn A cap o2 ∧ Below w.heap.size w w' := by
  have HS := Lib.hid h
  clear h
  go_enter Try.func11, Try.ntmps11
  go_wp2_with (go_at_call 27; refine (clone_l _ zs _ HS.out hl).mono ?_; rintro e W2 ⟨v2, ob2, rfl, hs2, hb2⟩; obtain ⟨A2, cap2, rfl, _, _⟩ := hs2.form; have HS2 := Lib.hid hs2; clear hs2)
  go_ret
  exact ⟨_, _, A2, cap2, ob2, rfl, ⟨rfl, Row.made W2 _ _, HS2.out.alloc _⟩, hb2.alloc hb2.size _⟩
theorem take_it (f : Value) (zs : List Int) (d : Nat) (k : Int) (w : World) (hz : zs.length ≤ 1000000) (h : It w f zs d) :
    Calls Try.prog 10 #[f, .int .i64 k] w fun e w' => ∃ f', e = .returned f' ∧ It w' f' (zs.take k.toNat) (d + 4) ∧ Below w.heap.size w w' := by
  obtain ⟨gs, lbs, P, rfl, hc, eg, hE⟩ := h
  refine (callsIn_wide.1 (takef_mk Fence.wide 0 trivial rfl _ _ _ k w)).mono ?_
  rintro e w' ⟨rfl, rfl⟩
  have hb : Below w.heap.size w ((w.alloc (.cells #[.func (.func gs) #[] lbs] 26)).alloc (.cells #[.int .i64 k] 3)) := ((Below.refl _ w).alloc (Nat.le_refl _) _).alloc (by simp) _
  have rS := (Row.made w 26 #[.func (.func gs) #[] lbs]).alloc (.cells #[.int .i64 k] 3)
  have rK : Row ((w.alloc (.cells #[.func (.func gs) #[] lbs] 26)).alloc (.cells #[.int .i64 k] 3)) (w.heap.size + 1) 3 #[.int .i64 k] := by
    have := Row.made (w.alloc (.cells #[.func (.func gs) #[] lbs] 26)) 3 #[.int .i64 k]
    rwa [World.size_alloc] at this
  have hcp : Cells (fun j => P j ∨ j = w.heap.size ∨ j = w.heap.size + 1) ((w.alloc (.cells #[.func (.func gs) #[] lbs] 26)).alloc (.cells #[.int .i64 k] 3)) := fun j e => e.elim (fun e => hc.hold (Hold.below hb) j e) (fun e => e.elim (fun e => by subst e; exact ⟨_, _, rS⟩) (fun e => by subst e; exact ⟨_, _, rK⟩))
  exact ⟨_, rfl, ⟨_, _, fun j => P j ∨ j = w.heap.size ∨ j = w.heap.size + 1, rfl, hcp, enters_of Try.func25 (by kernel_rfl) rfl, fun n hn => take_e Fence.wide n (fun _ => trivial) rfl gs lbs d (by omega) _ _ _ k zs _ hz hcp (.inr (.inr rfl)) (.inr (.inl rfl)) eg rK rS (((hE (n - 2) (by omega)).later (Hold.below hb)).less (fun _ => .inl))⟩, hb⟩
theorem skip_it (f : Value) (zs : List Int) (d : Nat) (k : Int) (w : World) (hz : zs.length ≤ 1000000) (h : It w f zs d) :
    Calls Try.prog 12 #[f, .int .i64 k] w fun e w' => ∃ f', e = .returned f' ∧ It w' f' (zs.drop k.toNat) (d + 4) ∧ Below w.heap.size w w' := by
  obtain ⟨gs, lbs, P, rfl, hc, eg, hE⟩ := h
  have HC := Lib.hid hc
  have HE := Lib.hid hE
  have HG := Lib.hid eg
  clear hc hE eg
  go_enter Try.func12, Try.ntmps12
  go_wp2
  go_ret
  have hb : Below w.heap.size w ((w.alloc (.cells #[.func (.func gs) #[] lbs] 26)).alloc (.cells #[.int .i64 k] 3)) := ((Below.refl _ w).alloc (Nat.le_refl _) _).alloc (by simp) _
  have rS := (Row.made w 26 #[.func (.func gs) #[] lbs]).alloc (.cells #[.int .i64 k] 3)
  have rK : Row ((w.alloc (.cells #[.func (.func gs) #[] lbs] 26)).alloc (.cells #[.int .i64 k] 3)) (w.heap.size + 1) 3 #[.int .i64 k] := by
    have := Row.made (w.alloc (.cells #[.func (.func gs) #[] lbs] 26)) 3 #[.int .i64 k]
    rwa [World.size_alloc] at this
  have hcp : Cells (fun j => P j ∨ j = w.heap.size ∨ j = w.heap.size + 1) ((w.alloc (.cells #[.func (.func gs) #[] lbs] 26)).alloc (.cells #[.int .i64 k] 3)) := fun j e => e.elim (fun e => HC.out.hold (Hold.below hb) j e) (fun e => e.elim (fun e => by subst e; exact ⟨_, _, rS⟩) (fun e => by subst e; exact ⟨_, _, rK⟩))
  exact ⟨_, rfl, ⟨_, _, fun j => P j ∨ j = w.heap.size ∨ j = w.heap.size + 1, rfl, hcp, enters_of Try.func29 (by kernel_rfl) rfl, fun n hn => skip_e Fence.wide n (fun _ => trivial) rfl gs lbs d (by omega) _ _ _ k zs _ hz hcp (.inr (.inr rfl)) (.inr (.inl rfl)) HG.out rK rS (((HE.out (n - 2) (by omega)).later (Hold.below hb)).less (fun _ => .inl))⟩, hb⟩
theorem both_it (f f2 : Value) (zs z2 : List Int) (d : Nat) (w : World) (h : It w f zs d) (h2 : It w f2 z2 d) :
    Calls Try.prog 13 #[f, f2] w fun e w' => ∃ f', e = .returned f' ∧ It w' f' (zs ++ z2) (d + 4) ∧ Below w.heap.size w w' := by
  obtain ⟨gs, lbs, P, rfl, hc, eg, hE⟩ := h
  obtain ⟨g2, lb2, P2, rfl, hc2, eg2, hE2⟩ := h2
  have HC := Lib.hid hc
  have HE := Lib.hid hE
  have HG := Lib.hid eg
  have HC2 := Lib.hid hc2
  have HE2 := Lib.hid hE2
  have HG2 := Lib.hid eg2
  clear hc hE eg hc2 hE2 eg2
  go_enter Try.func13, Try.ntmps13
  go_wp2
  go_ret
  have hb : Below w.heap.size w ((w.alloc (.cells #[.func (.func gs) #[] lbs] 26)).alloc (.cells #[.func (.func g2) #[] lb2] 26)) := ((Below.refl _ w).alloc (Nat.le_refl _) _).alloc (by simp) _
  have rS := (Row.made w 26 #[.func (.func gs) #[] lbs]).alloc (.cells #[.func (.func g2) #[] lb2] 26)
  have rK : Row ((w.alloc (.cells #[.func (.func gs) #[] lbs] 26)).alloc (.cells #[.func (.func g2) #[] lb2] 26)) (w.heap.size + 1) 26 #[.func (.func g2) #[] lb2] := by
    have := Row.made (w.alloc (.cells #[.func (.func gs) #[] lbs] 26)) 26 #[.func (.func g2) #[] lb2]
    rwa [World.size_alloc] at this
  have hcp : Cells (fun j => (P j ∨ P2 j) ∨ j = w.heap.size ∨ j = w.heap.size + 1) ((w.alloc (.cells #[.func (.func gs) #[] lbs] 26)).alloc (.cells #[.func (.func g2) #[] lb2] 26)) := fun j e => e.elim (fun e => e.elim (fun e => HC.out.hold (Hold.below hb) j e) (fun e => HC2.out.hold (Hold.below hb) j e)) (fun e => e.elim (fun e => by subst e; exact ⟨_, _, rS⟩) (fun e => by subst e; exact ⟨_, _, rK⟩))
  exact ⟨_, rfl, ⟨_, _, fun j => (P j ∨ P2 j) ∨ j = w.heap.size ∨ j = w.heap.size + 1, rfl, hcp, enters_of Try.func30 (by kernel_rfl) rfl, fun n hn => both_e Fence.wide n (fun _ => trivial) rfl gs g2 lbs lb2 d (by omega) _ _ _ zs z2 _ hcp (.inr (.inl rfl)) (.inr (.inr rfl)) HG.out HG2.out rS rK (((HE.out (n - 2) (by omega)).later (Hold.below hb)).less (fun _ e => .inl (.inl e))) (((HE2.out (n - 2) (by omega)).later (Hold.below hb)).less (fun _ e => .inl (.inr e)))⟩, hb⟩
theorem some_it (f : Value) (zs : List Int) (d : Nat) (k : Int) (w : World) (hz : zs.length ≤ 65536) (h : It w f zs d) :
    Calls Try.prog 16 #[f, .int .i64 k] w fun e w' => ∃ v ob, e = .returned v ∧ Seg w' 3 1 v (zs.take k.toNat).length (ints (zs.take k.toNat)) ob ∧ Below w.heap.size w w' := by
  obtain ⟨gs, lbs, P, rfl, hc, eg, hE⟩ := h
  exact callsIn_wide.1 (some_any Fence.wide (d + 20) (fun _ => trivial) rfl gs lbs d (by omega) P k zs w hz hc eg (hE _ (by omega)))
theorem all_it (f : Value) (zs : List Int) (d : Nat) (w : World) (hz : zs.length ≤ 1000) (h : It w f zs d) :
    Calls Try.prog 9 #[f] w fun e w' => ∃ v ob, e = .returned v ∧ Seg w' 3 1 v zs.length (ints zs) ob ∧ Below w.heap.size w w' := by
  have HI := Lib.hid (some_it f zs d 1000 w (by omega) h)
  have e : zs.take ((1000 : Int).toNat) = zs := List.take_of_length_le (by simpa using hz)
  rw [e] at HI
  obtain ⟨gs, lbs, P, rfl, _, _, _⟩ := h
  clear e
  go_enter Try.func9, Try.ntmps9
  go_wp2_with (go_at_call 16; refine HI.out.mono ?_; rintro e W2 ⟨v2, ob2, rfl, hs2, hb2⟩; obtain ⟨A2, cap2, rfl, _, _⟩ := hs2.form; have HS2 := Lib.hid hs2; clear hs2)
  go_ret
  exact ⟨_, ob2, rfl, HS2.out, hb2⟩
set_option maxHeartbeats 1000000 in
theorem same_l (zs : List Int) (v1 v2 : Value) (w : World) (h1 : LI w w.heap.size v1 zs) (h2 : LI w w.heap.size v2 zs) (hl : zs.length ≤ 1000000) :
    Calls Try.prog 14 #[v1, v2] w fun e w' => e = .returned (.bool true) ∧ ∃ m, w' = w.drewN m := by
  obtain ⟨A1, c1, rfl, _, _, h1⟩ := h1
  obtain ⟨A2, c2, rfl, _, _, h2⟩ := h2
  have H1 := Lib.hid h1
  have H2 := Lib.hid h2
  clear h1 h2
  go_enter Try.func14, Try.ntmps14
  go_wp2
  go_loopw [5] (fun s wr => ∃ i : Nat, i ≤ zs.length ∧ s = .int .i64 i ∧ Hid (∃ m, wr = w.drewN m)) (fun s _ => zs.length - (intOf s).toNat)
  case atStart => exact ⟨0, Nat.zero_le _, rfl, 0, rfl⟩
  case round =>
    obtain ⟨i, hi, rfl, hw⟩ := hrel
    have hcells : ∀ a, wr.cell? a = w.cell? a := by
      obtain ⟨m, rfl⟩ := hw.out
      exact fun _ => rfl
    by_cases hlt : i < zs.length
    · obtain ⟨g1, p1, e1, _, h1c⟩ := H1.out i hlt
      obtain ⟨g2, p2, e2, _, h2c⟩ := H2.out i hlt
      subst e1 e2
      have a1 := (hcells _).trans h1c
      have a2 := (hcells _).trans h2c
      generalize zs[i] = x at a1 a2
      clear h1c h2c hcells
      go_wp2
      go_quiet (fail)
      go_wp2
      go_roundw
      case rel => exact ⟨i + 1, hlt, by go_num, by
        obtain ⟨m, rfl⟩ := hw.out
        exact ⟨m + _, World.drewN_drewN ..⟩⟩
      case measure => simp [intOf]; omega
    · have e : i = zs.length := by omega
      subst e
      clear hlt hcells
      go_wp2
      go_ret
      exact ⟨rfl, hw.out⟩
end Go.Proofs.Ytkklceblojcbkaa.Sr
