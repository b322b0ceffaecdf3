/- Iterators whose blocks are new; those that tell to a range's body. -/
import Derived.Test.YtkklceblojcbkaaSrI
import Derived.Test.YtkklceblojcbkaaApp
namespace Go.Proofs.Ytkklceblojcbkaa.Sr
open Go.RowKit Go.Proofs.Ytkklceblojcbkaa Go.Proofs.Ytkklceblojcbkaa.Sq
set_option linter.unusedVariables false
set_option maxRecDepth 100000
attribute [local go_sem] Oper.semAt_some
set_option maxHeartbeats 800000 in
theorem clone_b (v : Value) (zs : List Int) (w : World) (h : LI w w.heap.size v zs) (hl : zs.length ≤ 1000000) :
    Calls Try.prog 27 #[v] w fun e w' => ∃ v' ob', e = .returned v' ∧ Seg w' 3 1 v' zs.length (ints zs) ob' ∧ (∀ g, ob' = some g → w.heap.size ≤ g) ∧ Below w.heap.size w w' := by
  rcases Nat.eq_zero_or_pos zs.length with h0 | hp
  · obtain rfl : zs = [] := List.eq_nil_of_length_eq_zero h0
    obtain ⟨A, c, rfl, _⟩ := h
    refine (clone_none A c w).mono ?_
    rintro e w' ⟨A', rfl, hb⟩
    exact ⟨_, none, rfl, Sq.seg_zero _ _, (fun _ e => by cases e), hb⟩
  have q22 : ∀ (w : World) (a : Option Addr) (n c n' c' : Nat), (binOp .eql 22 (.slice a n c) (.slice none n' c')).run Try.prog w = .ok (.bool a.isNone) w := fun w a n c n' c' => Lib.run_eql_slice_nil w _ _ a n c n' c' Try.underlying22
  obtain ⟨i0, hi0, hz0, hz1, hz2⟩ := info_parts int_info
  obtain ⟨A, c, rfl, h1, h2, h3⟩ := h
  obtain ⟨g, o, rfl, hg, _⟩ := h3 0 hp
  have hnews : ∀ j u, (ints zs)[j]? = some u → (w.alloc (.cells #[] 3)).cell? ((⟨g, o, none⟩ : Addr).add j) = some u := fun j u hj => by
    have hj' : j < zs.length := by have := (List.getElem?_eq_some_iff.1 hj).1; simpa [ints] using this
    obtain ⟨g', o', e, hg', hc⟩ := h3 j hj'
    injection e with e
    injection e with e1 e2
    subst e1 e2
    rw [Addr.add_lit]
    refine Lib.cell?_alloc_some _ (hc.trans ?_)
    rw [← hj]
    simp [ints, hj']
  have HN := Lib.hid hnews
  have hone : ∀ u ∈ ints zs, u.oneCell' = true := fun u hu => by
    obtain ⟨z, _, rfl⟩ := List.mem_map.1 hu; rfl
  have HO := Lib.hid hone
  have hlen : (ints zs).length = zs.length * 1 := by simp [ints]
  have HLN := Lib.hid hlen
  clear h3 hnews hone hlen h2
  go_enter Try.func27, Try.ntmps27
  go_wp2_with (at_builtin; go_loud (refine wpList_append_seg _ rfl _ _ 22 rfl 3 i0 _ 1 8 Try.underlying22 hi0 hz0 hz1 hz2 rfl (by decide) _ 0 [] none rfl ⟨by simp, _, 0, rfl, Nat.le_refl _, by unfold maxLen; omega, .inl ⟨rfl, rfl, fun _ => trivial⟩⟩ ⟨g, o, none⟩ zs.length c (ints zs) rfl HLN.out HN.out HO.out hp (by unfold maxLen; omega) (by omega) ?_); intro v1 w1 ob1 hs1 ht1 ho1)
  go_ret
  refine ⟨v1, ob1, rfl, by simpa using hs1, fun g' hg' => ?_, ht1.below (by go_grown) (by simp) (fun _ _ e => by cases e)⟩
  rcases ho1 with h | ⟨g2, h, hg2⟩
  · rw [h] at hg'; cases hg'
  · rw [h] at hg'; injection hg' with hg'; subst hg'; simp at hg2; omega
/-- A function value that tells a list to an ear; all that it reads lies in blocks from B on. -/
def Itb (B : Nat) (w : World) (f : Value) (zs : List Int) (d : Nat) : Prop := ∃ gs lbs P, f = .func (.func gs) #[] lbs ∧ Cells P w ∧ (∀ k, P k → B ≤ k) ∧ (∀ args w, (callFunc gs args).run Try.prog w = .ok (.enter gs args) w) ∧ ∀ n, d + 9 ≤ n → Ear d Fence.wide n gs lbs P (Firsts zs) (Sq.Next zs) w
theorem Itb.below {B : Nat} {w w' : World} {f : Value} {zs : List Int} {d : Nat} (h : Itb B w f zs d) (hb : Below w.heap.size w w') : Itb B w' f zs d := by
  obtain ⟨gs, lbs, P, rfl, hc, hl, eg, hE⟩ := h
  exact ⟨gs, lbs, P, rfl, hc.hold (Hold.below hb), hl, eg, fun n hn => (hE n hn).later (Hold.below hb)⟩
theorem Itb.lower {B B' : Nat} {w : World} {f : Value} {zs : List Int} {d : Nat} (h : Itb B w f zs d) (hb : B' ≤ B) : Itb B' w f zs d := by
  obtain ⟨gs, lbs, P, rfl, hc, hl, eg, hE⟩ := h
  exact ⟨gs, lbs, P, rfl, hc, fun k hk => Nat.le_trans hb (hl k hk), eg, hE⟩
/-- One that tells to the body of a range. -/
def Itv {α : Type} (encs : α → Array Value) (B : Nat) (w : World) (f : Value) (S : Bool → List α → Prop) (G : List α → α → Prop) (d : Nat) : Prop := ∃ gs lbs P, f = .func (.func gs) #[] lbs ∧ Cells P w ∧ (∀ k, P k → B ≤ k) ∧ (∀ args w, (callFunc gs args).run Try.prog w = .ok (.enter gs args) w) ∧ ∀ n, d + 9 ≤ n → Tel d Fence.wide n Try.prog gs lbs encs P S G w
theorem of_b (zs : List Int) (v : Value) (w : World) (h : LI w w.heap.size v zs) (hl : zs.length ≤ 1000000) :
    Calls Try.prog 11 #[v] w fun e w' => ∃ f, e = .returned f ∧ Itb w.heap.size w' f zs 1 ∧ Below w.heap.size w w' := by
  have HS := Lib.hid h
  clear h
  go_enter Try.func11, Try.ntmps11
  go_wp2_with (go_at_call 27; refine (clone_b _ zs _ HS.out hl).mono ?_; rintro e W2 ⟨v2, ob2, rfl, hs2, hn2, hb2⟩; obtain ⟨A2, cap2, rfl, _, _⟩ := hs2.form; have HS2 := Lib.hid hs2; have HN2 := Lib.hid hn2; clear hs2 hn2)
  go_ret
  have rB := Row.made W2 22 #[.slice A2 zs.length cap2]
  have sB := HS2.out.alloc (.cells #[.slice A2 zs.length cap2] 22)
  refine ⟨_, rfl, ⟨_, _, fun j => j = W2.heap.size ∨ ob2 = some j, rfl, fun k e => e.elim (fun e => by subst e; exact ⟨_, _, rB⟩) (fun e => by
    rw [e] at sB
    obtain ⟨c, hr⟩ := seg_row sB
    exact ⟨_, _, hr⟩), fun k e => e.elim (fun e => by subst e; exact hb2.size) (fun e => HN2.out k e), enters_of Try.func28 (by kernel_rfl) rfl,
   fun n hn => of_ear Fence.wide n (fun _ => trivial) rfl (by omega) _ _ zs A2 cap2 ob2 _ (fun g e => .inr e) (.inl rfl) hl rB sB⟩, hb2.alloc hb2.size _⟩
theorem take_b (f : Value) (zs : List Int) (d B : Nat) (k : Int) (w : World) (hz : zs.length ≤ 1000000) (hBw : B ≤ w.heap.size) (h : Itb B w f zs d) :
    Calls Try.prog 10 #[f, .int .i64 k] w fun e w' => ∃ f', e = .returned f' ∧ Itb B w' f' (zs.take k.toNat) (d + 4) ∧ Below w.heap.size w w' := by
  obtain ⟨gs, lbs, P, rfl, hc, hlw, eg, hE⟩ := h
  refine (callsIn_wide.1 (takef_mk Fence.wide 0 trivial rfl _ _ _ k w)).mono ?_
  rintro e w' ⟨rfl, rfl⟩
  have hb : Below w.heap.size w ((w.alloc (.cells #[.func (.func gs) #[] lbs] 26)).alloc (.cells #[.int .i64 k] 3)) := ((Below.refl _ w).alloc (Nat.le_refl _) _).alloc (by simp) _
  have rS := (Row.made w 26 #[.func (.func gs) #[] lbs]).alloc (.cells #[.int .i64 k] 3)
  have rK : Row ((w.alloc (.cells #[.func (.func gs) #[] lbs] 26)).alloc (.cells #[.int .i64 k] 3)) (w.heap.size + 1) 3 #[.int .i64 k] := by
    have := Row.made (w.alloc (.cells #[.func (.func gs) #[] lbs] 26)) 3 #[.int .i64 k]
    rwa [World.size_alloc] at this
  have hcp : Cells (fun j => P j ∨ j = w.heap.size ∨ j = w.heap.size + 1) ((w.alloc (.cells #[.func (.func gs) #[] lbs] 26)).alloc (.cells #[.int .i64 k] 3)) := fun j e => e.elim (fun e => hc.hold (Hold.below hb) j e) (fun e => e.elim (fun e => by subst e; exact ⟨_, _, rS⟩) (fun e => by subst e; exact ⟨_, _, rK⟩))
  exact ⟨_, rfl, ⟨_, _, fun j => P j ∨ j = w.heap.size ∨ j = w.heap.size + 1, rfl, hcp, fun j e => e.elim (hlw j) (fun e => by omega), enters_of Try.func25 (by kernel_rfl) rfl, fun n hn => take_e Fence.wide n (fun _ => trivial) rfl gs lbs d (by omega) _ _ _ k zs _ hz hcp (.inr (.inr rfl)) (.inr (.inl rfl)) eg rK rS (((hE (n - 2) (by omega)).later (Hold.below hb)).less (fun _ => .inl))⟩, hb⟩
theorem skip_v (f : Value) (zs : List Int) (d B : Nat) (k : Int) (w : World) (hz : zs.length ≤ 1000000) (hBw : B ≤ w.heap.size) (h : Itb B w f zs d) :
    Calls Try.prog 12 #[f, .int .i64 k] w fun e w' => ∃ f', e = .returned f' ∧ Itv enc B w' f' (Firsts (zs.drop k.toNat)) (Sq.Next (zs.drop k.toNat)) (d + 4) ∧ Below w.heap.size w w' := by
  obtain ⟨gs, lbs, P, rfl, hc, hlw, eg, hE⟩ := h
  have HC := Lib.hid hc
  have HE := Lib.hid hE
  have HG := Lib.hid eg
  have HLW := Lib.hid hlw
  clear hc hE eg hlw
  go_enter Try.func12, Try.ntmps12
  go_wp2
  go_ret
  have hb : Below w.heap.size w ((w.alloc (.cells #[.func (.func gs) #[] lbs] 26)).alloc (.cells #[.int .i64 k] 3)) := ((Below.refl _ w).alloc (Nat.le_refl _) _).alloc (by simp) _
  have rS := (Row.made w 26 #[.func (.func gs) #[] lbs]).alloc (.cells #[.int .i64 k] 3)
  have rK : Row ((w.alloc (.cells #[.func (.func gs) #[] lbs] 26)).alloc (.cells #[.int .i64 k] 3)) (w.heap.size + 1) 3 #[.int .i64 k] := by
    have := Row.made (w.alloc (.cells #[.func (.func gs) #[] lbs] 26)) 3 #[.int .i64 k]
    rwa [World.size_alloc] at this
  have hcp : Cells (fun j => P j ∨ j = w.heap.size ∨ j = w.heap.size + 1) ((w.alloc (.cells #[.func (.func gs) #[] lbs] 26)).alloc (.cells #[.int .i64 k] 3)) := fun j e => e.elim (fun e => HC.out.hold (Hold.below hb) j e) (fun e => e.elim (fun e => by subst e; exact ⟨_, _, rS⟩) (fun e => by subst e; exact ⟨_, _, rK⟩))
  exact ⟨_, rfl, ⟨_, _, fun j => P j ∨ j = w.heap.size ∨ j = w.heap.size + 1, rfl, hcp, fun j e => e.elim (HLW.out j) (fun e => by omega), enters_of Try.func29 (by kernel_rfl) rfl, fun n hn => skip_y Fence.wide n (fun _ => trivial) rfl gs lbs d (by omega) _ _ _ k zs _ hz hcp (.inr (.inr rfl)) (.inr (.inl rfl)) HG.out rK rS (((HE.out (n - 2) (by omega)).later (Hold.below hb)).less (fun _ => .inl))⟩, hb⟩
theorem both_v (f f2 : Value) (zs z2 : List Int) (d B : Nat) (w : World) (hBw : B ≤ w.heap.size) (h : Itb B w f zs d) (h2 : Itb B w f2 z2 d) :
    Calls Try.prog 13 #[f, f2] w fun e w' => ∃ f', e = .returned f' ∧ Itv enc B w' f' (Firsts (zs ++ z2)) (Sq.Next (zs ++ z2)) (d + 4) ∧ Below w.heap.size w w' := by
  obtain ⟨gs, lbs, P, rfl, hc, hlw, eg, hE⟩ := h
  obtain ⟨g2, lb2, P2, rfl, hc2, hlw2, eg2, hE2⟩ := h2
  have HC := Lib.hid hc
  have HE := Lib.hid hE
  have HG := Lib.hid eg
  have HC2 := Lib.hid hc2
  have HE2 := Lib.hid hE2
  have HG2 := Lib.hid eg2
  have HLW := Lib.hid hlw
  have HLW2 := Lib.hid hlw2
  clear hc hE eg hc2 hE2 eg2 hlw hlw2
  go_enter Try.func13, Try.ntmps13
  go_wp2
  go_ret
  have hb : Below w.heap.size w ((w.alloc (.cells #[.func (.func gs) #[] lbs] 26)).alloc (.cells #[.func (.func g2) #[] lb2] 26)) := ((Below.refl _ w).alloc (Nat.le_refl _) _).alloc (by simp) _
  have rS := (Row.made w 26 #[.func (.func gs) #[] lbs]).alloc (.cells #[.func (.func g2) #[] lb2] 26)
  have rK : Row ((w.alloc (.cells #[.func (.func gs) #[] lbs] 26)).alloc (.cells #[.func (.func g2) #[] lb2] 26)) (w.heap.size + 1) 26 #[.func (.func g2) #[] lb2] := by
    have := Row.made (w.alloc (.cells #[.func (.func gs) #[] lbs] 26)) 26 #[.func (.func g2) #[] lb2]
    rwa [World.size_alloc] at this
  have hcp : Cells (fun j => (P j ∨ P2 j) ∨ j = w.heap.size ∨ j = w.heap.size + 1) ((w.alloc (.cells #[.func (.func gs) #[] lbs] 26)).alloc (.cells #[.func (.func g2) #[] lb2] 26)) := fun j e => e.elim (fun e => e.elim (fun e => HC.out.hold (Hold.below hb) j e) (fun e => HC2.out.hold (Hold.below hb) j e)) (fun e => e.elim (fun e => by subst e; exact ⟨_, _, rS⟩) (fun e => by subst e; exact ⟨_, _, rK⟩))
  exact ⟨_, rfl, ⟨_, _, fun j => (P j ∨ P2 j) ∨ j = w.heap.size ∨ j = w.heap.size + 1, rfl, hcp, fun j e => e.elim (fun e => e.elim (HLW.out j) (HLW2.out j)) (fun e => by omega), enters_of Try.func30 (by kernel_rfl) rfl, fun n hn => both_y Fence.wide n (fun _ => trivial) rfl gs g2 lbs lb2 d (by omega) _ _ _ zs z2 _ hcp (.inr (.inl rfl)) (.inr (.inr rfl)) HG.out HG2.out rS rK (((HE.out (n - 2) (by omega)).later (Hold.below hb)).less (fun _ e => .inl (.inl e))) (((HE2.out (n - 2) (by omega)).later (Hold.below hb)).less (fun _ e => .inl (.inr e)))⟩, hb⟩
theorem numb_v (f : Value) (zs : List Int) (d B : Nat) (w : World) (hz : zs.length ≤ 1000000) (hBw : B ≤ w.heap.size) (h : Itb B w f zs d) :
    Calls Try.prog 19 #[f] w fun e w' => ∃ f', e = .returned f' ∧ Itv enc2 B w' f' (Firsts2 zs) (Next2 zs) (d + 4) ∧ Below w.heap.size w w' := by
  obtain ⟨gs, lbs, P, rfl, hc, hlw, eg, hE⟩ := h
  have HC := Lib.hid hc
  have HE := Lib.hid hE
  have HG := Lib.hid eg
  have HLW := Lib.hid hlw
  clear hc hE eg hlw
  go_enter Try.func19, Try.ntmps19
  go_wp2
  go_ret
  have hb : Below w.heap.size w (w.alloc (.cells #[.func (.func gs) #[] lbs] 26)) := (Below.refl _ w).alloc (Nat.le_refl _) _
  have rS := Row.made w 26 #[.func (.func gs) #[] lbs]
  have hcp : Cells (fun j => P j ∨ j = w.heap.size) (w.alloc (.cells #[.func (.func gs) #[] lbs] 26)) := fun j e => e.elim (fun e => HC.out.hold (Hold.below hb) j e) (fun e => by subst e; exact ⟨_, _, rS⟩)
  exact ⟨_, rfl, ⟨_, _, fun j => P j ∨ j = w.heap.size, rfl, hcp, fun j e => e.elim (HLW.out j) (fun e => by omega), enters_of Try.func33 (by kernel_rfl) rfl, fun n hn => numb_y Fence.wide n (fun _ => trivial) rfl gs lbs d (by omega) _ _ zs _ hz hcp (.inr rfl) HG.out rS (((HE.out (n - 2) (by omega)).later (Hold.below hb)).less (fun _ => .inl))⟩, hb⟩
end Go.Proofs.Ytkklceblojcbkaa.Sr
