/- Both of any iterator (written by gen_srt). -/
import Derived.Test.YtkklceblojcbkaaSrD
namespace Go.Proofs.Ytkklceblojcbkaa.Sr
open Go.RowKit Go.Proofs.Ytkklceblojcbkaa Go.Proofs.Ytkklceblojcbkaa.Sq
set_option linter.unusedVariables false
set_option maxRecDepth 100000
attribute [local go_sem] Oper.semAt_some
/-- A block that is no cells stands. -/
theorem Stb.obj {β : Type} {B : Nat} {J : Own → β → World → Prop} (h : Stb B J) (D : Nat) (o : Obj) (hD : D < B) : Stb B (fun O s A => J O s A ∧ A.heap[D]? = some o ∧ ¬ O D) :=
  ⟨fun O O' s A hO hj => ⟨h.sub _ _ _ _ hO hj.1, hj.2.1, fun e => hj.2.2 (hO _ e)⟩,
   fun O s A o hj => ⟨h.alloc _ _ _ o hj.1, (Below.heap_alloc A _ D (Array.getElem?_eq_some_iff.1 hj.2.1).1).trans hj.2.1, fun e => e.elim hj.2.2 (fun e => by have := (Array.getElem?_eq_some_iff.1 hj.2.1).1; omega)⟩,
   fun O s A k v hj hk => ⟨h.set _ _ _ _ _ hj.1 hk, (heap_setCell_other _ _ D v (fun e => hj.2.2 (by have e : D = k := e; rw [e]; exact hk))).trans hj.2.1, hj.2.2⟩,
   fun O s A A' row hj hg hr => ⟨h.walk _ _ _ _ _ hj.1 hg hr, (hg.block D (Array.getElem?_eq_some_iff.1 hj.2.1).1 (fun e => by have := (hr D e.symm).1; omega)).trans hj.2.1, hj.2.2⟩,
   fun O s A A' hj hg => ⟨h.turn _ _ _ _ hj.1 hg, (hg.block D (Array.getElem?_eq_some_iff.1 hj.2.1).1 hj.2.2).trans hj.2.1, fun e => e.elim hj.2.2 (fun e => by have := (Array.getElem?_eq_some_iff.1 hj.2.1).1; omega)⟩⟩
set_option maxHeartbeats 2000000 in
theorem both_y (F : Fence) (n : Nat) (hF : ∀ k, F.fn k) (hro : F.round = none) (gs g2 : Nat) (lbs lb2 : Array Value) (d : Nat) (hn : d + 6 ≤ n) (P : Own) (Bs B2 : Nat) (zs z2 : List Int) (w : World) (hPc : Cells P w) (hPs : P Bs) (hP2 : P B2)
    (eg : ∀ args w, (callFunc gs args).run Try.prog w = .ok (.enter gs args) w) (eg2 : ∀ args w, (callFunc g2 args).run Try.prog w = .ok (.enter g2 args) w) (hs : Row w Bs 26 #[.func (.func gs) #[] lbs]) (hs2 : Row w B2 26 #[.func (.func g2) #[] lb2]) (hE : Ear d F (n - 2) gs lbs P (Firsts zs) (Sq.Next zs) w) (hE2 : Ear d F (n - 2) g2 lb2 P (Firsts z2) (Sq.Next z2) w) :
    Tel (d + 4) F n Try.prog 30 #[.pointer (some ⟨Bs, 0, none⟩), .pointer (some ⟨B2, 0, none⟩)] enc P (Firsts (zs ++ z2)) (Sq.Next (zs ++ z2)) w := fun l J Jx O0 W hW hJ hJx hY h0 => by
  have h1 : 1 ≤ n := by omega
  have hPl : ∀ k, P k → k < W.heap.size := fun k hk => (hPc.hold hW).lt hk
  have rs : Row W Bs 26 #[.func (.func gs) #[] lbs] := hW.row hPs hs
  have ls : Bs < W.heap.size := rs.lt
  have cs : W.cell? ⟨Bs, 0, none⟩ = some (.func (.func gs) #[] lbs) := (rs.cell 0).trans rfl
  have rs2 : Row W B2 26 #[.func (.func g2) #[] lb2] := hW.row hP2 hs2
  have ls2 : B2 < W.heap.size := rs2.lt
  have HJ := Lib.hid hJ
  have HJX := Lib.hid hJx
  have HY := Lib.hid hY
  have H0 := Lib.hid h0
  have HE := Lib.hid (hE.later hW)
  have HE2 := Lib.hid (hE2.later hW)
  have HC := Lib.hid (hPc.hold hW)
  have HR2 := Lib.hid rs2
  clear hW hs hs2 hJ hJx hY h0 rs rs2 hE hE2 hPc
  refine callsIn_of_wp_marks Try.func30 rfl (hF _) ?_ hro
  simp only [Try.ntmps30, List.size_toArray, List.length_cons, List.length_nil, Nat.reduceAdd, Nat.reduceSub, Array.replicate_succ, Array.replicate_zero, List.push_toArray, List.append_toArray, List.nil_append, List.cons_append]
  gi_wp2_with (gi_at_call 26; refine (told_in F (n - 1) (hF _) hro _ ⟨_, _, _, .inl rfl⟩ _).mono ?_; rintro e w' ⟨rfl, rfl⟩)
  obtain ⟨V, hV⟩ : ∃ V, (W.alloc (.cells #[.func (.yield l) #[] #[]] 43)).alloc (.cells #[.func (.func gs) #[] lbs] 26) = V := ⟨_, rfl⟩
  have bV : Below W.heap.size W V := by rw [← hV]; exact ((Below.refl _ W).alloc (Nat.le_refl _) _).alloc (by simp) _
  have zV : V.heap.size = W.heap.size + 2 := by rw [← hV]; simp
  have r0 : Row V W.heap.size 43 #[.func (.yield l) #[] #[]] := by
    rw [← hV]; have := (Row.made W 43 #[.func (.yield l) #[] #[]]).alloc (.cells #[.func (.func gs) #[] lbs] 26)
    exact this
  have r1 : Row V (W.heap.size + 1) 26 #[.func (.func gs) #[] lbs] := by
    rw [← hV]; have := Row.made (W.alloc (.cells #[.func (.yield l) #[] #[]] 43)) 26 #[.func (.func gs) #[] lbs]
    rwa [World.size_alloc] at this
  obtain ⟨X, hX⟩ : ∃ X : Own, X = fun j => j = W.heap.size ∨ j = W.heap.size + 1 := ⟨_, rfl⟩
  have jV : J (fun j => (fun _ => False) j ∨ X j) [] V := by
    rw [← hV, hX]
    refine HJ.out.sub _ _ _ _ ?_ (HJ.out.alloc _ _ _ _ (HJ.out.alloc _ _ _ _ H0.out))
    rintro j (e | e | e)
    · exact e.elim
    · exact .inl (.inr e)
    · exact .inr (by simpa using e)
  have hXs : X (W.heap.size + 1) := by rw [hX]; exact .inr rfl
  have hXy : X W.heap.size := by rw [hX]; exact .inl rfl
  have kV : KeepO P W (fun _ => False) V := ⟨Hold.below bV, fun _ _ e => e⟩
  rw [hV]
  have HT := Lib.hid (told_any F (n - 1) hF hro gs lbs d (by omega) (fun j => P j ∨ j = W.heap.size + 1) (Firsts zs) (Sq.Next zs) (W.heap.size + 1) V (fun j hj => hj.elim (fun hj => HC.out.hold (Hold.below bV) j hj) (fun e => by subst e; exact ⟨_, _, r1⟩)) (.inr rfl) eg r1 ((HE.out.later (Hold.below bV)).less (fun _ => .inl)))
  obtain ⟨I, hI⟩ : ∃ I : Own → List Int → World → Prop, I = fun (O : Own) (pre : List Int) A => (((J (fun j => O j ∨ X j) (pre) A ∧ Row A W.heap.size 43 #[.func (.yield l) #[] #[]] ∧ ¬ O W.heap.size) ∧ KeepO P W O A) ∧ KeepO (fun j => j = W.heap.size + 1) V O A) := ⟨_, rfl⟩
  obtain ⟨Ix, hIx⟩ : ∃ Ix : Code → Own → List Int → World → Prop, Ix = fun c (O : Own) (pre : List Int) A => (c = .ret ∧ ((pre) <+: zs ++ z2 ∧ Jx (fun j => O j ∨ X j) (pre) A)) := ⟨_, rfl⟩
  have HIE : Hid (∀ O pre A, I O pre A ↔ (((J (fun j => O j ∨ X j) (pre) A ∧ Row A W.heap.size 43 #[.func (.yield l) #[] #[]] ∧ ¬ O W.heap.size) ∧ KeepO P W O A) ∧ KeepO (fun j => j = W.heap.size + 1) V O A)) := Lib.hid (fun O pre A => by rw [hI])
  have HXE : Hid (∀ c O pre A, Ix c O pre A ↔ (c = .ret ∧ ((pre) <+: zs ++ z2 ∧ Jx (fun j => O j ∨ X j) (pre) A))) := Lib.hid (fun c O pre A => by rw [hIx])
  have HS : Hid (Stb W.heap.size I) := Lib.hid (by
    rw [hI]; exact (((((HJ.out.base X).at (fun pre : List Int => pre)).row W.heap.size 43 (fun _ => #[.func (.yield l) #[] #[]])).keep HC.out).keep (P := fun j => j = W.heap.size + 1) (w := V) (fun j e => by subst e; exact ⟨_, _, r1⟩)))
  have HSX : Hid (∀ c : Code, Stb W.heap.size (Ix c)) := Lib.hid (fun c => by
    rw [hIx]; exact ((((HJX.out.base X).at (fun pre : List Int => pre)).pure (fun pre => (pre) <+: zs ++ z2))).pure (fun _ => c = .ret))
  have I0 : Hid (I (fun _ => False) [] V) := Lib.hid (by
    rw [hI]; exact ⟨⟨⟨jV, r0, id⟩, kV⟩, ⟨Hold.refl _ _, fun _ _ e => e⟩⟩)
  clear hI hIx hV r0 r1 jV kV hX
  refine wpIn_rangeTel (d := d + 2) hro h1 (gf := 39) (lb := #[.pointer (some ⟨W.heap.size + 1, 0, none⟩)]) rfl (hF _) (enters_of Try.func39 (by kernel_rfl) rfl) HT.out (Hold.refl _ _) (fun _ => rfl)
    I Ix (HS.out.mono (by omega)) (fun c => (HSX.out c).mono (by omega)) I0.out ?round ?done ?stop
  case round =>
    intro l2 O pre x X0 hl hI hnx hsz
    rw [put1]
    simp only [List.setIfInBounds_toArray, List.set_cons_succ, List.set_cons_zero]
    gi_wp2
    refine ⟨(KeepsOthers.refl _).from _, Kq.refl _ _ _ _, fun o o' ho hlo => ?_⟩
    have hs1 : V.heap.size + 2 ≤ (X0.putObj l2 o').heap.size := by simpa using hsz
    have HI := Lib.hid ((HIE.out _ _ _).1 (HS.out.put o' hI (by omega) hlo ho))
    clear hI hlo hsz
    generalize X0.putObj l2 o' = Z at HI hs1 ⊢
    have y1 := HI.out.1.1.2.1
    have x1 : Z.cell? ⟨W.heap.size, 0, none⟩ = some (.func (.yield l) #[] #[]) := (y1.cell 0).trans rfl
    have HNT : Hid (Sq.Next (zs ++ z2) (pre) x) := Lib.hid (by
      exact List.IsPrefix.trans hnx (List.prefix_append zs z2))
    have j2 := HI.out.1.1.1
    obtain ⟨fn, tmps, assign, body, hy, hR⟩ := HY.out _ (pre) x _ j2 HNT.out (by omega)
    unfold enc at hy
    rw [show n - (d + 4) = n - 1 - (d + 2) - 1 by omega] at hR
    gi_wp2
    refine ⟨fun _ => by omega, (show RoundIn (F.inRound l2) (n - 1 - (d + 2) - 1) Try.prog l fn tmps assign body _ _ from hR).mono ?_⟩
    rintro e W3 ⟨hk3, ⟨rfl, hj3⟩ | ⟨rfl, hj3⟩⟩
    · have y3 : Row W3 W.heap.size 43 #[.func (.yield l) #[] #[]] := hk3.row (.inl (.inr hXy)) y1
      have kpF : Kq (fun j => P j ∨ j = W.heap.size + 1) O (V.heap.size + 2) Z W3 := hk3.less (by omega) (fun k e => e.elim (fun e => .inl (.inl e)) (fun e => e.elim .inr (fun e => .inl (.inr (by rw [e]; exact hXs)))))
      have kfF : KeepsFrom V.heap.size Z W3 := (hk3.less (P' := fun _ => False) (O' := fun _ => False) (b' := V.heap.size) (by omega) (fun k e => e.elim False.elim False.elim)).1
      gi_wp2
      refine ⟨kfF, kpF, (HIE.out _ _ _).2 ⟨⟨⟨hj3, y3, HI.out.1.1.2.2⟩, HI.out.1.2.1.kq (hk3.less (O' := fun _ => False) (P' := P) (Nat.le_refl _) (fun k e => e.elim False.elim .inr)), HI.out.1.2.2⟩, HI.out.2.1.kq (hk3.less (O' := fun _ => False) (P' := fun j => j = W.heap.size + 1) (Nat.le_refl _) (fun k e => e.elim False.elim (fun e => .inl (.inr (by rw [e]; exact hXs))))), HI.out.2.2⟩⟩
    · have kpF : Kq (fun j => P j ∨ j = W.heap.size + 1) O (V.heap.size + 2) Z W3 := hk3.less (by omega) (fun k e => e.elim (fun e => .inl (.inl e)) (fun e => e.elim .inr (fun e => .inl (.inr (by rw [e]; exact hXs)))))
      have kfF : KeepsFrom V.heap.size Z W3 := (hk3.less (P' := fun _ => False) (O' := fun _ => False) (b' := V.heap.size) (by omega) (fun k e => e.elim False.elim False.elim)).1
      gi_wp2
      exact ⟨kfF, kpF, (HXE.out _ _ _ _).2 ⟨rfl, HNT.out, hj3⟩⟩
  case stop =>
    intro D c O pre W2 hD hO hS hI hK
    obtain ⟨rfl, hp, hj⟩ := (HXE.out _ _ _ _).1 hI
    refine wpIn_ret ?_
    refine ⟨by simp, .inl ⟨_, _, rfl, run_takeDeferred hK, ?_⟩⟩
    exact ⟨_, results_none rfl _ _ _, ⟨_, rfl⟩, _, pre, .inr ⟨hp, HJX.out.put _ hj (by omega) hK rfl⟩⟩
  case done =>
    intro D O1 xs W2 hD hO hS hI hK
    have e : xs = zs := hS
    subst e
    have hI := (HIE.out _ _ _).1 hI
    have HIo := Lib.hid hI
    have HK := Lib.hid hK
    have hDl : D < W2.heap.size := (Array.getElem?_eq_some_iff.1 hK).1
    have hW2 : W.heap.size ≤ W2.heap.size := hI.1.2.1.1
    have c2 : W2.cell? ⟨B2, 0, none⟩ = some (.func (.func g2) #[] lb2) := ((hI.1.2.1.row hP2 HR2.out).cell 0).trans rfl
    have l2 : B2 < W2.heap.size := by omega
    clear hI hK HIE HXE HS HSX I0 HT
    gi_wp2_with (gi_at_call 26; refine (told_in F (n - 1) (hF _) hro _ ⟨_, _, _, .inl rfl⟩ _).mono ?_; rintro e w' ⟨rfl, rfl⟩)
    obtain ⟨V2, hV2⟩ : ∃ V2, W2.alloc (.cells #[.func (.func g2) #[] lb2] 26) = V2 := ⟨_, rfl⟩
    have bV2 : Below W2.heap.size W2 V2 := by rw [← hV2]; exact (Below.refl _ W2).alloc (Nat.le_refl _) _
    have zV2 : V2.heap.size = W2.heap.size + 1 := by rw [← hV2]; simp
    have q0 : Row V2 W2.heap.size 26 #[.func (.func g2) #[] lb2] := by rw [← hV2]; exact Row.made W2 _ _
    obtain ⟨X2, hX2⟩ : ∃ X2 : Own, X2 = fun j => (O1 j ∨ X j) ∨ j = W2.heap.size := ⟨_, rfl⟩
    have jV2 : J (fun j => (fun _ => False) j ∨ X2 j) (xs ++ []) V2 := by
      rw [← hV2, hX2, List.append_nil]
      refine HJ.out.sub _ _ _ _ ?_ (HJ.out.alloc _ _ _ _ HIo.out.1.1.1)
      rintro j (e | e)
      · exact e.elim
      · exact e
    have hXs2 : X2 W2.heap.size := by rw [hX2]; exact .inr rfl
    have hXy2 : X2 W.heap.size := by rw [hX2]; exact .inl (.inr hXy)
    have y2 : Row V2 W.heap.size 43 #[.func (.yield l) #[] #[]] := (bV2.block _ HIo.out.1.1.2.1.lt).trans HIo.out.1.1.2.1
    have kV2 : KeepO P W (fun _ => False) V2 := ⟨HIo.out.1.2.1.trans (Hold.below bV2), fun _ _ e => e⟩
    have kD2 : V2.heap[D]? = some (.deferred (some [])) := (bV2.block D hDl).trans HK.out
    rw [hV2]
    have HT2 := Lib.hid (told_any F (n - 1) hF hro g2 lb2 d (by omega) (fun j => P j ∨ j = W2.heap.size) (Firsts z2) (Sq.Next z2) W2.heap.size V2 (fun j hj => hj.elim (fun hj => HC.out.hold kV2.1 j hj) (fun e => by subst e; exact ⟨_, _, q0⟩)) (.inr rfl) eg2 q0 ((HE2.out.later kV2.1).less (fun _ => .inl)))
    obtain ⟨I2, hI2⟩ : ∃ I : Own → List Int → World → Prop, I = fun (O : Own) (pre : List Int) A => (((J (fun j => O j ∨ X2 j) (xs ++ pre) A ∧ Row A W.heap.size 43 #[.func (.yield l) #[] #[]] ∧ ¬ O W.heap.size) ∧ KeepO P W O A) ∧ KeepO (fun j => j = W2.heap.size) V2 O A) ∧ A.heap[D]? = some (.deferred (some [])) ∧ ¬ O D := ⟨_, rfl⟩
    obtain ⟨Ix2, hIx2⟩ : ∃ Ix : Code → Own → List Int → World → Prop, Ix = fun c (O : Own) (pre : List Int) A => (c = .ret ∧ ((xs ++ pre) <+: xs ++ z2 ∧ Jx (fun j => O j ∨ X2 j) (xs ++ pre) A) ∧ A.heap[D]? = some (.deferred (some [])) ∧ ¬ O D) := ⟨_, rfl⟩
    have HIE2 : Hid (∀ O pre A, I2 O pre A ↔ (((J (fun j => O j ∨ X2 j) (xs ++ pre) A ∧ Row A W.heap.size 43 #[.func (.yield l) #[] #[]] ∧ ¬ O W.heap.size) ∧ KeepO P W O A) ∧ KeepO (fun j => j = W2.heap.size) V2 O A) ∧ A.heap[D]? = some (.deferred (some [])) ∧ ¬ O D) := Lib.hid (fun O pre A => by rw [hI2])
    have HXE2 : Hid (∀ c O pre A, Ix2 c O pre A ↔ (c = .ret ∧ ((xs ++ pre) <+: xs ++ z2 ∧ Jx (fun j => O j ∨ X2 j) (xs ++ pre) A) ∧ A.heap[D]? = some (.deferred (some [])) ∧ ¬ O D)) := Lib.hid (fun c O pre A => by rw [hIx2])
    have HS2 : Hid (Stb V2.heap.size I2) := Lib.hid (by
      rw [hI2]; exact (((((((HJ.out.base X2).at (fun pre : List Int => xs ++ pre)).row W.heap.size 43 (fun _ => #[.func (.yield l) #[] #[]])).keep HC.out).keep (P := fun j => j = W2.heap.size) (w := V2) (fun j e => by subst e; exact ⟨_, _, q0⟩))).mono (B' := V2.heap.size) (by omega)).obj D _ (by omega))
    have HSX2 : Hid (∀ c : Code, Stb V2.heap.size (Ix2 c)) := Lib.hid (fun c => by
      rw [hIx2]; exact ((((((HJX.out.base X2).at (fun pre : List Int => xs ++ pre)).pure (fun pre => (xs ++ pre) <+: xs ++ z2))).mono (B' := V2.heap.size) (by omega)).obj D _ (by omega)).pure (fun _ => c = .ret))
    have I02 : Hid (I2 (fun _ => False) [] V2) := Lib.hid (by
      rw [hI2]; exact ⟨⟨⟨⟨jV2, y2, id⟩, kV2⟩, ⟨Hold.refl _ _, fun _ _ e => e⟩⟩, kD2, id⟩)
    clear hI2 hIx2 hV2 q0 jV2 kV2 hX2 y2 kD2
    refine wpIn_rangeTel (d := d + 2) hro h1 (gf := 39) (lb := #[.pointer (some ⟨W2.heap.size, 0, none⟩)]) rfl (hF _) (enters_of Try.func39 (by kernel_rfl) rfl) HT2.out (Hold.refl _ _) (fun _ => rfl)
      I2 Ix2 (HS2.out.mono (by omega)) (fun c => (HSX2.out c).mono (by omega)) I02.out ?round2 ?done2 ?stop2
    case round2 =>
      intro l2 O pre x X0 hl hI hnx hsz
      rw [put1]
      simp only [List.setIfInBounds_toArray, List.set_cons_succ, List.set_cons_zero]
      gi_wp2
      refine ⟨(KeepsOthers.refl _).from _, Kq.refl _ _ _ _, fun o o' ho hlo => ?_⟩
      have hs1 : V2.heap.size + 2 ≤ (X0.putObj l2 o').heap.size := by simpa using hsz
      have HI := Lib.hid ((HIE2.out _ _ _).1 (HS2.out.put o' hI (by omega) hlo ho))
      clear hI hlo hsz
      generalize X0.putObj l2 o' = Z at HI hs1 ⊢
      have y1 := HI.out.1.1.1.2.1
      have x1 : Z.cell? ⟨W.heap.size, 0, none⟩ = some (.func (.yield l) #[] #[]) := (y1.cell 0).trans rfl
      have HNT : Hid (Sq.Next (xs ++ z2) (xs ++ pre) x) := Lib.hid (by
        obtain ⟨t, ht⟩ := (show pre ++ [x] <+: z2 from hnx); exact ⟨t, by rw [← ht]; simp⟩)
      have j2 := HI.out.1.1.1.1
      obtain ⟨fn, tmps, assign, body, hy, hR⟩ := HY.out _ (xs ++ pre) x _ j2 HNT.out (by omega)
      unfold enc at hy
      rw [show n - (d + 4) = n - 1 - (d + 2) - 1 by omega] at hR
      gi_wp2
      refine ⟨fun _ => by omega, (show RoundIn (F.inRound l2) (n - 1 - (d + 2) - 1) Try.prog l fn tmps assign body _ _ from hR).mono ?_⟩
      rintro e W3 ⟨hk3, ⟨rfl, hj3⟩ | ⟨rfl, hj3⟩⟩
      · have y3 : Row W3 W.heap.size 43 #[.func (.yield l) #[] #[]] := hk3.row (.inl (.inr hXy2)) y1
        have kpF : Kq (fun j => P j ∨ j = W2.heap.size) O (V2.heap.size + 2) Z W3 := hk3.less (by omega) (fun k e => e.elim (fun e => .inl (.inl e)) (fun e => e.elim .inr (fun e => .inl (.inr (by rw [e]; exact hXs2)))))
        have kfF : KeepsFrom V2.heap.size Z W3 := (hk3.less (P' := fun _ => False) (O' := fun _ => False) (b' := V2.heap.size) (by omega) (fun k e => e.elim False.elim False.elim)).1
        gi_wp2
        refine ⟨kfF, kpF, (HIE2.out _ _ _).2 ⟨⟨⟨⟨by simpa using hj3, y3, HI.out.1.1.1.2.2⟩, HI.out.1.1.2.1.kq (hk3.less (O' := fun _ => False) (P' := P) (Nat.le_refl _) (fun k e => e.elim False.elim .inr)), HI.out.1.1.2.2⟩, HI.out.1.2.1.kq (hk3.less (O' := fun _ => False) (P' := fun j => j = W2.heap.size) (Nat.le_refl _) (fun k e => e.elim False.elim (fun e => .inl (.inr (by rw [e]; exact hXs2))))), HI.out.1.2.2⟩, hk3.1.same D _ (by omega) HI.out.2.1 rfl, HI.out.2.2⟩⟩
      · have kpF : Kq (fun j => P j ∨ j = W2.heap.size) O (V2.heap.size + 2) Z W3 := hk3.less (by omega) (fun k e => e.elim (fun e => .inl (.inl e)) (fun e => e.elim .inr (fun e => .inl (.inr (by rw [e]; exact hXs2)))))
        have kfF : KeepsFrom V2.heap.size Z W3 := (hk3.less (P' := fun _ => False) (O' := fun _ => False) (b' := V2.heap.size) (by omega) (fun k e => e.elim False.elim False.elim)).1
        gi_wp2
        exact ⟨kfF, kpF, (HXE2.out _ _ _ _).2 ⟨rfl, ⟨⟨by have h := HNT.out; unfold Sq.Next at h; simpa using h, by simpa using hj3⟩, hk3.1.same D _ (by omega) HI.out.2.1 rfl, HI.out.2.2⟩⟩⟩
    case done2 =>
      intro D3 O xs3 W3 hD3 hO3 hS hI hK
      have e : xs3 = z2 := hS
      subst e
      have hI := (HIE2.out _ _ _).1 hI
      have hne : D ≠ D3 := by omega
      have hK4 : (W3.putObj D3 (.deferred none)).heap[D]? = some (.deferred (some [])) := (World.putObj_heap_other hne).trans hI.2.1
      refine ⟨by simp, .inl ⟨_, _, rfl, run_takeDeferred hK, ?_⟩⟩
      refine ⟨by simp, .inl ⟨_, _, rfl, run_takeDeferred hK4, ?_⟩⟩
      exact ⟨_, results_none rfl _ _ _, ⟨_, rfl⟩, _, _, .inl ⟨rfl, HJ.out.put _ (HJ.out.put _ hI.1.1.1.1 (by omega) hK rfl) (by omega) hK4 rfl⟩⟩
    case stop2 =>
      intro D3 c O pre W3 hD3 hO3 hS hI hK
      obtain ⟨rfl, ⟨hp, hj⟩, hK1, _⟩ := (HXE2.out _ _ _ _).1 hI
      have hne : D ≠ D3 := by omega
      have hK4 : (W3.putObj D3 (.deferred none)).heap[D]? = some (.deferred (some [])) := (World.putObj_heap_other hne).trans hK1
      refine wpIn_ret ?_
      refine ⟨by simp, .inl ⟨_, _, rfl, run_takeDeferred hK, ?_⟩⟩
      refine ⟨by simp, .inl ⟨_, _, rfl, run_takeDeferred hK4, ?_⟩⟩
      exact ⟨_, results_none rfl _ _ _, ⟨_, rfl⟩, _, _, .inr ⟨hp, HJX.out.put _ (HJX.out.put _ hj (by omega) hK rfl) (by omega) hK4 rfl⟩⟩
set_option maxHeartbeats 2000000 in
theorem both_e (F : Fence) (n : Nat) (hF : ∀ k, F.fn k) (hro : F.round = none) (gs g2 : Nat) (lbs lb2 : Array Value) (d : Nat) (hn : d + 6 ≤ n) (P : Own) (Bs B2 : Nat) (zs z2 : List Int) (w : World) (hPc : Cells P w) (hPs : P Bs) (hP2 : P B2)
    (eg : ∀ args w, (callFunc gs args).run Try.prog w = .ok (.enter gs args) w) (eg2 : ∀ args w, (callFunc g2 args).run Try.prog w = .ok (.enter g2 args) w) (hs : Row w Bs 26 #[.func (.func gs) #[] lbs]) (hs2 : Row w B2 26 #[.func (.func g2) #[] lb2]) (hE : Ear d F (n - 2) gs lbs P (Firsts zs) (Sq.Next zs) w) (hE2 : Ear d F (n - 2) g2 lb2 P (Firsts z2) (Sq.Next z2) w) :
    Ear (d + 4) F n 30 #[.pointer (some ⟨Bs, 0, none⟩), .pointer (some ⟨B2, 0, none⟩)] P (Firsts (zs ++ z2)) (Sq.Next (zs ++ z2)) w := fun a1 a2 J Jx O0 W hW hJ hJx hY h0 => by
  have h1 : 1 ≤ n := by omega
  have hPl : ∀ k, P k → k < W.heap.size := fun k hk => (hPc.hold hW).lt hk
  have rs : Row W Bs 26 #[.func (.func gs) #[] lbs] := hW.row hPs hs
  have ls : Bs < W.heap.size := rs.lt
  have cs : W.cell? ⟨Bs, 0, none⟩ = some (.func (.func gs) #[] lbs) := (rs.cell 0).trans rfl
  have rs2 : Row W B2 26 #[.func (.func g2) #[] lb2] := hW.row hP2 hs2
  have ls2 : B2 < W.heap.size := rs2.lt
  have HJ := Lib.hid hJ
  have HJX := Lib.hid hJx
  have HY := Lib.hid hY
  have H0 := Lib.hid h0
  have HE := Lib.hid (hE.later hW)
  have HE2 := Lib.hid (hE2.later hW)
  have HC := Lib.hid (hPc.hold hW)
  have HR2 := Lib.hid rs2
  clear hW hs hs2 hJ hJx hY h0 rs rs2 hE hE2 hPc
  refine callsIn_of_wp_marks Try.func30 rfl (hF _) ?_ hro
  simp only [Try.ntmps30, List.size_toArray, List.length_cons, List.length_nil, Nat.reduceAdd, Nat.reduceSub, Array.replicate_succ, Array.replicate_zero, List.push_toArray, List.append_toArray, List.nil_append, List.cons_append]
  gi_wp2_with (gi_at_call 26; refine (told_in F (n - 1) (hF _) hro _ ⟨_, _, _, .inl rfl⟩ _).mono ?_; rintro e w' ⟨rfl, rfl⟩)
  obtain ⟨V, hV⟩ : ∃ V, (W.alloc (.cells #[.func (.func 40) #[] #[a1, a2]] 43)).alloc (.cells #[.func (.func gs) #[] lbs] 26) = V := ⟨_, rfl⟩
  have bV : Below W.heap.size W V := by rw [← hV]; exact ((Below.refl _ W).alloc (Nat.le_refl _) _).alloc (by simp) _
  have zV : V.heap.size = W.heap.size + 2 := by rw [← hV]; simp
  have r0 : Row V W.heap.size 43 #[.func (.func 40) #[] #[a1, a2]] := by
    rw [← hV]; have := (Row.made W 43 #[.func (.func 40) #[] #[a1, a2]]).alloc (.cells #[.func (.func gs) #[] lbs] 26)
    exact this
  have r1 : Row V (W.heap.size + 1) 26 #[.func (.func gs) #[] lbs] := by
    rw [← hV]; have := Row.made (W.alloc (.cells #[.func (.func 40) #[] #[a1, a2]] 43)) 26 #[.func (.func gs) #[] lbs]
    rwa [World.size_alloc] at this
  obtain ⟨X, hX⟩ : ∃ X : Own, X = fun j => j = W.heap.size ∨ j = W.heap.size + 1 := ⟨_, rfl⟩
  have jV : J (fun j => (fun _ => False) j ∨ X j) [] V := by
    rw [← hV, hX]
    refine HJ.out.sub _ _ _ _ ?_ (HJ.out.alloc _ _ _ _ (HJ.out.alloc _ _ _ _ H0.out))
    rintro j (e | e | e)
    · exact e.elim
    · exact .inl (.inr e)
    · exact .inr (by simpa using e)
  have hXs : X (W.heap.size + 1) := by rw [hX]; exact .inr rfl
  have hXy : X W.heap.size := by rw [hX]; exact .inl rfl
  have kV : KeepO P W (fun _ => False) V := ⟨Hold.below bV, fun _ _ e => e⟩
  rw [hV]
  have HT := Lib.hid (told_any F (n - 1) hF hro gs lbs d (by omega) (fun j => P j ∨ j = W.heap.size + 1) (Firsts zs) (Sq.Next zs) (W.heap.size + 1) V (fun j hj => hj.elim (fun hj => HC.out.hold (Hold.below bV) j hj) (fun e => by subst e; exact ⟨_, _, r1⟩)) (.inr rfl) eg r1 ((HE.out.later (Hold.below bV)).less (fun _ => .inl)))
  obtain ⟨I, hI⟩ : ∃ I : Own → List Int → World → Prop, I = fun (O : Own) (pre : List Int) A => (((J (fun j => O j ∨ X j) (pre) A ∧ Row A W.heap.size 43 #[.func (.func 40) #[] #[a1, a2]] ∧ ¬ O W.heap.size) ∧ KeepO P W O A) ∧ KeepO (fun j => j = W.heap.size + 1) V O A) := ⟨_, rfl⟩
  obtain ⟨Ix, hIx⟩ : ∃ Ix : Code → Own → List Int → World → Prop, Ix = fun c (O : Own) (pre : List Int) A => (c = .ret ∧ ((pre) <+: zs ++ z2 ∧ Jx (fun j => O j ∨ X j) (pre) A)) := ⟨_, rfl⟩
  have HIE : Hid (∀ O pre A, I O pre A ↔ (((J (fun j => O j ∨ X j) (pre) A ∧ Row A W.heap.size 43 #[.func (.func 40) #[] #[a1, a2]] ∧ ¬ O W.heap.size) ∧ KeepO P W O A) ∧ KeepO (fun j => j = W.heap.size + 1) V O A)) := Lib.hid (fun O pre A => by rw [hI])
  have HXE : Hid (∀ c O pre A, Ix c O pre A ↔ (c = .ret ∧ ((pre) <+: zs ++ z2 ∧ Jx (fun j => O j ∨ X j) (pre) A))) := Lib.hid (fun c O pre A => by rw [hIx])
  have HS : Hid (Stb W.heap.size I) := Lib.hid (by
    rw [hI]; exact (((((HJ.out.base X).at (fun pre : List Int => pre)).row W.heap.size 43 (fun _ => #[.func (.func 40) #[] #[a1, a2]])).keep HC.out).keep (P := fun j => j = W.heap.size + 1) (w := V) (fun j e => by subst e; exact ⟨_, _, r1⟩)))
  have HSX : Hid (∀ c : Code, Stb W.heap.size (Ix c)) := Lib.hid (fun c => by
    rw [hIx]; exact ((((HJX.out.base X).at (fun pre : List Int => pre)).pure (fun pre => (pre) <+: zs ++ z2))).pure (fun _ => c = .ret))
  have I0 : Hid (I (fun _ => False) [] V) := Lib.hid (by
    rw [hI]; exact ⟨⟨⟨jV, r0, id⟩, kV⟩, ⟨Hold.refl _ _, fun _ _ e => e⟩⟩)
  clear hI hIx hV r0 r1 jV kV hX
  refine wpIn_rangeTel (d := d + 2) hro h1 (gf := 39) (lb := #[.pointer (some ⟨W.heap.size + 1, 0, none⟩)]) rfl (hF _) (enters_of Try.func39 (by kernel_rfl) rfl) HT.out (Hold.refl _ _) (fun _ => rfl)
    I Ix (HS.out.mono (by omega)) (fun c => (HSX.out c).mono (by omega)) I0.out ?round ?done ?stop
  case round =>
    intro l2 O pre x X0 hl hI hnx hsz
    rw [put1]
    simp only [List.setIfInBounds_toArray, List.set_cons_succ, List.set_cons_zero]
    gi_wp2
    refine ⟨(KeepsOthers.refl _).from _, Kq.refl _ _ _ _, fun o o' ho hlo => ?_⟩
    have hs1 : V.heap.size + 2 ≤ (X0.putObj l2 o').heap.size := by simpa using hsz
    have HI := Lib.hid ((HIE.out _ _ _).1 (HS.out.put o' hI (by omega) hlo ho))
    clear hI hlo hsz
    generalize X0.putObj l2 o' = Z at HI hs1 ⊢
    have y1 := HI.out.1.1.2.1
    have x1 : Z.cell? ⟨W.heap.size, 0, none⟩ = some (.func (.func 40) #[] #[a1, a2]) := (y1.cell 0).trans rfl
    have HNT : Hid (Sq.Next (zs ++ z2) (pre) x) := Lib.hid (by
      exact List.IsPrefix.trans hnx (List.prefix_append zs z2))
    have j2 := HI.out.1.1.1
    have hC := HY.out _ (pre) x _ j2 HNT.out (by omega)
    rw [show n - (d + 4) = n - 1 - (d + 2) - 1 by omega] at hC
    gi_wp2
    refine ⟨fun _ => by omega, (show CallsIn (F.inRound l2) (n - 1 - (d + 2) - 1) Try.prog 40 _ _ _ from hC).mono ?_⟩
    rintro e W3 ⟨hk3, ⟨rfl, hj3⟩ | ⟨rfl, hj3⟩⟩
    · have y3 : Row W3 W.heap.size 43 #[.func (.func 40) #[] #[a1, a2]] := hk3.row (.inl (.inr hXy)) y1
      have kpF : Kq (fun j => P j ∨ j = W.heap.size + 1) O (V.heap.size + 2) Z W3 := hk3.less (by omega) (fun k e => e.elim (fun e => .inl (.inl e)) (fun e => e.elim .inr (fun e => .inl (.inr (by rw [e]; exact hXs)))))
      have kfF : KeepsFrom V.heap.size Z W3 := (hk3.less (P' := fun _ => False) (O' := fun _ => False) (b' := V.heap.size) (by omega) (fun k e => e.elim False.elim False.elim)).1
      gi_wp2
      refine ⟨kfF, kpF, (HIE.out _ _ _).2 ⟨⟨⟨hj3, y3, HI.out.1.1.2.2⟩, HI.out.1.2.1.kq (hk3.less (O' := fun _ => False) (P' := P) (Nat.le_refl _) (fun k e => e.elim False.elim .inr)), HI.out.1.2.2⟩, HI.out.2.1.kq (hk3.less (O' := fun _ => False) (P' := fun j => j = W.heap.size + 1) (Nat.le_refl _) (fun k e => e.elim False.elim (fun e => .inl (.inr (by rw [e]; exact hXs))))), HI.out.2.2⟩⟩
    · have kpF : Kq (fun j => P j ∨ j = W.heap.size + 1) O (V.heap.size + 2) Z W3 := hk3.less (by omega) (fun k e => e.elim (fun e => .inl (.inl e)) (fun e => e.elim .inr (fun e => .inl (.inr (by rw [e]; exact hXs)))))
      have kfF : KeepsFrom V.heap.size Z W3 := (hk3.less (P' := fun _ => False) (O' := fun _ => False) (b' := V.heap.size) (by omega) (fun k e => e.elim False.elim False.elim)).1
      gi_wp2
      exact ⟨kfF, kpF, (HXE.out _ _ _ _).2 ⟨rfl, HNT.out, hj3⟩⟩
  case stop =>
    intro D c O pre W2 hD hO hS hI hK
    obtain ⟨rfl, hp, hj⟩ := (HXE.out _ _ _ _).1 hI
    refine wpIn_ret ?_
    refine ⟨by simp, .inl ⟨_, _, rfl, run_takeDeferred hK, ?_⟩⟩
    exact ⟨_, results_none rfl _ _ _, ⟨_, rfl⟩, _, pre, .inr ⟨hp, HJX.out.put _ hj (by omega) hK rfl⟩⟩
  case done =>
    intro D O1 xs W2 hD hO hS hI hK
    have e : xs = zs := hS
    subst e
    have hI := (HIE.out _ _ _).1 hI
    have HIo := Lib.hid hI
    have HK := Lib.hid hK
    have hDl : D < W2.heap.size := (Array.getElem?_eq_some_iff.1 hK).1
    have hW2 : W.heap.size ≤ W2.heap.size := hI.1.2.1.1
    have c2 : W2.cell? ⟨B2, 0, none⟩ = some (.func (.func g2) #[] lb2) := ((hI.1.2.1.row hP2 HR2.out).cell 0).trans rfl
    have l2 : B2 < W2.heap.size := by omega
    clear hI hK HIE HXE HS HSX I0 HT
    gi_wp2_with (gi_at_call 26; refine (told_in F (n - 1) (hF _) hro _ ⟨_, _, _, .inl rfl⟩ _).mono ?_; rintro e w' ⟨rfl, rfl⟩)
    obtain ⟨V2, hV2⟩ : ∃ V2, W2.alloc (.cells #[.func (.func g2) #[] lb2] 26) = V2 := ⟨_, rfl⟩
    have bV2 : Below W2.heap.size W2 V2 := by rw [← hV2]; exact (Below.refl _ W2).alloc (Nat.le_refl _) _
    have zV2 : V2.heap.size = W2.heap.size + 1 := by rw [← hV2]; simp
    have q0 : Row V2 W2.heap.size 26 #[.func (.func g2) #[] lb2] := by rw [← hV2]; exact Row.made W2 _ _
    obtain ⟨X2, hX2⟩ : ∃ X2 : Own, X2 = fun j => (O1 j ∨ X j) ∨ j = W2.heap.size := ⟨_, rfl⟩
    have jV2 : J (fun j => (fun _ => False) j ∨ X2 j) (xs ++ []) V2 := by
      rw [← hV2, hX2, List.append_nil]
      refine HJ.out.sub _ _ _ _ ?_ (HJ.out.alloc _ _ _ _ HIo.out.1.1.1)
      rintro j (e | e)
      · exact e.elim
      · exact e
    have hXs2 : X2 W2.heap.size := by rw [hX2]; exact .inr rfl
    have hXy2 : X2 W.heap.size := by rw [hX2]; exact .inl (.inr hXy)
    have y2 : Row V2 W.heap.size 43 #[.func (.func 40) #[] #[a1, a2]] := (bV2.block _ HIo.out.1.1.2.1.lt).trans HIo.out.1.1.2.1
    have kV2 : KeepO P W (fun _ => False) V2 := ⟨HIo.out.1.2.1.trans (Hold.below bV2), fun _ _ e => e⟩
    have kD2 : V2.heap[D]? = some (.deferred (some [])) := (bV2.block D hDl).trans HK.out
    rw [hV2]
    have HT2 := Lib.hid (told_any F (n - 1) hF hro g2 lb2 d (by omega) (fun j => P j ∨ j = W2.heap.size) (Firsts z2) (Sq.Next z2) W2.heap.size V2 (fun j hj => hj.elim (fun hj => HC.out.hold kV2.1 j hj) (fun e => by subst e; exact ⟨_, _, q0⟩)) (.inr rfl) eg2 q0 ((HE2.out.later kV2.1).less (fun _ => .inl)))
    obtain ⟨I2, hI2⟩ : ∃ I : Own → List Int → World → Prop, I = fun (O : Own) (pre : List Int) A => (((J (fun j => O j ∨ X2 j) (xs ++ pre) A ∧ Row A W.heap.size 43 #[.func (.func 40) #[] #[a1, a2]] ∧ ¬ O W.heap.size) ∧ KeepO P W O A) ∧ KeepO (fun j => j = W2.heap.size) V2 O A) ∧ A.heap[D]? = some (.deferred (some [])) ∧ ¬ O D := ⟨_, rfl⟩
    obtain ⟨Ix2, hIx2⟩ : ∃ Ix : Code → Own → List Int → World → Prop, Ix = fun c (O : Own) (pre : List Int) A => (c = .ret ∧ ((xs ++ pre) <+: xs ++ z2 ∧ Jx (fun j => O j ∨ X2 j) (xs ++ pre) A) ∧ A.heap[D]? = some (.deferred (some [])) ∧ ¬ O D) := ⟨_, rfl⟩
    have HIE2 : Hid (∀ O pre A, I2 O pre A ↔ (((J (fun j => O j ∨ X2 j) (xs ++ pre) A ∧ Row A W.heap.size 43 #[.func (.func 40) #[] #[a1, a2]] ∧ ¬ O W.heap.size) ∧ KeepO P W O A) ∧ KeepO (fun j => j = W2.heap.size) V2 O A) ∧ A.heap[D]? = some (.deferred (some [])) ∧ ¬ O D) := Lib.hid (fun O pre A => by rw [hI2])
    have HXE2 : Hid (∀ c O pre A, Ix2 c O pre A ↔ (c = .ret ∧ ((xs ++ pre) <+: xs ++ z2 ∧ Jx (fun j => O j ∨ X2 j) (xs ++ pre) A) ∧ A.heap[D]? = some (.deferred (some [])) ∧ ¬ O D)) := Lib.hid (fun c O pre A => by rw [hIx2])
    have HS2 : Hid (Stb V2.heap.size I2) := Lib.hid (by
      rw [hI2]; exact (((((((HJ.out.base X2).at (fun pre : List Int => xs ++ pre)).row W.heap.size 43 (fun _ => #[.func (.func 40) #[] #[a1, a2]])).keep HC.out).keep (P := fun j => j = W2.heap.size) (w := V2) (fun j e => by subst e; exact ⟨_, _, q0⟩))).mono (B' := V2.heap.size) (by omega)).obj D _ (by omega))
    have HSX2 : Hid (∀ c : Code, Stb V2.heap.size (Ix2 c)) := Lib.hid (fun c => by
      rw [hIx2]; exact ((((((HJX.out.base X2).at (fun pre : List Int => xs ++ pre)).pure (fun pre => (xs ++ pre) <+: xs ++ z2))).mono (B' := V2.heap.size) (by omega)).obj D _ (by omega)).pure (fun _ => c = .ret))
    have I02 : Hid (I2 (fun _ => False) [] V2) := Lib.hid (by
      rw [hI2]; exact ⟨⟨⟨⟨jV2, y2, id⟩, kV2⟩, ⟨Hold.refl _ _, fun _ _ e => e⟩⟩, kD2, id⟩)
    clear hI2 hIx2 hV2 q0 jV2 kV2 hX2 y2 kD2
    refine wpIn_rangeTel (d := d + 2) hro h1 (gf := 39) (lb := #[.pointer (some ⟨W2.heap.size, 0, none⟩)]) rfl (hF _) (enters_of Try.func39 (by kernel_rfl) rfl) HT2.out (Hold.refl _ _) (fun _ => rfl)
      I2 Ix2 (HS2.out.mono (by omega)) (fun c => (HSX2.out c).mono (by omega)) I02.out ?round2 ?done2 ?stop2
    case round2 =>
      intro l2 O pre x X0 hl hI hnx hsz
      rw [put1]
      simp only [List.setIfInBounds_toArray, List.set_cons_succ, List.set_cons_zero]
      gi_wp2
      refine ⟨(KeepsOthers.refl _).from _, Kq.refl _ _ _ _, fun o o' ho hlo => ?_⟩
      have hs1 : V2.heap.size + 2 ≤ (X0.putObj l2 o').heap.size := by simpa using hsz
      have HI := Lib.hid ((HIE2.out _ _ _).1 (HS2.out.put o' hI (by omega) hlo ho))
      clear hI hlo hsz
      generalize X0.putObj l2 o' = Z at HI hs1 ⊢
      have y1 := HI.out.1.1.1.2.1
      have x1 : Z.cell? ⟨W.heap.size, 0, none⟩ = some (.func (.func 40) #[] #[a1, a2]) := (y1.cell 0).trans rfl
      have HNT : Hid (Sq.Next (xs ++ z2) (xs ++ pre) x) := Lib.hid (by
        obtain ⟨t, ht⟩ := (show pre ++ [x] <+: z2 from hnx); exact ⟨t, by rw [← ht]; simp⟩)
      have j2 := HI.out.1.1.1.1
      have hC := HY.out _ (xs ++ pre) x _ j2 HNT.out (by omega)
      rw [show n - (d + 4) = n - 1 - (d + 2) - 1 by omega] at hC
      gi_wp2
      refine ⟨fun _ => by omega, (show CallsIn (F.inRound l2) (n - 1 - (d + 2) - 1) Try.prog 40 _ _ _ from hC).mono ?_⟩
      rintro e W3 ⟨hk3, ⟨rfl, hj3⟩ | ⟨rfl, hj3⟩⟩
      · have y3 : Row W3 W.heap.size 43 #[.func (.func 40) #[] #[a1, a2]] := hk3.row (.inl (.inr hXy2)) y1
        have kpF : Kq (fun j => P j ∨ j = W2.heap.size) O (V2.heap.size + 2) Z W3 := hk3.less (by omega) (fun k e => e.elim (fun e => .inl (.inl e)) (fun e => e.elim .inr (fun e => .inl (.inr (by rw [e]; exact hXs2)))))
        have kfF : KeepsFrom V2.heap.size Z W3 := (hk3.less (P' := fun _ => False) (O' := fun _ => False) (b' := V2.heap.size) (by omega) (fun k e => e.elim False.elim False.elim)).1
        gi_wp2
        refine ⟨kfF, kpF, (HIE2.out _ _ _).2 ⟨⟨⟨⟨by simpa using hj3, y3, HI.out.1.1.1.2.2⟩, HI.out.1.1.2.1.kq (hk3.less (O' := fun _ => False) (P' := P) (Nat.le_refl _) (fun k e => e.elim False.elim .inr)), HI.out.1.1.2.2⟩, HI.out.1.2.1.kq (hk3.less (O' := fun _ => False) (P' := fun j => j = W2.heap.size) (Nat.le_refl _) (fun k e => e.elim False.elim (fun e => .inl (.inr (by rw [e]; exact hXs2))))), HI.out.1.2.2⟩, hk3.1.same D _ (by omega) HI.out.2.1 rfl, HI.out.2.2⟩⟩
      · have kpF : Kq (fun j => P j ∨ j = W2.heap.size) O (V2.heap.size + 2) Z W3 := hk3.less (by omega) (fun k e => e.elim (fun e => .inl (.inl e)) (fun e => e.elim .inr (fun e => .inl (.inr (by rw [e]; exact hXs2)))))
        have kfF : KeepsFrom V2.heap.size Z W3 := (hk3.less (P' := fun _ => False) (O' := fun _ => False) (b' := V2.heap.size) (by omega) (fun k e => e.elim False.elim False.elim)).1
        gi_wp2
        exact ⟨kfF, kpF, (HXE2.out _ _ _ _).2 ⟨rfl, ⟨⟨by have h := HNT.out; unfold Sq.Next at h; simpa using h, by simpa using hj3⟩, hk3.1.same D _ (by omega) HI.out.2.1 rfl, HI.out.2.2⟩⟩⟩
    case done2 =>
      intro D3 O xs3 W3 hD3 hO3 hS hI hK
      have e : xs3 = z2 := hS
      subst e
      have hI := (HIE2.out _ _ _).1 hI
      have hne : D ≠ D3 := by omega
      have hK4 : (W3.putObj D3 (.deferred none)).heap[D]? = some (.deferred (some [])) := (World.putObj_heap_other hne).trans hI.2.1
      refine ⟨by simp, .inl ⟨_, _, rfl, run_takeDeferred hK, ?_⟩⟩
      refine ⟨by simp, .inl ⟨_, _, rfl, run_takeDeferred hK4, ?_⟩⟩
      exact ⟨_, results_none rfl _ _ _, ⟨_, rfl⟩, _, _, .inl ⟨rfl, HJ.out.put _ (HJ.out.put _ hI.1.1.1.1 (by omega) hK rfl) (by omega) hK4 rfl⟩⟩
    case stop2 =>
      intro D3 c O pre W3 hD3 hO3 hS hI hK
      obtain ⟨rfl, ⟨hp, hj⟩, hK1, _⟩ := (HXE2.out _ _ _ _).1 hI
      have hne : D ≠ D3 := by omega
      have hK4 : (W3.putObj D3 (.deferred none)).heap[D]? = some (.deferred (some [])) := (World.putObj_heap_other hne).trans hK1
      refine wpIn_ret ?_
      refine ⟨by simp, .inl ⟨_, _, rfl, run_takeDeferred hK, ?_⟩⟩
      refine ⟨by simp, .inl ⟨_, _, rfl, run_takeDeferred hK4, ?_⟩⟩
      exact ⟨_, results_none rfl _ _ _, ⟨_, rfl⟩, _, _, .inr ⟨hp, HJX.out.put _ (HJX.out.put _ hj (by omega) hK rfl) (by omega) hK4 rfl⟩⟩
end Go.Proofs.Ytkklceblojcbkaa.Sr
