/- Take of any iterator (written by gen_srt). -/
import Derived.Test.YtkklceblojcbkaaSrB
namespace Go.Proofs.Ytkklceblojcbkaa.Sr
open Go.RowKit Go.Proofs.Ytkklceblojcbkaa Go.Proofs.Ytkklceblojcbkaa.Sq
set_option linter.unusedVariables false
set_option maxRecDepth 100000
attribute [local go_sem] Oper.semAt_some
set_option maxHeartbeats 1000000 in
theorem take_y (F : Fence) (n : Nat) (hF : ∀ k, F.fn k) (hro : F.round = none) (gs : Nat) (lbs : Array Value) (d : Nat) (hn : d + 6 ≤ n) (P : Own) (Bk Bs : Nat) (k : Int) (zs : List Int) (w : World) (hz : zs.length ≤ 1000000) (hPc : Cells P w) (hPk : P Bk) (hPs : P Bs)
    (eg : ∀ args w, (callFunc gs args).run Try.prog w = .ok (.enter gs args) w) (hk : Row w Bk 3 #[.int .i64 k]) (hs : Row w Bs 26 #[.func (.func gs) #[] lbs]) (hE : Ear d F (n - 2) gs lbs P (Firsts zs) (Sq.Next zs) w) :
    Tel (d + 4) F n Try.prog 25 #[.pointer (some ⟨Bk, 0, none⟩), .pointer (some ⟨Bs, 0, none⟩)] enc P (Firsts (zs.take k.toNat)) (Sq.Next (zs.take k.toNat)) w := fun l J Jx O0 W hW hJ hJx hY h0 => by
  have h1 : 1 ≤ n := by omega
  have hPl : ∀ k, P k → k < W.heap.size := fun k hk => (hPc.hold hW).lt hk
  have rk : Row W Bk 3 #[.int .i64 k] := hW.row hPk hk
  have lk : Bk < W.heap.size := rk.lt
  have ck : W.cell? ⟨Bk, 0, none⟩ = some (.int .i64 k) := (rk.cell 0).trans rfl
  have rs : Row W Bs 26 #[.func (.func gs) #[] lbs] := hW.row hPs hs
  have ls : Bs < W.heap.size := rs.lt
  have cs : W.cell? ⟨Bs, 0, none⟩ = some (.func (.func gs) #[] lbs) := (rs.cell 0).trans rfl
  have HJ := Lib.hid hJ
  have HJX := Lib.hid hJx
  have HY := Lib.hid hY
  have H0 := Lib.hid h0
  have HE := Lib.hid (hE.later hW)
  have HC := Lib.hid (hPc.hold hW)
  have HRK := Lib.hid rk
  clear hW hk hs hJ hJx hY h0 rk rs hE hPc
  refine callsIn_of_wp_marks Try.func25 rfl (hF _) ?_ hro
  simp only [Try.ntmps25, List.size_toArray, List.length_cons, List.length_nil, Nat.reduceAdd, Nat.reduceSub, Array.replicate_succ, Array.replicate_zero, List.push_toArray, List.append_toArray, List.nil_append, List.cons_append]
  by_cases hk0 : k ≤ 0
  · gi_wp2
    exact ⟨_, results_none rfl _ _ _, ⟨_, rfl⟩, O0, [], .inl ⟨by show [] = _; rw [Int.toNat_of_nonpos hk0]; rfl, HJ.out.grow H0.out ((Below.refl _ W).alloc (Nat.le_refl _) _)⟩⟩
  have hk2 : 0 < k := by omega
  gi_wp2_with (gi_at_call 26; refine (told_in F (n - 1) (hF _) hro _ ⟨_, _, _, .inl rfl⟩ _).mono ?_; rintro e w' ⟨rfl, rfl⟩)
  obtain ⟨V, hV⟩ : ∃ V, ((W.alloc (.cells #[.func (.yield l) #[] #[]] 43)).alloc (.cells #[.int .i64 0] 3)).alloc (.cells #[.func (.func gs) #[] lbs] 26) = V := ⟨_, rfl⟩
  have bV : Below W.heap.size W V := by rw [← hV]; exact (((Below.refl _ W).alloc (Nat.le_refl _) _).alloc (by simp) _).alloc (by simp; omega) _
  have zV : V.heap.size = W.heap.size + 3 := by rw [← hV]; simp
  have r0 : Row V W.heap.size 43 #[.func (.yield l) #[] #[]] := by
    rw [← hV]; have := ((Row.made W 43 #[.func (.yield l) #[] #[]]).alloc (.cells #[.int .i64 0] 3)).alloc (.cells #[.func (.func gs) #[] lbs] 26)
    exact this
  have r1 : Row V (W.heap.size + 1) 3 #[.int .i64 0] := by
    rw [← hV]; have := (Row.made (W.alloc (.cells #[.func (.yield l) #[] #[]] 43)) 3 #[.int .i64 0]).alloc (.cells #[.func (.func gs) #[] lbs] 26)
    rwa [World.size_alloc] at this
  have r2 : Row V (W.heap.size + 2) 26 #[.func (.func gs) #[] lbs] := by
    rw [← hV]; have := Row.made ((W.alloc (.cells #[.func (.yield l) #[] #[]] 43)).alloc (.cells #[.int .i64 0] 3)) 26 #[.func (.func gs) #[] lbs]
    rwa [World.size_alloc, World.size_alloc] at this
  obtain ⟨X, hX⟩ : ∃ X : Own, X = fun j => j = W.heap.size ∨ j = W.heap.size + 1 ∨ j = W.heap.size + 2 := ⟨_, rfl⟩
  have hb : ∀ O : Own, (O W.heap.size → False) → O (W.heap.size + 1) → True := fun _ _ _ => trivial
  have jV : J (fun j => (fun _ => False) j ∨ X j) [] V := by
    rw [← hV, hX]
    refine HJ.out.sub _ _ _ _ ?_ (HJ.out.alloc _ _ _ _ (HJ.out.alloc _ _ _ _ (HJ.out.alloc _ _ _ _ H0.out)))
    rintro j (e | e | e | e)
    · exact e.elim
    · exact .inl (.inl (.inr e))
    · exact .inl (.inr (by simpa using e))
    · exact .inr (by simpa using e)
  have hXc : X (W.heap.size + 1) := by rw [hX]; exact .inr (.inl rfl)
  have hXs : X (W.heap.size + 2) := by rw [hX]; exact .inr (.inr rfl)
  have hXy : X W.heap.size := by rw [hX]; exact .inl rfl
  have hPnc : ¬ P (W.heap.size + 1) := fun e => by have := hPl _ e; omega
  have kV : KeepO P W (fun _ => False) V := ⟨Hold.below bV, fun _ _ e => e⟩
  rw [hV]
  have HT := Lib.hid (told_any F (n - 1) hF hro gs lbs d (by omega) (fun j => P j ∨ j = W.heap.size + 2) (Firsts zs) (Sq.Next zs) (W.heap.size + 2) V (fun j hj => hj.elim (fun hj => HC.out.hold (Hold.below bV) j hj) (fun e => by subst e; exact ⟨_, _, r2⟩)) (.inr rfl) eg r2 ((HE.out.later (Hold.below bV)).less (fun _ => .inl)))
  obtain ⟨I, hI⟩ : ∃ I : Own → List Int → World → Prop, I = fun (O : Own) (pre : List Int) A => (pre.length : Int) < k ∧ (((J (fun j => O j ∨ X j) pre A ∧ Row A W.heap.size 43 #[.func (.yield l) #[] #[]] ∧ ¬ O W.heap.size) ∧ Row A (W.heap.size + 1) 3 #[.int .i64 pre.length] ∧ ¬ O (W.heap.size + 1)) ∧ KeepO P W O A) ∧ KeepO (fun j => j = W.heap.size + 2) V O A := ⟨_, rfl⟩
  obtain ⟨Ix, hIx⟩ : ∃ Ix : Code → Own → List Int → World → Prop, Ix = fun c (O : Own) (pre : List Int) A => c = .ret ∧ ((pre = zs.take k.toNat ∧ J (fun j => O j ∨ X j) pre A) ∨ (pre <+: zs.take k.toNat ∧ Jx (fun j => O j ∨ X j) pre A)) := ⟨_, rfl⟩
  have HIE : Hid (∀ O pre A, I O pre A ↔ ((pre.length : Int) < k ∧ (((J (fun j => O j ∨ X j) pre A ∧ Row A W.heap.size 43 #[.func (.yield l) #[] #[]] ∧ ¬ O W.heap.size) ∧ Row A (W.heap.size + 1) 3 #[.int .i64 pre.length] ∧ ¬ O (W.heap.size + 1)) ∧ KeepO P W O A) ∧ KeepO (fun j => j = W.heap.size + 2) V O A)) := Lib.hid (fun O pre A => by rw [hI])
  have HXE : Hid (∀ c O pre A, Ix c O pre A ↔ (c = .ret ∧ ((pre = zs.take k.toNat ∧ J (fun j => O j ∨ X j) pre A) ∨ (pre <+: zs.take k.toNat ∧ Jx (fun j => O j ∨ X j) pre A)))) := Lib.hid (fun c O pre A => by rw [hIx])
  have HS : Hid (Stb W.heap.size I) := Lib.hid (by
    rw [hI]; exact (((((HJ.out.base X).row W.heap.size 43 (fun _ => #[.func (.yield l) #[] #[]])).row (W.heap.size + 1) 3 (fun pre => #[.int .i64 pre.length])).keep HC.out).keep (P := fun j => j = W.heap.size + 2) (w := V) (fun j e => by subst e; exact ⟨_, _, r2⟩)).pure (fun pre => (pre.length : Int) < k))
  have HSX : Hid (∀ c : Code, Stb W.heap.size (Ix c)) := Lib.hid (fun c => by
    rw [hIx]; exact (((HJ.out.base X).pure (fun pre => pre = zs.take k.toNat)).or ((HJX.out.base X).pure (fun pre => pre <+: zs.take k.toNat))).pure (fun _ => c = .ret))
  have I0 : Hid (I (fun _ => False) [] V) := Lib.hid (by
    rw [hI]; exact ⟨hk2, ⟨⟨⟨jV, r0, id⟩, r1, id⟩, kV⟩, ⟨Hold.refl _ _, fun _ _ e => e⟩⟩)
  clear hI hIx
  clear hV r0 r1 r2 jV kV hb hX
  refine wpIn_rangeTel (d := d + 2) hro h1 (gf := 39) (lb := #[.pointer (some ⟨W.heap.size + 2, 0, none⟩)]) rfl (hF _) (enters_of Try.func39 (by kernel_rfl) rfl) HT.out (Hold.refl _ _) (fun _ => rfl)
    I Ix (HS.out.mono (by omega)) (fun c => (HSX.out c).mono (by omega)) I0.out ?round ?done ?stop
  case round =>
    intro l2 O pre x X0 hl hI hnx hsz
    have hpl : pre.length + 1 ≤ zs.length := by simpa using List.IsPrefix.length_le hnx
    rw [put1]
    simp only [List.setIfInBounds_toArray, List.set_cons_succ, List.set_cons_zero]
    gi_wp2
    refine ⟨(KeepsOthers.refl _).from _, Kq.refl _ _ _ _, fun o o' ho hlo => ?_⟩
    have hs1 : V.heap.size + 2 ≤ (X0.putObj l2 o').heap.size := by simpa using hsz
    have HI := Lib.hid ((HIE.out _ _ _).1 (HS.out.put o' hI (by omega) hlo ho))
    clear hI hlo hsz
    generalize X0.putObj l2 o' = Z at HI hs1 ⊢
    have hlt := HI.out.1
    have c1 := HI.out.2.1.1.2.1
    have y1 := HI.out.2.1.1.1.2.1
    have k1 : Row Z Bk 3 #[.int .i64 k] := HI.out.2.1.2.1.row hPk HRK.out
    have x0 : Z.cell? ⟨W.heap.size + 1, 0, none⟩ = some (.int .i64 pre.length) := (c1.cell 0).trans rfl
    have f0 : Z.frozen? ⟨W.heap.size + 1, 0, none⟩ = false := frozen_of_row _ _ _ _ _ c1
    have x1 : Z.cell? ⟨W.heap.size, 0, none⟩ = some (.func (.yield l) #[] #[]) := (y1.cell 0).trans rfl
    have hnt : Sq.Next (zs.take k.toNat) pre x := by
      have h1 : pre ++ [x] <+: zs := hnx
      exact List.prefix_take_iff.2 ⟨h1, by simp; omega⟩
    have j2 : J (fun j => O j ∨ X j) pre (Z.setCell ⟨W.heap.size + 1, 0, none⟩ (.int .i64 ((pre.length : Int) + 1))) := HJ.out.set _ _ _ _ _ HI.out.2.1.1.1.1 (.inr hXc)
    have c2 := Row.put c1 0 (.int .i64 ((pre.length : Int) + 1))
    have y2 := Row.past y1 (p := ⟨W.heap.size + 1, 0, none⟩) (by simp) (.int .i64 ((pre.length : Int) + 1))
    have k2 := Row.past k1 (p := ⟨W.heap.size + 1, 0, none⟩) (by simp; omega) (.int .i64 ((pre.length : Int) + 1))
    have hnP : ¬ (O (W.heap.size + 1) ∨ (P (W.heap.size + 1) ∨ W.heap.size + 1 = W.heap.size + 2)) := fun e => e.elim HI.out.2.1.1.2.2 (fun e => e.elim hPnc (fun e => by omega))
    have HP2 := Lib.hid (kq_set (B := V.heap.size + 2) (O := O) (P := fun j => P j ∨ j = W.heap.size + 2) Z hnP 0 (.int .i64 ((pre.length : Int) + 1)))
    have HH2 := Lib.hid (⟨HI.out.2.1.2.1.set hPnc 0 (.int .i64 ((pre.length : Int) + 1)), HI.out.2.1.2.2⟩ : KeepO P W O _)
    have HH3 := Lib.hid (⟨HI.out.2.2.1.set (fun (e : W.heap.size + 1 = W.heap.size + 2) => by omega) 0 (.int .i64 ((pre.length : Int) + 1)), HI.out.2.2.2⟩ : KeepO (fun j => j = W.heap.size + 2) V O _)
    have hlt2 : (pre ++ [x]).length ≤ k.toNat := by simp; omega
    obtain ⟨fn, tmps, assign, body, hy, hR⟩ := HY.out _ (pre) x _ j2 hnt (by simp; omega)
    unfold enc at hy
    rw [show n - (d + 4) = n - 1 - (d + 2) - 1 by omega] at hR
    gi_wp2
    refine ⟨fun _ => by omega, (show RoundIn (F.inRound l2) (n - 1 - (d + 2) - 1) Try.prog l fn tmps assign body _ _ from hR).mono ?_⟩
    rintro e W3 ⟨hk3, ⟨rfl, hj3⟩ | ⟨rfl, hj3⟩⟩
    · have c3 : Row W3 (W.heap.size + 1) 3 #[.int .i64 ((pre.length : Int) + 1)] := hk3.row (.inl (.inr hXc)) c2
      have y3 : Row W3 W.heap.size 43 #[.func (.yield l) #[] #[]] := hk3.row (.inl (.inr hXy)) y2
      have k3 : Row W3 Bk 3 #[.int .i64 k] := hk3.row (.inr hPk) k2
      have x3 : W3.cell? ⟨W.heap.size + 1, 0, none⟩ = some (.int .i64 ((pre.length : Int) + 1)) := (c3.cell 0).trans rfl
      have x4 : W3.cell? ⟨Bk, 0, none⟩ = some (.int .i64 k) := (k3.cell 0).trans rfl
      have kpF : Kq (fun j => P j ∨ j = W.heap.size + 2) O (V.heap.size + 2) Z W3 := HP2.out.trans (hk3.less (by omega) (fun k e => e.elim (fun e => .inl (.inl e)) (fun e => e.elim .inr (fun e => .inl (.inr (by rw [e]; exact hXs))))))
      have kfF : KeepsFrom V.heap.size Z W3 := ((KeepsOthers.setCell Z ⟨W.heap.size + 1, 0, none⟩ (.int .i64 ((pre.length : Int) + 1))).from V.heap.size).trans (hk3.less (P' := fun _ => False) (O' := fun _ => False) (b' := V.heap.size) (by omega) (fun k e => e.elim False.elim False.elim)).1
      by_cases he : (pre.length : Int) + 1 = k
      · gi_wp2
        refine ⟨kfF, kpF, (HXE.out _ _ _ _).2 ⟨rfl, .inl ⟨?_, hj3⟩⟩⟩
        have h1 : pre ++ [x] <+: zs.take k.toNat := hnt
        refine h1.eq_of_length ?_
        have h2 := h1.length_le
        simp at h2 ⊢
        omega
      · gi_wp2
        refine ⟨kfF, kpF, (HIE.out _ _ _).2 ⟨by simp; omega, ⟨⟨⟨hj3, y3, HI.out.2.1.1.1.2.2⟩, by simpa using c3, HI.out.2.1.1.2.2⟩, HH2.out.1.kq (hk3.less (O' := fun _ => False) (P' := P) (Nat.le_refl _) (fun k e => e.elim False.elim .inr)), HH2.out.2⟩, HH3.out.1.kq (hk3.less (O' := fun _ => False) (P' := fun j => j = W.heap.size + 2) (Nat.le_refl _) (fun k e => e.elim False.elim (fun e => .inl (.inr (by rw [e]; exact hXs))))), HH3.out.2⟩⟩
    · have kpF : Kq (fun j => P j ∨ j = W.heap.size + 2) O (V.heap.size + 2) Z W3 := HP2.out.trans (hk3.less (by omega) (fun k e => e.elim (fun e => .inl (.inl e)) (fun e => e.elim .inr (fun e => .inl (.inr (by rw [e]; exact hXs))))))
      have kfF : KeepsFrom V.heap.size Z W3 := ((KeepsOthers.setCell Z ⟨W.heap.size + 1, 0, none⟩ (.int .i64 ((pre.length : Int) + 1))).from V.heap.size).trans (hk3.less (P' := fun _ => False) (O' := fun _ => False) (b' := V.heap.size) (by omega) (fun k e => e.elim False.elim False.elim)).1
      gi_wp2
      exact ⟨kfF, kpF, (HXE.out _ _ _ _).2 ⟨rfl, .inr ⟨hnt, hj3⟩⟩⟩
  case done =>
    intro D O xs W2 hD hO hS hI hK
    have e : xs = zs := hS
    subst e
    have hI := (HIE.out _ _ _).1 hI
    have e2 : xs.take k.toNat = xs := List.take_of_length_le (by have := hI.1; omega)
    refine ⟨by simp, .inl ⟨_, _, rfl, run_takeDeferred hK, ?_⟩⟩
    exact ⟨_, results_none rfl _ _ _, ⟨_, rfl⟩, _, xs, .inl ⟨e2.symm, HJ.out.put _ hI.2.1.1.1.1 (by omega) hK rfl⟩⟩
  case stop =>
    intro D c O pre W2 hD hO hS hI hK
    obtain ⟨rfl, hI2⟩ := (HXE.out _ _ _ _).1 hI
    refine wpIn_ret ?_
    refine ⟨by simp, .inl ⟨_, _, rfl, run_takeDeferred hK, ?_⟩⟩
    rcases hI2 with ⟨e, hj⟩ | ⟨e, hj⟩
    · exact ⟨_, results_none rfl _ _ _, ⟨_, rfl⟩, _, pre, .inl ⟨e, HJ.out.put _ hj (by omega) hK rfl⟩⟩
    · exact ⟨_, results_none rfl _ _ _, ⟨_, rfl⟩, _, pre, .inr ⟨e, HJX.out.put _ hj (by omega) hK rfl⟩⟩
set_option maxHeartbeats 1000000 in
theorem take_e (F : Fence) (n : Nat) (hF : ∀ k, F.fn k) (hro : F.round = none) (gs : Nat) (lbs : Array Value) (d : Nat) (hn : d + 6 ≤ n) (P : Own) (Bk Bs : Nat) (k : Int) (zs : List Int) (w : World) (hz : zs.length ≤ 1000000) (hPc : Cells P w) (hPk : P Bk) (hPs : P Bs)
    (eg : ∀ args w, (callFunc gs args).run Try.prog w = .ok (.enter gs args) w) (hk : Row w Bk 3 #[.int .i64 k]) (hs : Row w Bs 26 #[.func (.func gs) #[] lbs]) (hE : Ear d F (n - 2) gs lbs P (Firsts zs) (Sq.Next zs) w) :
    Ear (d + 4) F n 25 #[.pointer (some ⟨Bk, 0, none⟩), .pointer (some ⟨Bs, 0, none⟩)] P (Firsts (zs.take k.toNat)) (Sq.Next (zs.take k.toNat)) w := fun a1 a2 J Jx O0 W hW hJ hJx hY h0 => by
  have h1 : 1 ≤ n := by omega
  have hPl : ∀ k, P k → k < W.heap.size := fun k hk => (hPc.hold hW).lt hk
  have rk : Row W Bk 3 #[.int .i64 k] := hW.row hPk hk
  have lk : Bk < W.heap.size := rk.lt
  have ck : W.cell? ⟨Bk, 0, none⟩ = some (.int .i64 k) := (rk.cell 0).trans rfl
  have rs : Row W Bs 26 #[.func (.func gs) #[] lbs] := hW.row hPs hs
  have ls : Bs < W.heap.size := rs.lt
  have cs : W.cell? ⟨Bs, 0, none⟩ = some (.func (.func gs) #[] lbs) := (rs.cell 0).trans rfl
  have HJ := Lib.hid hJ
  have HJX := Lib.hid hJx
  have HY := Lib.hid hY
  have H0 := Lib.hid h0
  have HE := Lib.hid (hE.later hW)
  have HC := Lib.hid (hPc.hold hW)
  have HRK := Lib.hid rk
  clear hW hk hs hJ hJx hY h0 rk rs hE hPc
  refine callsIn_of_wp_marks Try.func25 rfl (hF _) ?_ hro
  simp only [Try.ntmps25, List.size_toArray, List.length_cons, List.length_nil, Nat.reduceAdd, Nat.reduceSub, Array.replicate_succ, Array.replicate_zero, List.push_toArray, List.append_toArray, List.nil_append, List.cons_append]
  by_cases hk0 : k ≤ 0
  · gi_wp2
    exact ⟨_, results_none rfl _ _ _, ⟨_, rfl⟩, O0, [], .inl ⟨by show [] = _; rw [Int.toNat_of_nonpos hk0]; rfl, HJ.out.grow H0.out ((Below.refl _ W).alloc (Nat.le_refl _) _)⟩⟩
  have hk2 : 0 < k := by omega
  gi_wp2_with (gi_at_call 26; refine (told_in F (n - 1) (hF _) hro _ ⟨_, _, _, .inl rfl⟩ _).mono ?_; rintro e w' ⟨rfl, rfl⟩)
  obtain ⟨V, hV⟩ : ∃ V, ((W.alloc (.cells #[.func (.func 40) #[] #[a1, a2]] 43)).alloc (.cells #[.int .i64 0] 3)).alloc (.cells #[.func (.func gs) #[] lbs] 26) = V := ⟨_, rfl⟩
  have bV : Below W.heap.size W V := by rw [← hV]; exact (((Below.refl _ W).alloc (Nat.le_refl _) _).alloc (by simp) _).alloc (by simp; omega) _
  have zV : V.heap.size = W.heap.size + 3 := by rw [← hV]; simp
  have r0 : Row V W.heap.size 43 #[.func (.func 40) #[] #[a1, a2]] := by
    rw [← hV]; have := ((Row.made W 43 #[.func (.func 40) #[] #[a1, a2]]).alloc (.cells #[.int .i64 0] 3)).alloc (.cells #[.func (.func gs) #[] lbs] 26)
    exact this
  have r1 : Row V (W.heap.size + 1) 3 #[.int .i64 0] := by
    rw [← hV]; have := (Row.made (W.alloc (.cells #[.func (.func 40) #[] #[a1, a2]] 43)) 3 #[.int .i64 0]).alloc (.cells #[.func (.func gs) #[] lbs] 26)
    rwa [World.size_alloc] at this
  have r2 : Row V (W.heap.size + 2) 26 #[.func (.func gs) #[] lbs] := by
    rw [← hV]; have := Row.made ((W.alloc (.cells #[.func (.func 40) #[] #[a1, a2]] 43)).alloc (.cells #[.int .i64 0] 3)) 26 #[.func (.func gs) #[] lbs]
    rwa [World.size_alloc, World.size_alloc] at this
  obtain ⟨X, hX⟩ : ∃ X : Own, X = fun j => j = W.heap.size ∨ j = W.heap.size + 1 ∨ j = W.heap.size + 2 := ⟨_, rfl⟩
  have hb : ∀ O : Own, (O W.heap.size → False) → O (W.heap.size + 1) → True := fun _ _ _ => trivial
  have jV : J (fun j => (fun _ => False) j ∨ X j) [] V := by
    rw [← hV, hX]
    refine HJ.out.sub _ _ _ _ ?_ (HJ.out.alloc _ _ _ _ (HJ.out.alloc _ _ _ _ (HJ.out.alloc _ _ _ _ H0.out)))
    rintro j (e | e | e | e)
    · exact e.elim
    · exact .inl (.inl (.inr e))
    · exact .inl (.inr (by simpa using e))
    · exact .inr (by simpa using e)
  have hXc : X (W.heap.size + 1) := by rw [hX]; exact .inr (.inl rfl)
  have hXs : X (W.heap.size + 2) := by rw [hX]; exact .inr (.inr rfl)
  have hXy : X W.heap.size := by rw [hX]; exact .inl rfl
  have hPnc : ¬ P (W.heap.size + 1) := fun e => by have := hPl _ e; omega
  have kV : KeepO P W (fun _ => False) V := ⟨Hold.below bV, fun _ _ e => e⟩
  rw [hV]
  have HT := Lib.hid (told_any F (n - 1) hF hro gs lbs d (by omega) (fun j => P j ∨ j = W.heap.size + 2) (Firsts zs) (Sq.Next zs) (W.heap.size + 2) V (fun j hj => hj.elim (fun hj => HC.out.hold (Hold.below bV) j hj) (fun e => by subst e; exact ⟨_, _, r2⟩)) (.inr rfl) eg r2 ((HE.out.later (Hold.below bV)).less (fun _ => .inl)))
  obtain ⟨I, hI⟩ : ∃ I : Own → List Int → World → Prop, I = fun (O : Own) (pre : List Int) A => (pre.length : Int) < k ∧ (((J (fun j => O j ∨ X j) pre A ∧ Row A W.heap.size 43 #[.func (.func 40) #[] #[a1, a2]] ∧ ¬ O W.heap.size) ∧ Row A (W.heap.size + 1) 3 #[.int .i64 pre.length] ∧ ¬ O (W.heap.size + 1)) ∧ KeepO P W O A) ∧ KeepO (fun j => j = W.heap.size + 2) V O A := ⟨_, rfl⟩
  obtain ⟨Ix, hIx⟩ : ∃ Ix : Code → Own → List Int → World → Prop, Ix = fun c (O : Own) (pre : List Int) A => c = .ret ∧ ((pre = zs.take k.toNat ∧ J (fun j => O j ∨ X j) pre A) ∨ (pre <+: zs.take k.toNat ∧ Jx (fun j => O j ∨ X j) pre A)) := ⟨_, rfl⟩
  have HIE : Hid (∀ O pre A, I O pre A ↔ ((pre.length : Int) < k ∧ (((J (fun j => O j ∨ X j) pre A ∧ Row A W.heap.size 43 #[.func (.func 40) #[] #[a1, a2]] ∧ ¬ O W.heap.size) ∧ Row A (W.heap.size + 1) 3 #[.int .i64 pre.length] ∧ ¬ O (W.heap.size + 1)) ∧ KeepO P W O A) ∧ KeepO (fun j => j = W.heap.size + 2) V O A)) := Lib.hid (fun O pre A => by rw [hI])
  have HXE : Hid (∀ c O pre A, Ix c O pre A ↔ (c = .ret ∧ ((pre = zs.take k.toNat ∧ J (fun j => O j ∨ X j) pre A) ∨ (pre <+: zs.take k.toNat ∧ Jx (fun j => O j ∨ X j) pre A)))) := Lib.hid (fun c O pre A => by rw [hIx])
  have HS : Hid (Stb W.heap.size I) := Lib.hid (by
    rw [hI]; exact (((((HJ.out.base X).row W.heap.size 43 (fun _ => #[.func (.func 40) #[] #[a1, a2]])).row (W.heap.size + 1) 3 (fun pre => #[.int .i64 pre.length])).keep HC.out).keep (P := fun j => j = W.heap.size + 2) (w := V) (fun j e => by subst e; exact ⟨_, _, r2⟩)).pure (fun pre => (pre.length : Int) < k))
  have HSX : Hid (∀ c : Code, Stb W.heap.size (Ix c)) := Lib.hid (fun c => by
    rw [hIx]; exact (((HJ.out.base X).pure (fun pre => pre = zs.take k.toNat)).or ((HJX.out.base X).pure (fun pre => pre <+: zs.take k.toNat))).pure (fun _ => c = .ret))
  have I0 : Hid (I (fun _ => False) [] V) := Lib.hid (by
    rw [hI]; exact ⟨hk2, ⟨⟨⟨jV, r0, id⟩, r1, id⟩, kV⟩, ⟨Hold.refl _ _, fun _ _ e => e⟩⟩)
  clear hI hIx
  clear hV r0 r1 r2 jV kV hb hX
  refine wpIn_rangeTel (d := d + 2) hro h1 (gf := 39) (lb := #[.pointer (some ⟨W.heap.size + 2, 0, none⟩)]) rfl (hF _) (enters_of Try.func39 (by kernel_rfl) rfl) HT.out (Hold.refl _ _) (fun _ => rfl)
    I Ix (HS.out.mono (by omega)) (fun c => (HSX.out c).mono (by omega)) I0.out ?round ?done ?stop
  case round =>
    intro l2 O pre x X0 hl hI hnx hsz
    have hpl : pre.length + 1 ≤ zs.length := by simpa using List.IsPrefix.length_le hnx
    rw [put1]
    simp only [List.setIfInBounds_toArray, List.set_cons_succ, List.set_cons_zero]
    gi_wp2
    refine ⟨(KeepsOthers.refl _).from _, Kq.refl _ _ _ _, fun o o' ho hlo => ?_⟩
    have hs1 : V.heap.size + 2 ≤ (X0.putObj l2 o').heap.size := by simpa using hsz
    have HI := Lib.hid ((HIE.out _ _ _).1 (HS.out.put o' hI (by omega) hlo ho))
    clear hI hlo hsz
    generalize X0.putObj l2 o' = Z at HI hs1 ⊢
    have hlt := HI.out.1
    have c1 := HI.out.2.1.1.2.1
    have y1 := HI.out.2.1.1.1.2.1
    have k1 : Row Z Bk 3 #[.int .i64 k] := HI.out.2.1.2.1.row hPk HRK.out
    have x0 : Z.cell? ⟨W.heap.size + 1, 0, none⟩ = some (.int .i64 pre.length) := (c1.cell 0).trans rfl
    have f0 : Z.frozen? ⟨W.heap.size + 1, 0, none⟩ = false := frozen_of_row _ _ _ _ _ c1
    have x1 : Z.cell? ⟨W.heap.size, 0, none⟩ = some (.func (.func 40) #[] #[a1, a2]) := (y1.cell 0).trans rfl
    have hnt : Sq.Next (zs.take k.toNat) pre x := by
      have h1 : pre ++ [x] <+: zs := hnx
      exact List.prefix_take_iff.2 ⟨h1, by simp; omega⟩
    have j2 : J (fun j => O j ∨ X j) pre (Z.setCell ⟨W.heap.size + 1, 0, none⟩ (.int .i64 ((pre.length : Int) + 1))) := HJ.out.set _ _ _ _ _ HI.out.2.1.1.1.1 (.inr hXc)
    have c2 := Row.put c1 0 (.int .i64 ((pre.length : Int) + 1))
    have y2 := Row.past y1 (p := ⟨W.heap.size + 1, 0, none⟩) (by simp) (.int .i64 ((pre.length : Int) + 1))
    have k2 := Row.past k1 (p := ⟨W.heap.size + 1, 0, none⟩) (by simp; omega) (.int .i64 ((pre.length : Int) + 1))
    have hnP : ¬ (O (W.heap.size + 1) ∨ (P (W.heap.size + 1) ∨ W.heap.size + 1 = W.heap.size + 2)) := fun e => e.elim HI.out.2.1.1.2.2 (fun e => e.elim hPnc (fun e => by omega))
    have HP2 := Lib.hid (kq_set (B := V.heap.size + 2) (O := O) (P := fun j => P j ∨ j = W.heap.size + 2) Z hnP 0 (.int .i64 ((pre.length : Int) + 1)))
    have HH2 := Lib.hid (⟨HI.out.2.1.2.1.set hPnc 0 (.int .i64 ((pre.length : Int) + 1)), HI.out.2.1.2.2⟩ : KeepO P W O _)
    have HH3 := Lib.hid (⟨HI.out.2.2.1.set (fun (e : W.heap.size + 1 = W.heap.size + 2) => by omega) 0 (.int .i64 ((pre.length : Int) + 1)), HI.out.2.2.2⟩ : KeepO (fun j => j = W.heap.size + 2) V O _)
    have hlt2 : (pre ++ [x]).length ≤ k.toNat := by simp; omega
    have hC := HY.out _ (pre) x _ j2 hnt (by simp; omega)
    rw [show n - (d + 4) = n - 1 - (d + 2) - 1 by omega] at hC
    gi_wp2
    refine ⟨fun _ => by omega, (show CallsIn (F.inRound l2) (n - 1 - (d + 2) - 1) Try.prog 40 _ _ _ from hC).mono ?_⟩
    rintro e W3 ⟨hk3, ⟨rfl, hj3⟩ | ⟨rfl, hj3⟩⟩
    · have c3 : Row W3 (W.heap.size + 1) 3 #[.int .i64 ((pre.length : Int) + 1)] := hk3.row (.inl (.inr hXc)) c2
      have y3 : Row W3 W.heap.size 43 #[.func (.func 40) #[] #[a1, a2]] := hk3.row (.inl (.inr hXy)) y2
      have k3 : Row W3 Bk 3 #[.int .i64 k] := hk3.row (.inr hPk) k2
      have x3 : W3.cell? ⟨W.heap.size + 1, 0, none⟩ = some (.int .i64 ((pre.length : Int) + 1)) := (c3.cell 0).trans rfl
      have x4 : W3.cell? ⟨Bk, 0, none⟩ = some (.int .i64 k) := (k3.cell 0).trans rfl
      have kpF : Kq (fun j => P j ∨ j = W.heap.size + 2) O (V.heap.size + 2) Z W3 := HP2.out.trans (hk3.less (by omega) (fun k e => e.elim (fun e => .inl (.inl e)) (fun e => e.elim .inr (fun e => .inl (.inr (by rw [e]; exact hXs))))))
      have kfF : KeepsFrom V.heap.size Z W3 := ((KeepsOthers.setCell Z ⟨W.heap.size + 1, 0, none⟩ (.int .i64 ((pre.length : Int) + 1))).from V.heap.size).trans (hk3.less (P' := fun _ => False) (O' := fun _ => False) (b' := V.heap.size) (by omega) (fun k e => e.elim False.elim False.elim)).1
      by_cases he : (pre.length : Int) + 1 = k
      · gi_wp2
        refine ⟨kfF, kpF, (HXE.out _ _ _ _).2 ⟨rfl, .inl ⟨?_, hj3⟩⟩⟩
        have h1 : pre ++ [x] <+: zs.take k.toNat := hnt
        refine h1.eq_of_length ?_
        have h2 := h1.length_le
        simp at h2 ⊢
        omega
      · gi_wp2
        refine ⟨kfF, kpF, (HIE.out _ _ _).2 ⟨by simp; omega, ⟨⟨⟨hj3, y3, HI.out.2.1.1.1.2.2⟩, by simpa using c3, HI.out.2.1.1.2.2⟩, HH2.out.1.kq (hk3.less (O' := fun _ => False) (P' := P) (Nat.le_refl _) (fun k e => e.elim False.elim .inr)), HH2.out.2⟩, HH3.out.1.kq (hk3.less (O' := fun _ => False) (P' := fun j => j = W.heap.size + 2) (Nat.le_refl _) (fun k e => e.elim False.elim (fun e => .inl (.inr (by rw [e]; exact hXs))))), HH3.out.2⟩⟩
    · have kpF : Kq (fun j => P j ∨ j = W.heap.size + 2) O (V.heap.size + 2) Z W3 := HP2.out.trans (hk3.less (by omega) (fun k e => e.elim (fun e => .inl (.inl e)) (fun e => e.elim .inr (fun e => .inl (.inr (by rw [e]; exact hXs))))))
      have kfF : KeepsFrom V.heap.size Z W3 := ((KeepsOthers.setCell Z ⟨W.heap.size + 1, 0, none⟩ (.int .i64 ((pre.length : Int) + 1))).from V.heap.size).trans (hk3.less (P' := fun _ => False) (O' := fun _ => False) (b' := V.heap.size) (by omega) (fun k e => e.elim False.elim False.elim)).1
      gi_wp2
      exact ⟨kfF, kpF, (HXE.out _ _ _ _).2 ⟨rfl, .inr ⟨hnt, hj3⟩⟩⟩
  case done =>
    intro D O xs W2 hD hO hS hI hK
    have e : xs = zs := hS
    subst e
    have hI := (HIE.out _ _ _).1 hI
    have e2 : xs.take k.toNat = xs := List.take_of_length_le (by have := hI.1; omega)
    refine ⟨by simp, .inl ⟨_, _, rfl, run_takeDeferred hK, ?_⟩⟩
    exact ⟨_, results_none rfl _ _ _, ⟨_, rfl⟩, _, xs, .inl ⟨e2.symm, HJ.out.put _ hI.2.1.1.1.1 (by omega) hK rfl⟩⟩
  case stop =>
    intro D c O pre W2 hD hO hS hI hK
    obtain ⟨rfl, hI2⟩ := (HXE.out _ _ _ _).1 hI
    refine wpIn_ret ?_
    refine ⟨by simp, .inl ⟨_, _, rfl, run_takeDeferred hK, ?_⟩⟩
    rcases hI2 with ⟨e, hj⟩ | ⟨e, hj⟩
    · exact ⟨_, results_none rfl _ _ _, ⟨_, rfl⟩, _, pre, .inl ⟨e, HJ.out.put _ hj (by omega) hK rfl⟩⟩
    · exact ⟨_, results_none rfl _ _ _, ⟨_, rfl⟩, _, pre, .inr ⟨e, HJX.out.put _ hj (by omega) hK rfl⟩⟩
end Go.Proofs.Ytkklceblojcbkaa.Sr
