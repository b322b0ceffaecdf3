/- Steps of any iterator (written by gen_srt). -/
import Derived.Test.YtkklceblojcbkaaSrI
namespace Go.Proofs.Ytkklceblojcbkaa.Sr
open Go.RowKit Go.Proofs.Ytkklceblojcbkaa Go.Proofs.Ytkklceblojcbkaa.Sq
set_option linter.unusedVariables false
set_option maxRecDepth 100000
attribute [local go_sem] Oper.semAt_some
/-- Each thing with the next. -/
def stp (l : List Int) : List (Int × Int) := l.zip l.tail
theorem stp_one (x : Int) : stp [x] = [] := rfl
theorem stp_snoc (l : List Int) (x : Int) (h : l ≠ []) : stp (l ++ [x]) = stp l ++ [(l.getLastD 0, x)] := by
  unfold stp
  induction l with
  | nil => exact absurd rfl h
  | cons a r ih =>
    cases r with
    | nil => rfl
    | cons b s =>
      have ih := ih (by simp)
      simp only [List.cons_append, List.tail_cons, List.zip_cons_cons] at ih ⊢
      rw [ih]
      simp [List.getLastD]
def Firsts3 (zs : List Int) (c : Bool) (ys : List (Int × Int)) : Prop := ∃ l, ys = stp l ∧ (if c then l = zs else l <+: zs)
def Next3 (zs : List Int) (pre : List (Int × Int)) (p : Int × Int) : Prop := ∃ l y, pre = stp l ∧ l ≠ [] ∧ p = (l.getLastD 0, y) ∧ l ++ [y] <+: zs
theorem numbf_mk (F : Fence) (n : Nat) (hF : F.fn 19) (hro : F.round = none) (f : Fn) (a b : Array Value) (w : World) :
    CallsIn F n Try.prog 19 #[.func f a b] w fun e w' => e = .returned (.func (.func 33) #[] #[.pointer (some ⟨w.heap.size, 0, none⟩)]) ∧ w' = w.alloc (.cells #[.func f a b] 26) := by
  refine callsIn_of_wp Try.func19 rfl hF ?_ hro
  simp only [Try.ntmps19, List.size_toArray, List.length_cons, List.length_nil, Nat.reduceAdd, Nat.reduceSub, Array.replicate_succ, Array.replicate_zero, List.push_toArray, List.append_toArray, List.nil_append, List.cons_append]
  gi_wp2
  go_ret
  exact ⟨rfl, rfl⟩
theorem putN2 (p r : Tmp) (t : Array Value) (x : Int × Int) : ((#[p, r] : Array Tmp).zip (enc2 x)).foldl (fun t (p, v) => t.setIfInBounds p v) t = (t.setIfInBounds p (.int .i64 x.1)).setIfInBounds r (.int .i64 x.2) := by simp [enc2]
theorem num_len' (l : List Int) : (num l).length = l.length := by simp [num]
theorem num_inj {l m : List Int} (h : num l = num m) : l = m := by
  have e : ∀ l : List Int, (num l).map Prod.snd = l := fun l => by
    refine List.ext_getElem (by simp [num]) fun j h1 h2 => ?_
    simp [num]
  rw [← e l, ← e m, h]
set_option maxHeartbeats 1000000 in
theorem step_y (F : Fence) (n : Nat) (hF : ∀ k, F.fn k) (hro : F.round = none) (gs : Nat) (lbs : Array Value) (d : Nat) (hn : d + 9 ≤ n) (P : Own) (Bs : Nat) (zs : List Int) (w : World) (hz : zs.length ≤ 1000000) (hPc : Cells P w) (hPs : P Bs)
    (eg : ∀ args w, (callFunc gs args).run Try.prog w = .ok (.enter gs args) w) (hs : Row w Bs 26 #[.func (.func gs) #[] lbs]) (hE : Ear d F (n - 3) gs lbs P (Firsts zs) (Sq.Next zs) w) :
    Tel (d + 6) F n Try.prog 32 #[.pointer (some ⟨Bs, 0, none⟩)] enc2 P (Firsts3 zs) (Next3 zs) w := fun l J Jx O0 W hW hJ hJx hY h0 => by
  have h1 : 1 ≤ n := by omega
  have hPl : ∀ k, P k → k < W.heap.size := fun k hk => (hPc.hold hW).lt hk
  have rs : Row W Bs 26 #[.func (.func gs) #[] lbs] := hW.row hPs hs
  have ls : Bs < W.heap.size := rs.lt
  have cs : W.cell? ⟨Bs, 0, none⟩ = some (.func (.func gs) #[] lbs) := (rs.cell 0).trans rfl
  have HJ := Lib.hid hJ
  have HJX := Lib.hid hJx
  have HY := Lib.hid hY
  have H0 := Lib.hid h0
  have HE := Lib.hid (hE.later hW)
  have HC := Lib.hid (hPc.hold hW)
  clear hW hs hJ hJx hY h0 rs hE hPc
  refine callsIn_of_wp_marks Try.func32 rfl (hF _) ?_ hro
  simp only [Try.ntmps32, List.size_toArray, List.length_cons, List.length_nil, Nat.reduceAdd, Nat.reduceSub, Array.replicate_succ, Array.replicate_zero, List.push_toArray, List.append_toArray, List.nil_append, List.cons_append]
  gi_wp2_with (gi_at_call 19; refine (numbf_mk F (n - 1) (hF _) hro _ _ _ _).mono ?_; rintro e w' ⟨rfl, rfl⟩)
  obtain ⟨V, hV⟩ : ∃ V, ((W.alloc (.cells #[.func (.yield l) #[] #[]] 56)).alloc (.cells #[.int .i64 0] 3)).alloc (.cells #[.func (.func gs) #[] lbs] 26) = V := ⟨_, rfl⟩
  have bV : Below W.heap.size W V := by rw [← hV]; exact (((Below.refl _ W).alloc (Nat.le_refl _) _).alloc (by simp) _).alloc (by simp; omega) _
  have zV : V.heap.size = W.heap.size + 3 := by rw [← hV]; simp
  have r0 : Row V W.heap.size 56 #[.func (.yield l) #[] #[]] := by
    rw [← hV]; have := ((Row.made W 56 #[.func (.yield l) #[] #[]]).alloc (.cells #[.int .i64 0] 3)).alloc (.cells #[.func (.func gs) #[] lbs] 26)
    exact this
  have r1 : Row V (W.heap.size + 1) 3 #[.int .i64 0] := by
    rw [← hV]; have := (Row.made (W.alloc (.cells #[.func (.yield l) #[] #[]] 56)) 3 #[.int .i64 0]).alloc (.cells #[.func (.func gs) #[] lbs] 26)
    rwa [World.size_alloc] at this
  have r2 : Row V (W.heap.size + 2) 26 #[.func (.func gs) #[] lbs] := by
    rw [← hV]; have := Row.made ((W.alloc (.cells #[.func (.yield l) #[] #[]] 56)).alloc (.cells #[.int .i64 0] 3)) 26 #[.func (.func gs) #[] lbs]
    rwa [World.size_alloc, World.size_alloc] at this
  obtain ⟨X, hX⟩ : ∃ X : Own, X = fun j => j = W.heap.size ∨ j = W.heap.size + 1 ∨ j = W.heap.size + 2 := ⟨_, rfl⟩
  have hb : ∀ O : Own, (O W.heap.size → False) → O (W.heap.size + 1) → True := fun _ _ _ => trivial
  have jV : J (fun j => (fun _ => False) j ∨ X j) [] V := by
    rw [← hV, hX]
    refine HJ.out.sub _ _ _ _ ?_ (HJ.out.alloc _ _ _ _ (HJ.out.alloc _ _ _ _ (HJ.out.alloc _ _ _ _ H0.out)))
    rintro j (e | e | e | e)
    · exact e.elim
    · exact .inl (.inl (.inr e))
    · exact .inl (.inr (by simpa using e))
    · exact .inr (by simpa using e)
  have hXc : X (W.heap.size + 1) := by rw [hX]; exact .inr (.inl rfl)
  have hXs : X (W.heap.size + 2) := by rw [hX]; exact .inr (.inr rfl)
  have hXy : X W.heap.size := by rw [hX]; exact .inl rfl
  have hPnc : ¬ P (W.heap.size + 1) := fun e => by have := hPl _ e; omega
  have kV : KeepO P W (fun _ => False) V := ⟨Hold.below bV, fun _ _ e => e⟩
  rw [hV]
  have HT := Lib.hid (numb_y F (n - 1) hF hro gs lbs d (by omega) (fun j => P j ∨ j = W.heap.size + 2) (W.heap.size + 2) zs V hz (fun j hj => hj.elim (fun hj => HC.out.hold (Hold.below bV) j hj) (fun e => by subst e; exact ⟨_, _, r2⟩)) (.inr rfl) eg r2 ((HE.out.later (Hold.below bV)).less (fun _ => .inl)))
  obtain ⟨I, hI⟩ : ∃ I : Own → List (Int × Int) → World → Prop, I = fun (O : Own) (pre : List (Int × Int)) A => (((J (fun j => O j ∨ X j) (stp (pre.map Prod.snd)) A ∧ Row A W.heap.size 56 #[.func (.yield l) #[] #[]] ∧ ¬ O W.heap.size) ∧ Row A (W.heap.size + 1) 3 #[.int .i64 ((pre.map Prod.snd).getLastD 0)] ∧ ¬ O (W.heap.size + 1)) ∧ KeepO P W O A) ∧ KeepO (fun j => j = W.heap.size + 2) V O A := ⟨_, rfl⟩
  obtain ⟨Ix, hIx⟩ : ∃ Ix : Code → Own → List (Int × Int) → World → Prop, Ix = fun c (O : Own) (pre : List (Int × Int)) A => (c = .ret ∧ ∃ ys : List Int, ys <+: zs ∧ Jx (fun j => O j ∨ X j) (stp ys) A) := ⟨_, rfl⟩
  have HIE : Hid (∀ O pre A, I O pre A ↔ ((((J (fun j => O j ∨ X j) (stp (pre.map Prod.snd)) A ∧ Row A W.heap.size 56 #[.func (.yield l) #[] #[]] ∧ ¬ O W.heap.size) ∧ Row A (W.heap.size + 1) 3 #[.int .i64 ((pre.map Prod.snd).getLastD 0)] ∧ ¬ O (W.heap.size + 1)) ∧ KeepO P W O A) ∧ KeepO (fun j => j = W.heap.size + 2) V O A)) := Lib.hid (fun O pre A => by rw [hI])
  have HXE : Hid (∀ c O pre A, Ix c O pre A ↔ (c = .ret ∧ ∃ ys : List Int, ys <+: zs ∧ Jx (fun j => O j ∨ X j) (stp ys) A)) := Lib.hid (fun c O pre A => by rw [hIx])
  have HS : Hid (Stb W.heap.size I) := Lib.hid (by
    rw [hI]; exact ((((((HJ.out.base X).at (fun pre : List (Int × Int) => stp (pre.map Prod.snd))).row W.heap.size 56 (fun _ => #[.func (.yield l) #[] #[]])).row (W.heap.size + 1) 3 (fun pre => #[.int .i64 ((pre.map Prod.snd).getLastD 0)])).keep HC.out).keep (P := fun j => j = W.heap.size + 2) (w := V) (fun j e => by subst e; exact ⟨_, _, r2⟩)))
  have HSX : Hid (∀ c : Code, Stb W.heap.size (Ix c)) := Lib.hid (fun c => by
    rw [hIx]; exact (Stb.ex (fun ys : List Int => ((HJX.out.base X).at (fun _ : List (Int × Int) => stp ys)).pure (fun _ => ys <+: zs))).pure (fun _ => c = .ret))
  have I0 : Hid (I (fun _ => False) [] V) := Lib.hid (by
    rw [hI]; exact ⟨⟨⟨⟨jV, r0, id⟩, r1, id⟩, kV⟩, ⟨Hold.refl _ _, fun _ _ e => e⟩⟩)
  clear hI hIx
  clear hV r0 r1 r2 jV kV hb hX
  refine wpIn_rangeTel (d := d + 4) hro h1 (gf := 33) (lb := #[.pointer (some ⟨W.heap.size + 2, 0, none⟩)]) rfl (hF _) (enters_of Try.func33 (by kernel_rfl) rfl) HT.out (Hold.refl _ _) (fun _ => rfl)
    I Ix (HS.out.mono (by omega)) (fun c => (HSX.out c).mono (by omega)) I0.out ?round ?done ?stop
  case round =>
    intro l2 O pre x X0 hl hI hnx hsz
    obtain ⟨xs, y, e1, e2, hpx⟩ := hnx
    have hsn : pre.map Prod.snd = xs := by rw [e1]; refine List.ext_getElem (by simp [num]) fun j h1 h2 => ?_; simp [num]
    subst e2
    clear e1
    rw [putN2]
    simp only [List.setIfInBounds_toArray, List.set_cons_succ, List.set_cons_zero]
    gi_wp2
    refine ⟨(KeepsOthers.refl _).from _, Kq.refl _ _ _ _, fun o o' ho hlo => ?_⟩
    have hs1 : V.heap.size + 2 ≤ (X0.putObj l2 o').heap.size := by simpa using hsz
    have HI := Lib.hid ((HIE.out _ _ _).1 (HS.out.put o' hI (by omega) hlo ho))
    clear hI hlo hsz
    generalize X0.putObj l2 o' = Z at HI hs1 ⊢
    have hI2 := HI.out
    rw [hsn] at hI2
    have c1 := hI2.1.1.2.1
    have y1 := hI2.1.1.1.2.1
    obtain ⟨la, hla⟩ : ∃ la, xs.getLastD 0 = la := ⟨_, rfl⟩
    have j2 := hI2.1.1.1.1
    have nY := hI2.1.1.1.2.2
    have nC := hI2.1.1.2.2
    have kP := hI2.1.2
    have kS := hI2.2
    rw [hla] at c1
    have x0 : Z.cell? ⟨W.heap.size + 1, 0, none⟩ = some (.int .i64 la) := (c1.cell 0).trans rfl
    have f0 : Z.frozen? ⟨W.heap.size + 1, 0, none⟩ = false := frozen_of_row _ _ _ _ _ c1
    have x1 : Z.cell? ⟨W.heap.size, 0, none⟩ = some (.func (.yield l) #[] #[]) := (y1.cell 0).trans rfl
    have hnP : ¬ (O (W.heap.size + 1) ∨ (P (W.heap.size + 1) ∨ W.heap.size + 1 = W.heap.size + 2)) := fun e => e.elim nC (fun e => e.elim hPnc (fun e => by omega))
    have HLA := Lib.hid hla
    have HSN := Lib.hid hsn
    have HPX := Lib.hid hpx
    have hls : ((pre ++ [((xs.length : Int), y)]).map Prod.snd) = xs ++ [y] := by rw [List.map_append, hsn]; rfl
    have HLS := Lib.hid hls
    have hlast : (xs ++ [y]).getLastD 0 = y := by simp [List.getLastD_eq_getLast?]
    have HLT := Lib.hid hlast
    obtain ⟨nx, hnx⟩ : ∃ nx, xs.length = nx := ⟨_, rfl⟩
    have HNX := Lib.hid hnx
    rw [hnx]
    have NP := Lib.hid hnP
    have KP0 := Lib.hid kP
    have KS0 := Lib.hid kS
    clear HI hI2 hla hsn hpx hls hlast hnx
    by_cases hz0 : nx = 0
    · have hxe : xs = [] := List.eq_nil_of_length_eq_zero (by rw [HNX.out]; exact hz0)
      have hne : ¬ (0 : Int) < (nx : Int) := by omega
      have HJ1 : Hid (J (fun j => O j ∨ X j) (stp (xs ++ [y])) (Z.setCell ⟨W.heap.size + 1, 0, none⟩ (.int .i64 y))) := Lib.hid (by
        have e : stp (xs ++ [y]) = stp xs := by rw [hxe]; rfl
        rw [e]; exact HJ.out.set _ _ _ _ _ j2 (.inr hXc))
      have C2 := Lib.hid (Row.put c1 0 (.int .i64 y))
      have Y2 := Lib.hid (Row.past y1 (p := ⟨W.heap.size + 1, 0, none⟩) (by simp) (.int .i64 y))
      have KP2 : Hid (KeepO P W O (Z.setCell ⟨W.heap.size + 1, 0, none⟩ (.int .i64 y))) := Lib.hid ⟨KP0.out.1.set hPnc 0 _, KP0.out.2⟩
      have KS2 : Hid (KeepO (fun j => j = W.heap.size + 2) V O (Z.setCell ⟨W.heap.size + 1, 0, none⟩ (.int .i64 y))) := Lib.hid ⟨KS0.out.1.set (fun (e : W.heap.size + 1 = W.heap.size + 2) => by omega) 0 _, KS0.out.2⟩
      have HQ := Lib.hid (kq_set (B := V.heap.size + 2) (O := O) (P := fun j => P j ∨ j = W.heap.size + 2) Z NP.out 0 (.int .i64 y))
      clear hz0 hxe j2 c1 y1 kP kS hnP zV
      gi_wp2
      refine ⟨(KeepsOthers.setCell _ _ _).from _, HQ.out, (HIE.out _ _ _).2 ?_⟩
      rw [← HNX.out, HLS.out, HLT.out]
      exact ⟨⟨⟨⟨HJ1.out, Y2.out, nY⟩, by simpa using C2.out, nC⟩, KP2.out⟩, KS2.out⟩
    · have hne : (0 : Int) < (nx : Int) := by omega
      have hxe : xs ≠ [] := fun e => hz0 (by rw [← HNX.out, e]; rfl)
      have HXE2 := Lib.hid hxe
      have HSS := Lib.hid (stp_snoc xs y hxe)
      obtain ⟨fn, tmps, assign, body, hy, hR⟩ := HY.out _ (stp xs) (la, y) _ j2 ⟨xs, y, rfl, hxe, by rw [HLA.out], HPX.out⟩ (by omega)
      unfold enc2 at hy
      rw [show n - (d + 6) = n - 1 - (d + 4) - 1 by omega] at hR
      clear hz0 hxe j2 kP kS hnP
      gi_wp2
      refine ⟨fun _ => by omega, (show RoundIn (F.inRound l2) (n - 1 - (d + 4) - 1) Try.prog l fn tmps assign body _ _ from hR).mono ?_⟩
      rintro e W3 ⟨hk3, ⟨rfl, hj3⟩ | ⟨rfl, hj3⟩⟩
      · have c3 : Row W3 (W.heap.size + 1) 3 #[.int .i64 la] := hk3.row (.inl (.inr hXc)) c1
        have y3 : Row W3 W.heap.size 56 #[.func (.yield l) #[] #[]] := hk3.row (.inl (.inr hXy)) y1
        have z0 : W3.cell? ⟨W.heap.size + 1, 0, none⟩ = some (.int .i64 la) := (c3.cell 0).trans rfl
        have f3 : W3.frozen? ⟨W.heap.size + 1, 0, none⟩ = false := frozen_of_row _ _ _ _ _ c3
        have kpF : Kq (fun j => P j ∨ j = W.heap.size + 2) O (V.heap.size + 2) Z W3 := hk3.less (by omega) (fun k e => e.elim (fun e => .inl (.inl e)) (fun e => e.elim .inr (fun e => .inl (.inr (by rw [e]; exact hXs)))))
        have kfF : KeepsFrom V.heap.size Z W3 := (hk3.less (P' := fun _ => False) (O' := fun _ => False) (b' := V.heap.size) (by omega) (fun k e => e.elim False.elim False.elim)).1
        have HP2 := Lib.hid (kpF.trans (kq_set W3 NP.out 0 (.int .i64 y)))
        have HF2 := Lib.hid (kfF.trans ((KeepsOthers.setCell W3 ⟨W.heap.size + 1, 0, none⟩ (.int .i64 y)).from _))
        have HH2 : Hid (KeepO P W O (W3.setCell ⟨W.heap.size + 1, 0, none⟩ (.int .i64 y))) := Lib.hid ⟨(KP0.out.1.kq (hk3.less (O' := fun _ => False) (P' := P) (Nat.le_refl _) (fun k e => e.elim False.elim .inr))).set hPnc 0 _, KP0.out.2⟩
        have HH3 : Hid (KeepO (fun j => j = W.heap.size + 2) V O (W3.setCell ⟨W.heap.size + 1, 0, none⟩ (.int .i64 y))) := Lib.hid ⟨(KS0.out.1.kq (hk3.less (O' := fun _ => False) (P' := fun j => j = W.heap.size + 2) (Nat.le_refl _) (fun k e => e.elim False.elim (fun e => .inl (.inr (by rw [e]; exact hXs)))))).set (fun (e : W.heap.size + 1 = W.heap.size + 2) => by omega) 0 _, KS0.out.2⟩
        have HJ1 : Hid (J (fun j => O j ∨ X j) (stp (xs ++ [y])) (W3.setCell ⟨W.heap.size + 1, 0, none⟩ (.int .i64 y))) := Lib.hid (by rw [HSS.out, HLA.out]; exact HJ.out.set _ _ _ _ _ hj3 (.inr hXc))
        have C2 := Lib.hid (Row.put c3 0 (.int .i64 y))
        have Y2 := Lib.hid (Row.past y3 (p := ⟨W.heap.size + 1, 0, none⟩) (by simp) (.int .i64 y))
        clear hk3 hj3 kpF kfF c1 c3 y1 y3 zV
        gi_wp2
        refine ⟨HF2.out, HP2.out, (HIE.out _ _ _).2 ?_⟩
        rw [← HNX.out, HLS.out, HLT.out]
        exact ⟨⟨⟨⟨HJ1.out, Y2.out, nY⟩, by simpa using C2.out, nC⟩, HH2.out⟩, HH3.out⟩
      · have kpF : Kq (fun j => P j ∨ j = W.heap.size + 2) O (V.heap.size + 2) Z W3 := hk3.less (by omega) (fun k e => e.elim (fun e => .inl (.inl e)) (fun e => e.elim .inr (fun e => .inl (.inr (by rw [e]; exact hXs)))))
        have kfF : KeepsFrom V.heap.size Z W3 := (hk3.less (P' := fun _ => False) (O' := fun _ => False) (b' := V.heap.size) (by omega) (fun k e => e.elim False.elim False.elim)).1
        gi_wp2
        exact ⟨kfF, kpF, (HXE.out _ _ _ _).2 ⟨rfl, xs ++ [y], HPX.out, by rw [HSS.out, HLA.out]; exact hj3⟩⟩
  case done =>
    intro D O xs W2 hD hO hS hI hK
    obtain ⟨m, rfl, e⟩ := hS
    have e : m = zs := by simpa using e
    subst e
    have hI := (HIE.out _ _ _).1 hI
    have hsn : (num m).map Prod.snd = m := by refine List.ext_getElem (by simp [num]) fun j h1 h2 => ?_; simp [num]
    rw [hsn] at hI
    refine ⟨by simp, .inl ⟨_, _, rfl, run_takeDeferred hK, ?_⟩⟩
    exact ⟨_, results_none rfl _ _ _, ⟨_, rfl⟩, _, _, .inl ⟨⟨m, rfl, by simp⟩, HJ.out.put _ hI.1.1.1.1 (by omega) hK rfl⟩⟩
  case stop =>
    intro D c O pre W2 hD hO hS hI hK
    obtain ⟨rfl, ys, hys, hj⟩ := (HXE.out _ _ _ _).1 hI
    refine wpIn_ret ?_
    refine ⟨by simp, .inl ⟨_, _, rfl, run_takeDeferred hK, ?_⟩⟩
    exact ⟨_, results_none rfl _ _ _, ⟨_, rfl⟩, _, _, .inr ⟨⟨ys, rfl, by simpa using hys⟩, HJX.out.put _ hj (by omega) hK rfl⟩⟩
end Go.Proofs.Ytkklceblojcbkaa.Sr
