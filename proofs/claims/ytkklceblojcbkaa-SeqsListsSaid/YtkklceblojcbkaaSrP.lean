/- Once of any iterator (written by gen_srt). -/
import Derived.Test.YtkklceblojcbkaaSrO
namespace Go.Proofs.Ytkklceblojcbkaa.Sr
open Go.RowKit Go.Proofs.Ytkklceblojcbkaa Go.Proofs.Ytkklceblojcbkaa.Sq
set_option linter.unusedVariables false
set_option maxRecDepth 100000
attribute [local go_sem] Oper.semAt_some
/-- Each thing once, as it came first. -/
def onc : List Int → List Int := fun l => l.foldl (fun a x => if x ∈ a then a else a ++ [x]) []
theorem onc_snoc (l : List Int) (x : Int) : onc (l ++ [x]) = if x ∈ onc l then onc l else onc l ++ [x] := by
  unfold onc
  rw [List.foldl_append]
  rfl
theorem onc_mem_acc (l : List Int) (x : Int) : ∀ a : List Int, x ∈ l.foldl (fun a x => if x ∈ a then a else a ++ [x]) a ↔ x ∈ a ∨ x ∈ l := by
  induction l with
  | nil => intro a; simp
  | cons y r ih =>
    intro a
    rw [List.foldl_cons, ih]
    by_cases h : y ∈ a
    · rw [if_pos h]
      constructor
      · rintro (e | e)
        · exact .inl e
        · exact .inr (List.mem_cons_of_mem _ e)
      · rintro (e | e)
        · exact .inl e
        · rcases List.mem_cons.1 e with e | e
          · subst e; exact .inl h
          · exact .inr e
    · rw [if_neg h, List.mem_append, List.mem_singleton, List.mem_cons, or_assoc]
theorem onc_mem (l : List Int) (x : Int) : x ∈ onc l ↔ x ∈ l := by
  unfold onc
  rw [onc_mem_acc]
  simp
/-- The set holds just what came. -/
def Sn (mb : Nat) (pre : List Int) (A : World) : Prop := ∃ (c : Nat) (D : DataW Unit), A.ownsMap Try.prog 3 (unitElem (H := Unit)) mb c D ∧ c ≤ pre.length ∧ ∀ y : Int, Maps.has D (Ki y) = decide (y ∈ pre)
theorem Sn.turns {mb : Nat} {pre : List Int} {A B : World} {S : Nat → Prop} (h : Sn mb pre A) (g : Turns A B S) (hs : ¬ S mb) : Sn mb pre B := by
  obtain ⟨c, D, h1, h2, h3⟩ := h
  exact ⟨c, D, own_turns h1 g hs, h2, h3⟩
theorem Sn.same {mb : Nat} {pre : List Int} {A B : World} (h : Sn mb pre A) (g : ∀ o, A.heap[mb]? = some o → o.isCells = false → B.heap[mb]? = some o) : Sn mb pre B := by
  obtain ⟨c, D, ⟨es, clock, hb, r⟩, h2, h3⟩ := h
  exact ⟨c, D, ⟨es, clock, g _ hb rfl, r⟩, h2, h3⟩
theorem Stb.sn {β : Type} {B : Nat} {J : Own → β → World → Prop} (h : Stb B J) (mb : Nat) (hB : mb < B) (f : β → List Int) : Stb B (fun O s A => J O s A ∧ ¬ O mb ∧ Sn mb (f s) A) :=
  ⟨fun O O' s A hO hj => ⟨h.sub _ _ _ _ hO hj.1, fun e => hj.2.1 (hO _ e), hj.2.2⟩,
   fun O s A o hj => ⟨h.alloc _ _ _ o hj.1, fun e => e.elim hj.2.1 (fun e => by obtain ⟨c, D, h1, _⟩ := hj.2.2; have := h1.lt; omega), hj.2.2.same fun o' ho _ => (Below.heap_alloc A _ mb (Array.getElem?_eq_some_iff.1 ho).1).trans ho⟩,
   fun O s A k v hj hk => ⟨h.set _ _ _ _ _ hj.1 hk, hj.2.1, hj.2.2.same fun o' ho _ => (heap_setCell_other _ _ mb v (fun e => hj.2.1 (by have e : mb = k := e; rw [e]; exact hk))).trans ho⟩,
   fun O s A A' row hj hg hr => ⟨h.walk _ _ _ _ _ hj.1 hg hr, hj.2.1, hj.2.2.same fun o' ho _ => (hg.block mb (Array.getElem?_eq_some_iff.1 ho).1 (fun e => by have := (hr mb e.symm).1; omega)).trans ho⟩,
   fun O s A A' hj hg => ⟨h.turn _ _ _ _ hj.1 hg, fun e => e.elim hj.2.1 (fun e => by obtain ⟨c, D, h1, _⟩ := hj.2.2; have := h1.lt; omega), hj.2.2.turns hg hj.2.1⟩⟩
theorem Sn.put {mb c : Nat} {D : DataW Unit} {pre : List Int} {x : Int} {A B : World} (h : A.ownsMap Try.prog 3 (unitElem (H := Unit)) mb c D) (hc : c ≤ pre.length) (hh : ∀ y : Int, Maps.has D (Ki y) = decide (y ∈ pre)) (g : B.ownsMap Try.prog 3 (unitElem (H := Unit)) mb (c + 1) (D.put (Ki x) (.agg []))) : Sn mb (pre ++ [x]) B :=
  ⟨c + 1, _, g, by simp; omega, fun y => by
    by_cases e : y = x
    · subst e
      rw [Go.Maps.has_put_same (h.tidy lawK).isMap (show WideAt.IsKeyLit (Ki y) from trivial)]
      simp
    · rw [Go.Maps.has_put_other (fun e2 => by injection e2 with _ e2; exact e e2), hh y]
      simp [e]⟩
theorem grown_turns {A B : World} {mb : Nat} (h : Turns A B (fun k => k = mb)) : A.grownBy B (some mb) := ⟨h.os, h.tape, h.output, h.size, fun k hk hne => h.block k hk (fun e => hne (by rw [e]))⟩
set_option maxHeartbeats 2000000 in
theorem once_e (F : Fence) (hwide : F = Fence.wide) (n : Nat) (hF : ∀ k, F.fn k) (hro : F.round = none) (gs : Nat) (lbs : Array Value) (d : Nat) (hn : d + 6 ≤ n) (P : Own) (Bs : Nat) (zs : List Int) (w : World) (hz : zs.length ≤ 100000) (hzr : ∀ x ∈ zs, -9223372036854775808 ≤ x ∧ x ≤ 9223372036854775807) (hPc : Cells P w) (hPs : P Bs)
    (eg : ∀ args w, (callFunc gs args).run Try.prog w = .ok (.enter gs args) w) (hs : Row w Bs 26 #[.func (.func gs) #[] lbs]) (hE : Ear d F (n - 2) gs lbs P (Firsts zs) (Sq.Next zs) w) :
    Ear (d + 4) F n 34 #[.pointer (some ⟨Bs, 0, none⟩)] P (fun c ys => ∃ l, ys = onc l ∧ (if c then l = zs else l <+: zs)) (fun pre x => ∃ l, pre = onc l ∧ x ∉ l ∧ l ++ [x] <+: zs) w := fun a1 a2 J Jx O0 W hW hJ hJx hY h0 => by
  have HWD := Lib.hid hwide
  clear hwide
  have h1 : 1 ≤ n := by omega
  have hPl : ∀ k, P k → k < W.heap.size := fun k hk => (hPc.hold hW).lt hk
  have rs : Row W Bs 26 #[.func (.func gs) #[] lbs] := hW.row hPs hs
  have ls : Bs < W.heap.size := rs.lt
  have cs : W.cell? ⟨Bs, 0, none⟩ = some (.func (.func gs) #[] lbs) := (rs.cell 0).trans rfl
  have HJ := Lib.hid hJ
  have HJX := Lib.hid hJx
  have HY := Lib.hid hY
  have H0 := Lib.hid h0
  have HE := Lib.hid (hE.later hW)
  have HC := Lib.hid (hPc.hold hW)
  clear hW hs hJ hJx hY h0 rs hE hPc
  have hmm := @run_makeMap Try.prog
  have cs3 : ∀ o1 o2 o3, (((W.alloc o1).alloc o2).alloc o3).cell? ⟨Bs, 0, none⟩ = some (.func (.func gs) #[] lbs) := fun o1 o2 o3 => (((((Below.refl _ W).alloc (Nat.le_refl _) o1).alloc (by simp) o2).alloc (by simp; omega) o3).cell (p := ⟨Bs, 0, none⟩) ls).trans cs
  refine callsIn_of_wp_marks Try.func34 rfl (hF _) ?_ hro
  simp only [Try.ntmps34, List.size_toArray, List.length_cons, List.length_nil, Nat.reduceAdd, Nat.reduceSub, Array.replicate_succ, Array.replicate_zero, List.push_toArray, List.append_toArray, List.nil_append, List.cons_append]
  gi_wp2_with (gi_at_call 26; refine (told_in F (n - 1) (hF _) hro _ ⟨_, _, _, .inl rfl⟩ _).mono ?_; rintro e w' ⟨rfl, rfl⟩)
  obtain ⟨V, hV⟩ : ∃ V, (((W.alloc (.cells #[.func (.func 40) #[] #[a1, a2]] 43)).alloc (.map #[] 0)).alloc (.cells #[.map (some (W.heap.size + 1))] 57)).alloc (.cells #[.func (.func gs) #[] lbs] 26) = V := ⟨_, rfl⟩
  have bV : Below W.heap.size W V := by rw [← hV]; exact ((((Below.refl _ W).alloc (Nat.le_refl _) _).alloc (by simp) _).alloc (by simp; omega) _).alloc (by simp; omega) _
  have zV : V.heap.size = W.heap.size + 4 := by rw [← hV]; simp
  have r0 : Row V W.heap.size 43 #[.func (.func 40) #[] #[a1, a2]] := by rw [← hV]; exact (((Row.made W _ _).alloc _).alloc _).alloc _
  have rM : Sn (W.heap.size + 1) [] V := by
    rw [← hV]
    have h1 := World.ownsMap_made (H := Unit) (W.alloc (.cells #[.func (.func 40) #[] #[a1, a2]] 43)) Try.prog 3 (unitElem (H := Unit))
    rw [World.size_alloc] at h1
    exact ⟨0, _, (h1.alloc _).alloc _, Nat.le_refl _, fun y => rfl⟩
  have r1 : Row V (W.heap.size + 2) 57 #[.map (some (W.heap.size + 1))] := by
    rw [← hV]; have := (Row.made ((W.alloc (.cells #[.func (.func 40) #[] #[a1, a2]] 43)).alloc (.map #[] 0)) 57 #[.map (some (W.heap.size + 1))]).alloc (.cells #[.func (.func gs) #[] lbs] 26)
    rwa [World.size_alloc, World.size_alloc] at this
  have r2 : Row V (W.heap.size + 3) 26 #[.func (.func gs) #[] lbs] := by
    rw [← hV]; have := Row.made (((W.alloc (.cells #[.func (.func 40) #[] #[a1, a2]] 43)).alloc (.map #[] 0)).alloc (.cells #[.map (some (W.heap.size + 1))] 57)) 26 #[.func (.func gs) #[] lbs]
    rwa [World.size_alloc, World.size_alloc, World.size_alloc] at this
  obtain ⟨X, hX⟩ : ∃ X : Own, X = fun j => j = W.heap.size ∨ j = W.heap.size + 2 ∨ j = W.heap.size + 3 := ⟨_, rfl⟩
  have jV : J (fun j => (fun _ => False) j ∨ X j) (onc []) V := by
    rw [← hV, hX]
    refine HJ.out.sub _ _ _ _ ?_ (HJ.out.alloc _ _ _ _ (HJ.out.alloc _ _ _ _ (HJ.out.alloc _ _ _ _ (HJ.out.alloc _ _ _ _ H0.out))))
    rintro j (e | e | e | e)
    · exact e.elim
    · exact .inl (.inl (.inl (.inr e)))
    · exact .inl (.inr (by simpa using e))
    · exact .inr (by simpa using e)
  have hXc : X (W.heap.size + 2) := by rw [hX]; exact .inr (.inl rfl)
  have hXs : X (W.heap.size + 3) := by rw [hX]; exact .inr (.inr rfl)
  have hXy : X W.heap.size := by rw [hX]; exact .inl rfl
  have kV : KeepO P W (fun _ => False) V := ⟨Hold.below bV, fun _ _ e => e⟩
  rw [hV]
  have HT := Lib.hid (told_any F (n - 1) hF hro gs lbs d (by omega) (fun j => P j ∨ j = W.heap.size + 3) (Firsts zs) (Sq.Next zs) (W.heap.size + 3) V (fun j hj => hj.elim (fun hj => HC.out.hold (Hold.below bV) j hj) (fun e => by subst e; exact ⟨_, _, r2⟩)) (.inr rfl) eg r2 ((HE.out.later (Hold.below bV)).less (fun _ => .inl)))
  obtain ⟨I, hI⟩ : ∃ I : Own → List Int → World → Prop, I = fun (O : Own) (pre : List Int) A => (((((J (fun j => O j ∨ X j) (onc pre) A ∧ Row A W.heap.size 43 #[.func (.func 40) #[] #[a1, a2]] ∧ ¬ O W.heap.size) ∧ Row A (W.heap.size + 2) 57 #[.map (some (W.heap.size + 1))] ∧ ¬ O (W.heap.size + 2)) ∧ ¬ O (W.heap.size + 1) ∧ Sn (W.heap.size + 1) pre A) ∧ KeepO P W O A) ∧ KeepO (fun j => j = W.heap.size + 3) V O A) := ⟨_, rfl⟩
  obtain ⟨Ix, hIx⟩ : ∃ Ix : Code → Own → List Int → World → Prop, Ix = fun c (O : Own) (pre : List Int) A => (c = .ret ∧ ∃ ys : List Int, ys <+: zs ∧ Jx (fun j => O j ∨ X j) (onc ys) A) := ⟨_, rfl⟩
  have HIE : Hid (∀ O pre A, I O pre A ↔ ((((((J (fun j => O j ∨ X j) (onc pre) A ∧ Row A W.heap.size 43 #[.func (.func 40) #[] #[a1, a2]] ∧ ¬ O W.heap.size) ∧ Row A (W.heap.size + 2) 57 #[.map (some (W.heap.size + 1))] ∧ ¬ O (W.heap.size + 2)) ∧ ¬ O (W.heap.size + 1) ∧ Sn (W.heap.size + 1) pre A) ∧ KeepO P W O A) ∧ KeepO (fun j => j = W.heap.size + 3) V O A))) := Lib.hid (fun O pre A => by rw [hI])
  have HXE : Hid (∀ c O pre A, Ix c O pre A ↔ (c = .ret ∧ ∃ ys : List Int, ys <+: zs ∧ Jx (fun j => O j ∨ X j) (onc ys) A)) := Lib.hid (fun c O pre A => by rw [hIx])
  have HS : Hid (Stb V.heap.size I) := Lib.hid (by
    rw [hI]; exact ((((((((HJ.out.base X).at (fun pre : List Int => onc pre)).row W.heap.size 43 (fun _ => #[.func (.func 40) #[] #[a1, a2]])).row (W.heap.size + 2) 57 (fun _ => #[.map (some (W.heap.size + 1))])).mono (B' := V.heap.size) (by omega)).sn (W.heap.size + 1) (by omega) (fun pre => pre)).keep HC.out).keep (P := fun j => j = W.heap.size + 3) (w := V) (fun j e => by subst e; exact ⟨_, _, r2⟩)))
  have HSX : Hid (∀ c : Code, Stb W.heap.size (Ix c)) := Lib.hid (fun c => by
    rw [hIx]; exact (Stb.ex (fun ys : List Int => ((HJX.out.base X).at (fun _ : List Int => onc ys)).pure (fun _ => ys <+: zs))).pure (fun _ => c = .ret))
  have I0 : Hid (I (fun _ => False) [] V) := Lib.hid (by
    rw [hI]; exact ⟨⟨⟨⟨⟨jV, r0, id⟩, r1, id⟩, id, rM⟩, kV⟩, ⟨Hold.refl _ _, fun _ _ e => e⟩⟩)
  clear hI hIx hV r0 r1 r2 jV kV hX rM hmm cs3
  refine wpIn_rangeTel (d := d + 2) hro h1 (gf := 39) (lb := #[.pointer (some ⟨W.heap.size + 3, 0, none⟩)]) rfl (hF _) (enters_of Try.func39 (by kernel_rfl) rfl) HT.out (Hold.refl _ _) (fun _ => rfl)
    I Ix HS.out (fun c => (HSX.out c).mono (by omega)) I0.out ?round ?done ?stop
  case round =>
    intro l2 O pre x X0 hl hI hnx hsz
    rw [put1]
    simp only [List.setIfInBounds_toArray, List.set_cons_succ, List.set_cons_zero]
    gi_wp2
    refine ⟨(KeepsOthers.refl _).from _, Kq.refl _ _ _ _, fun o o' ho hlo => ?_⟩
    have hs1 : V.heap.size + 2 ≤ (X0.putObj l2 o').heap.size := by simpa using hsz
    have HI := Lib.hid ((HIE.out _ _ _).1 (HS.out.put o' hI (by omega) hlo ho))
    clear hI hlo hsz
    generalize X0.putObj l2 o' = Z at HI hs1 ⊢
    obtain ⟨⟨⟨⟨⟨hj, hy, hny⟩, hc, hnc⟩, hnm, c, D, hown, hcl, hhas⟩, hkp⟩, hks⟩ := HI.out
    have x0 : Z.cell? ⟨W.heap.size + 2, 0, none⟩ = some (.map (some (W.heap.size + 1))) := (hc.cell 0).trans rfl
    have hxz : x ∈ zs := by obtain ⟨t, ht⟩ := (show pre ++ [x] <+: zs from hnx); rw [← ht]; simp
    have hpl : pre.length + 1 ≤ zs.length := by simpa using List.IsPrefix.length_le hnx
    have hCO : Hid (CallsIn F (n - 1 - (d + 2) - 1) Try.prog 35 #[.map (some (W.heap.size + 1)), .int .i64 x] Z _) := Lib.hid (by rw [HWD.out]; exact (callsIn_wide (n := n - 1 - (d + 2) - 1)).2 (comes_any (W.heap.size + 1) c D x (hzr x hxz) Z hown (by omega)))
    gi_wp2
    refine ⟨fun _ => by omega, (show CallsIn (F.inRound l2) (n - 1 - (d + 2) - 1) Try.prog 35 _ _ _ from hCO.out).mono ?_⟩
    rintro e Z2 ⟨rfl, hown2, ht2⟩
    rw [hhas x]
    have hmz : ∃ o, Z.heap[W.heap.size + 1]? = some o ∧ o.isCells = false := by
      obtain ⟨es, clock, hb, _⟩ := id hown
      exact ⟨_, hb, rfl⟩
    have y2 := hy.turns ht2 (by omega)
    have c2 := hc.turns ht2 (by omega)
    have j2 : J (fun j => O j ∨ X j) (onc pre) Z2 := HJ.out.walk _ _ _ _ _ hj (grown_turns ht2) (fun r e => by injection e with e; subst e; obtain ⟨o, h1, h2⟩ := hmz; exact ⟨by omega, o, h1, h2⟩)
    have SN2 := Lib.hid (Sn.put (x := x) hown hcl hhas hown2)
    have KP2 : Hid (KeepO P W O Z2) := Lib.hid ⟨hkp.1.trans ⟨ht2.size, fun k cs t hk h => (ht2.block k (Array.getElem?_eq_some_iff.1 h).1 (fun e => by have := hPl k hk; omega)).trans h⟩, hkp.2⟩
    have KS2 : Hid (KeepO (fun j => j = W.heap.size + 3) V O Z2) := Lib.hid ⟨hks.1.trans ⟨ht2.size, fun k cs t hk h => (ht2.block k (Array.getElem?_eq_some_iff.1 h).1 (fun e => by have hk : k = W.heap.size + 3 := hk; omega)).trans h⟩, hks.2⟩
    have KF2 : Hid (KeepsFrom V.heap.size Z Z2) := Lib.hid ⟨ht2.size, fun k o hk h _ => (ht2.block k (Array.getElem?_eq_some_iff.1 h).1 (fun e => by omega)).trans h⟩
    have KQ2 : Hid (Kq (fun j => P j ∨ j = W.heap.size + 3) O (V.heap.size + 2) Z Z2) := Lib.hid ⟨⟨ht2.size, fun k o hk h _ => (ht2.block k (Array.getElem?_eq_some_iff.1 h).1 (fun e => by omega)).trans h⟩, fun k cs t h hk => (ht2.block k (Array.getElem?_eq_some_iff.1 h).1 (fun e => by
      subst e
      rcases hk with h | h | h
      · exact hnm h
      · have := hPl _ h; omega
      · omega)).trans h⟩
    have x1 : Z2.cell? ⟨W.heap.size, 0, none⟩ = some (.func (.func 40) #[] #[a1, a2]) := (y2.cell 0).trans rfl
    have hz2 := ht2.size
    have HNX := Lib.hid hnx
    clear hown hown2 ht2 hmz hcl hhas hkp hks hCO hj hy hc x0 HI hnx
    by_cases hx2 : x ∈ pre
    · have hd : (!decide (x ∈ pre)) = false := by simp [hx2]
      rw [hd]
      have HJ2 : Hid (J (fun j => O j ∨ X j) (onc (pre ++ [x])) Z2) := Lib.hid (by rw [onc_snoc, if_pos ((onc_mem _ _).2 hx2)]; exact j2)
      clear hd hx2 j2
      gi_wp2
      exact ⟨KF2.out, KQ2.out, (HIE.out _ _ _).2 ⟨⟨⟨⟨⟨HJ2.out, y2, hny⟩, c2, hnc⟩, hnm, SN2.out⟩, KP2.out⟩, KS2.out⟩⟩
    · have hd : (!decide (x ∈ pre)) = true := by simp [hx2]
      rw [hd]
      have HON : Hid (onc (pre ++ [x]) = onc pre ++ [x]) := Lib.hid (by rw [onc_snoc, if_neg (fun h => hx2 ((onc_mem _ _).1 h))])
      have hC := HY.out _ (onc pre) x _ j2 ⟨pre, rfl, hx2, HNX.out⟩ (by omega)
      rw [show n - (d + 4) = n - 1 - (d + 2) - 1 by omega] at hC
      clear hd
      gi_wp2
      refine ⟨fun _ => by omega, (show CallsIn (F.inRound l2) (n - 1 - (d + 2) - 1) Try.prog 40 _ _ _ from hC).mono ?_⟩
      rintro e W3 ⟨hk3, ⟨rfl, hj3⟩ | ⟨rfl, hj3⟩⟩
      · have y3 := hk3.row (.inl (.inr hXy)) y2
        have c3 := hk3.row (.inl (.inr hXc)) c2
        gi_wp2
        refine ⟨KF2.out.trans (hk3.less (P' := fun _ => False) (O' := fun _ => False) (b' := V.heap.size) (by omega) (fun k e => e.elim False.elim False.elim)).1, KQ2.out.trans (hk3.less (by omega) (fun k e => e.elim (fun e => .inl (.inl e)) (fun e => e.elim .inr (fun e => .inl (.inr (by rw [e]; exact hXs)))))), (HIE.out _ _ _).2 ⟨⟨⟨⟨⟨by rw [HON.out]; exact hj3, y3, hny⟩, c3, hnc⟩, hnm, SN2.out.same (fun o h1 h2 => hk3.1.same _ _ (by omega) h1 h2)⟩, KP2.out.1.kq (hk3.less (O' := fun _ => False) (P' := P) (Nat.le_refl _) (fun k e => e.elim False.elim .inr)), KP2.out.2⟩, KS2.out.1.kq (hk3.less (O' := fun _ => False) (P' := fun j => j = W.heap.size + 3) (Nat.le_refl _) (fun k e => e.elim False.elim (fun e => .inl (.inr (by rw [e]; exact hXs))))), KS2.out.2⟩⟩
      · gi_wp2
        exact ⟨KF2.out.trans (hk3.less (P' := fun _ => False) (O' := fun _ => False) (b' := V.heap.size) (by omega) (fun k e => e.elim False.elim False.elim)).1, KQ2.out.trans (hk3.less (by omega) (fun k e => e.elim (fun e => .inl (.inl e)) (fun e => e.elim .inr (fun e => .inl (.inr (by rw [e]; exact hXs)))))), (HXE.out _ _ _ _).2 ⟨rfl, pre ++ [x], HNX.out, by rw [HON.out]; exact hj3⟩⟩
  case done =>
    intro D O xs W2 hD hO hS hI hK
    have e : xs = zs := hS
    subst e
    have hI := (HIE.out _ _ _).1 hI
    refine ⟨by simp, .inl ⟨_, _, rfl, run_takeDeferred hK, ?_⟩⟩
    exact ⟨_, results_none rfl _ _ _, ⟨_, rfl⟩, _, _, .inl ⟨⟨xs, rfl, by simp⟩, HJ.out.put _ hI.1.1.1.1.1 (by omega) hK rfl⟩⟩
  case stop =>
    intro D c O pre W2 hD hO hS hI hK
    obtain ⟨rfl, ys, hys, hj⟩ := (HXE.out _ _ _ _).1 hI
    refine wpIn_ret ?_
    refine ⟨by simp, .inl ⟨_, _, rfl, run_takeDeferred hK, ?_⟩⟩
    exact ⟨_, results_none rfl _ _ _, ⟨_, rfl⟩, _, _, .inr ⟨⟨ys, rfl, by simpa using hys⟩, HJX.out.put _ hj (by omega) hK rfl⟩⟩
set_option maxHeartbeats 2000000 in
theorem once_y (F : Fence) (hwide : F = Fence.wide) (n : Nat) (hF : ∀ k, F.fn k) (hro : F.round = none) (gs : Nat) (lbs : Array Value) (d : Nat) (hn : d + 6 ≤ n) (P : Own) (Bs : Nat) (zs : List Int) (w : World) (hz : zs.length ≤ 100000) (hzr : ∀ x ∈ zs, -9223372036854775808 ≤ x ∧ x ≤ 9223372036854775807) (hPc : Cells P w) (hPs : P Bs)
    (eg : ∀ args w, (callFunc gs args).run Try.prog w = .ok (.enter gs args) w) (hs : Row w Bs 26 #[.func (.func gs) #[] lbs]) (hE : Ear d F (n - 2) gs lbs P (Firsts zs) (Sq.Next zs) w) :
    Tel (d + 4) F n Try.prog 34 #[.pointer (some ⟨Bs, 0, none⟩)] enc P (fun c ys => ∃ l, ys = onc l ∧ (if c then l = zs else l <+: zs)) (fun pre x => ∃ l, pre = onc l ∧ x ∉ l ∧ l ++ [x] <+: zs) w := fun l J Jx O0 W hW hJ hJx hY h0 => by
  have HWD := Lib.hid hwide
  clear hwide
  have h1 : 1 ≤ n := by omega
  have hPl : ∀ k, P k → k < W.heap.size := fun k hk => (hPc.hold hW).lt hk
  have rs : Row W Bs 26 #[.func (.func gs) #[] lbs] := hW.row hPs hs
  have ls : Bs < W.heap.size := rs.lt
  have cs : W.cell? ⟨Bs, 0, none⟩ = some (.func (.func gs) #[] lbs) := (rs.cell 0).trans rfl
  have HJ := Lib.hid hJ
  have HJX := Lib.hid hJx
  have HY := Lib.hid hY
  have H0 := Lib.hid h0
  have HE := Lib.hid (hE.later hW)
  have HC := Lib.hid (hPc.hold hW)
  clear hW hs hJ hJx hY h0 rs hE hPc
  have hmm := @run_makeMap Try.prog
  have cs3 : ∀ o1 o2 o3, (((W.alloc o1).alloc o2).alloc o3).cell? ⟨Bs, 0, none⟩ = some (.func (.func gs) #[] lbs) := fun o1 o2 o3 => (((((Below.refl _ W).alloc (Nat.le_refl _) o1).alloc (by simp) o2).alloc (by simp; omega) o3).cell (p := ⟨Bs, 0, none⟩) ls).trans cs
  refine callsIn_of_wp_marks Try.func34 rfl (hF _) ?_ hro
  simp only [Try.ntmps34, List.size_toArray, List.length_cons, List.length_nil, Nat.reduceAdd, Nat.reduceSub, Array.replicate_succ, Array.replicate_zero, List.push_toArray, List.append_toArray, List.nil_append, List.cons_append]
  gi_wp2_with (gi_at_call 26; refine (told_in F (n - 1) (hF _) hro _ ⟨_, _, _, .inl rfl⟩ _).mono ?_; rintro e w' ⟨rfl, rfl⟩)
  obtain ⟨V, hV⟩ : ∃ V, (((W.alloc (.cells #[.func (.yield l) #[] #[]] 43)).alloc (.map #[] 0)).alloc (.cells #[.map (some (W.heap.size + 1))] 57)).alloc (.cells #[.func (.func gs) #[] lbs] 26) = V := ⟨_, rfl⟩
  have bV : Below W.heap.size W V := by rw [← hV]; exact ((((Below.refl _ W).alloc (Nat.le_refl _) _).alloc (by simp) _).alloc (by simp; omega) _).alloc (by simp; omega) _
  have zV : V.heap.size = W.heap.size + 4 := by rw [← hV]; simp
  have r0 : Row V W.heap.size 43 #[.func (.yield l) #[] #[]] := by rw [← hV]; exact (((Row.made W _ _).alloc _).alloc _).alloc _
  have rM : Sn (W.heap.size + 1) [] V := by
    rw [← hV]
    have h1 := World.ownsMap_made (H := Unit) (W.alloc (.cells #[.func (.yield l) #[] #[]] 43)) Try.prog 3 (unitElem (H := Unit))
    rw [World.size_alloc] at h1
    exact ⟨0, _, (h1.alloc _).alloc _, Nat.le_refl _, fun y => rfl⟩
  have r1 : Row V (W.heap.size + 2) 57 #[.map (some (W.heap.size + 1))] := by
    rw [← hV]; have := (Row.made ((W.alloc (.cells #[.func (.yield l) #[] #[]] 43)).alloc (.map #[] 0)) 57 #[.map (some (W.heap.size + 1))]).alloc (.cells #[.func (.func gs) #[] lbs] 26)
    rwa [World.size_alloc, World.size_alloc] at this
  have r2 : Row V (W.heap.size + 3) 26 #[.func (.func gs) #[] lbs] := by
    rw [← hV]; have := Row.made (((W.alloc (.cells #[.func (.yield l) #[] #[]] 43)).alloc (.map #[] 0)).alloc (.cells #[.map (some (W.heap.size + 1))] 57)) 26 #[.func (.func gs) #[] lbs]
    rwa [World.size_alloc, World.size_alloc, World.size_alloc] at this
  obtain ⟨X, hX⟩ : ∃ X : Own, X = fun j => j = W.heap.size ∨ j = W.heap.size + 2 ∨ j = W.heap.size + 3 := ⟨_, rfl⟩
  have jV : J (fun j => (fun _ => False) j ∨ X j) (onc []) V := by
    rw [← hV, hX]
    refine HJ.out.sub _ _ _ _ ?_ (HJ.out.alloc _ _ _ _ (HJ.out.alloc _ _ _ _ (HJ.out.alloc _ _ _ _ (HJ.out.alloc _ _ _ _ H0.out))))
    rintro j (e | e | e | e)
    · exact e.elim
    · exact .inl (.inl (.inl (.inr e)))
    · exact .inl (.inr (by simpa using e))
    · exact .inr (by simpa using e)
  have hXc : X (W.heap.size + 2) := by rw [hX]; exact .inr (.inl rfl)
  have hXs : X (W.heap.size + 3) := by rw [hX]; exact .inr (.inr rfl)
  have hXy : X W.heap.size := by rw [hX]; exact .inl rfl
  have kV : KeepO P W (fun _ => False) V := ⟨Hold.below bV, fun _ _ e => e⟩
  rw [hV]
  have HT := Lib.hid (told_any F (n - 1) hF hro gs lbs d (by omega) (fun j => P j ∨ j = W.heap.size + 3) (Firsts zs) (Sq.Next zs) (W.heap.size + 3) V (fun j hj => hj.elim (fun hj => HC.out.hold (Hold.below bV) j hj) (fun e => by subst e; exact ⟨_, _, r2⟩)) (.inr rfl) eg r2 ((HE.out.later (Hold.below bV)).less (fun _ => .inl)))
  obtain ⟨I, hI⟩ : ∃ I : Own → List Int → World → Prop, I = fun (O : Own) (pre : List Int) A => (((((J (fun j => O j ∨ X j) (onc pre) A ∧ Row A W.heap.size 43 #[.func (.yield l) #[] #[]] ∧ ¬ O W.heap.size) ∧ Row A (W.heap.size + 2) 57 #[.map (some (W.heap.size + 1))] ∧ ¬ O (W.heap.size + 2)) ∧ ¬ O (W.heap.size + 1) ∧ Sn (W.heap.size + 1) pre A) ∧ KeepO P W O A) ∧ KeepO (fun j => j = W.heap.size + 3) V O A) := ⟨_, rfl⟩
  obtain ⟨Ix, hIx⟩ : ∃ Ix : Code → Own → List Int → World → Prop, Ix = fun c (O : Own) (pre : List Int) A => (c = .ret ∧ ∃ ys : List Int, ys <+: zs ∧ Jx (fun j => O j ∨ X j) (onc ys) A) := ⟨_, rfl⟩
  have HIE : Hid (∀ O pre A, I O pre A ↔ ((((((J (fun j => O j ∨ X j) (onc pre) A ∧ Row A W.heap.size 43 #[.func (.yield l) #[] #[]] ∧ ¬ O W.heap.size) ∧ Row A (W.heap.size + 2) 57 #[.map (some (W.heap.size + 1))] ∧ ¬ O (W.heap.size + 2)) ∧ ¬ O (W.heap.size + 1) ∧ Sn (W.heap.size + 1) pre A) ∧ KeepO P W O A) ∧ KeepO (fun j => j = W.heap.size + 3) V O A))) := Lib.hid (fun O pre A => by rw [hI])
  have HXE : Hid (∀ c O pre A, Ix c O pre A ↔ (c = .ret ∧ ∃ ys : List Int, ys <+: zs ∧ Jx (fun j => O j ∨ X j) (onc ys) A)) := Lib.hid (fun c O pre A => by rw [hIx])
  have HS : Hid (Stb V.heap.size I) := Lib.hid (by
    rw [hI]; exact ((((((((HJ.out.base X).at (fun pre : List Int => onc pre)).row W.heap.size 43 (fun _ => #[.func (.yield l) #[] #[]])).row (W.heap.size + 2) 57 (fun _ => #[.map (some (W.heap.size + 1))])).mono (B' := V.heap.size) (by omega)).sn (W.heap.size + 1) (by omega) (fun pre => pre)).keep HC.out).keep (P := fun j => j = W.heap.size + 3) (w := V) (fun j e => by subst e; exact ⟨_, _, r2⟩)))
  have HSX : Hid (∀ c : Code, Stb W.heap.size (Ix c)) := Lib.hid (fun c => by
    rw [hIx]; exact (Stb.ex (fun ys : List Int => ((HJX.out.base X).at (fun _ : List Int => onc ys)).pure (fun _ => ys <+: zs))).pure (fun _ => c = .ret))
  have I0 : Hid (I (fun _ => False) [] V) := Lib.hid (by
    rw [hI]; exact ⟨⟨⟨⟨⟨jV, r0, id⟩, r1, id⟩, id, rM⟩, kV⟩, ⟨Hold.refl _ _, fun _ _ e => e⟩⟩)
  clear hI hIx hV r0 r1 r2 jV kV hX rM hmm cs3
  refine wpIn_rangeTel (d := d + 2) hro h1 (gf := 39) (lb := #[.pointer (some ⟨W.heap.size + 3, 0, none⟩)]) rfl (hF _) (enters_of Try.func39 (by kernel_rfl) rfl) HT.out (Hold.refl _ _) (fun _ => rfl)
    I Ix HS.out (fun c => (HSX.out c).mono (by omega)) I0.out ?round ?done ?stop
  case round =>
    intro l2 O pre x X0 hl hI hnx hsz
    rw [put1]
    simp only [List.setIfInBounds_toArray, List.set_cons_succ, List.set_cons_zero]
    gi_wp2
    refine ⟨(KeepsOthers.refl _).from _, Kq.refl _ _ _ _, fun o o' ho hlo => ?_⟩
    have hs1 : V.heap.size + 2 ≤ (X0.putObj l2 o').heap.size := by simpa using hsz
    have HI := Lib.hid ((HIE.out _ _ _).1 (HS.out.put o' hI (by omega) hlo ho))
    clear hI hlo hsz
    generalize X0.putObj l2 o' = Z at HI hs1 ⊢
    obtain ⟨⟨⟨⟨⟨hj, hy, hny⟩, hc, hnc⟩, hnm, c, D, hown, hcl, hhas⟩, hkp⟩, hks⟩ := HI.out
    have x0 : Z.cell? ⟨W.heap.size + 2, 0, none⟩ = some (.map (some (W.heap.size + 1))) := (hc.cell 0).trans rfl
    have hxz : x ∈ zs := by obtain ⟨t, ht⟩ := (show pre ++ [x] <+: zs from hnx); rw [← ht]; simp
    have hpl : pre.length + 1 ≤ zs.length := by simpa using List.IsPrefix.length_le hnx
    have hCO : Hid (CallsIn F (n - 1 - (d + 2) - 1) Try.prog 35 #[.map (some (W.heap.size + 1)), .int .i64 x] Z _) := Lib.hid (by rw [HWD.out]; exact (callsIn_wide (n := n - 1 - (d + 2) - 1)).2 (comes_any (W.heap.size + 1) c D x (hzr x hxz) Z hown (by omega)))
    gi_wp2
    refine ⟨fun _ => by omega, (show CallsIn (F.inRound l2) (n - 1 - (d + 2) - 1) Try.prog 35 _ _ _ from hCO.out).mono ?_⟩
    rintro e Z2 ⟨rfl, hown2, ht2⟩
    rw [hhas x]
    have hmz : ∃ o, Z.heap[W.heap.size + 1]? = some o ∧ o.isCells = false := by
      obtain ⟨es, clock, hb, _⟩ := id hown
      exact ⟨_, hb, rfl⟩
    have y2 := hy.turns ht2 (by omega)
    have c2 := hc.turns ht2 (by omega)
    have j2 : J (fun j => O j ∨ X j) (onc pre) Z2 := HJ.out.walk _ _ _ _ _ hj (grown_turns ht2) (fun r e => by injection e with e; subst e; obtain ⟨o, h1, h2⟩ := hmz; exact ⟨by omega, o, h1, h2⟩)
    have SN2 := Lib.hid (Sn.put (x := x) hown hcl hhas hown2)
    have KP2 : Hid (KeepO P W O Z2) := Lib.hid ⟨hkp.1.trans ⟨ht2.size, fun k cs t hk h => (ht2.block k (Array.getElem?_eq_some_iff.1 h).1 (fun e => by have := hPl k hk; omega)).trans h⟩, hkp.2⟩
    have KS2 : Hid (KeepO (fun j => j = W.heap.size + 3) V O Z2) := Lib.hid ⟨hks.1.trans ⟨ht2.size, fun k cs t hk h => (ht2.block k (Array.getElem?_eq_some_iff.1 h).1 (fun e => by have hk : k = W.heap.size + 3 := hk; omega)).trans h⟩, hks.2⟩
    have KF2 : Hid (KeepsFrom V.heap.size Z Z2) := Lib.hid ⟨ht2.size, fun k o hk h _ => (ht2.block k (Array.getElem?_eq_some_iff.1 h).1 (fun e => by omega)).trans h⟩
    have KQ2 : Hid (Kq (fun j => P j ∨ j = W.heap.size + 3) O (V.heap.size + 2) Z Z2) := Lib.hid ⟨⟨ht2.size, fun k o hk h _ => (ht2.block k (Array.getElem?_eq_some_iff.1 h).1 (fun e => by omega)).trans h⟩, fun k cs t h hk => (ht2.block k (Array.getElem?_eq_some_iff.1 h).1 (fun e => by
      subst e
      rcases hk with h | h | h
      · exact hnm h
      · have := hPl _ h; omega
      · omega)).trans h⟩
    have x1 : Z2.cell? ⟨W.heap.size, 0, none⟩ = some (.func (.yield l) #[] #[]) := (y2.cell 0).trans rfl
    have hz2 := ht2.size
    have HNX := Lib.hid hnx
    clear hown hown2 ht2 hmz hcl hhas hkp hks hCO hj hy hc x0 HI hnx
    by_cases hx2 : x ∈ pre
    · have hd : (!decide (x ∈ pre)) = false := by simp [hx2]
      rw [hd]
      have HJ2 : Hid (J (fun j => O j ∨ X j) (onc (pre ++ [x])) Z2) := Lib.hid (by rw [onc_snoc, if_pos ((onc_mem _ _).2 hx2)]; exact j2)
      clear hd hx2 j2
      gi_wp2
      exact ⟨KF2.out, KQ2.out, (HIE.out _ _ _).2 ⟨⟨⟨⟨⟨HJ2.out, y2, hny⟩, c2, hnc⟩, hnm, SN2.out⟩, KP2.out⟩, KS2.out⟩⟩
    · have hd : (!decide (x ∈ pre)) = true := by simp [hx2]
      rw [hd]
      have HON : Hid (onc (pre ++ [x]) = onc pre ++ [x]) := Lib.hid (by rw [onc_snoc, if_neg (fun h => hx2 ((onc_mem _ _).1 h))])
      obtain ⟨fn, tmps, assign, body, hy, hR⟩ := HY.out _ (onc pre) x _ j2 ⟨pre, rfl, hx2, HNX.out⟩ (by omega)
      unfold enc at hy
      rw [show n - (d + 4) = n - 1 - (d + 2) - 1 by omega] at hR
      clear hd
      gi_wp2
      refine ⟨fun _ => by omega, (show RoundIn (F.inRound l2) (n - 1 - (d + 2) - 1) Try.prog l fn tmps assign body _ _ from hR).mono ?_⟩
      rintro e W3 ⟨hk3, ⟨rfl, hj3⟩ | ⟨rfl, hj3⟩⟩
      · have y3 := hk3.row (.inl (.inr hXy)) y2
        have c3 := hk3.row (.inl (.inr hXc)) c2
        gi_wp2
        refine ⟨KF2.out.trans (hk3.less (P' := fun _ => False) (O' := fun _ => False) (b' := V.heap.size) (by omega) (fun k e => e.elim False.elim False.elim)).1, KQ2.out.trans (hk3.less (by omega) (fun k e => e.elim (fun e => .inl (.inl e)) (fun e => e.elim .inr (fun e => .inl (.inr (by rw [e]; exact hXs)))))), (HIE.out _ _ _).2 ⟨⟨⟨⟨⟨by rw [HON.out]; exact hj3, y3, hny⟩, c3, hnc⟩, hnm, SN2.out.same (fun o h1 h2 => hk3.1.same _ _ (by omega) h1 h2)⟩, KP2.out.1.kq (hk3.less (O' := fun _ => False) (P' := P) (Nat.le_refl _) (fun k e => e.elim False.elim .inr)), KP2.out.2⟩, KS2.out.1.kq (hk3.less (O' := fun _ => False) (P' := fun j => j = W.heap.size + 3) (Nat.le_refl _) (fun k e => e.elim False.elim (fun e => .inl (.inr (by rw [e]; exact hXs))))), KS2.out.2⟩⟩
      · gi_wp2
        exact ⟨KF2.out.trans (hk3.less (P' := fun _ => False) (O' := fun _ => False) (b' := V.heap.size) (by omega) (fun k e => e.elim False.elim False.elim)).1, KQ2.out.trans (hk3.less (by omega) (fun k e => e.elim (fun e => .inl (.inl e)) (fun e => e.elim .inr (fun e => .inl (.inr (by rw [e]; exact hXs)))))), (HXE.out _ _ _ _).2 ⟨rfl, pre ++ [x], HNX.out, by rw [HON.out]; exact hj3⟩⟩
  case done =>
    intro D O xs W2 hD hO hS hI hK
    have e : xs = zs := hS
    subst e
    have hI := (HIE.out _ _ _).1 hI
    refine ⟨by simp, .inl ⟨_, _, rfl, run_takeDeferred hK, ?_⟩⟩
    exact ⟨_, results_none rfl _ _ _, ⟨_, rfl⟩, _, _, .inl ⟨⟨xs, rfl, by simp⟩, HJ.out.put _ hI.1.1.1.1.1 (by omega) hK rfl⟩⟩
  case stop =>
    intro D c O pre W2 hD hO hS hI hK
    obtain ⟨rfl, ys, hys, hj⟩ := (HXE.out _ _ _ _).1 hI
    refine wpIn_ret ?_
    refine ⟨by simp, .inl ⟨_, _, rfl, run_takeDeferred hK, ?_⟩⟩
    exact ⟨_, results_none rfl _ _ _, ⟨_, rfl⟩, _, _, .inr ⟨⟨ys, rfl, by simpa using hys⟩, HJX.out.put _ hj (by omega) hK rfl⟩⟩
end Go.Proofs.Ytkklceblojcbkaa.Sr
