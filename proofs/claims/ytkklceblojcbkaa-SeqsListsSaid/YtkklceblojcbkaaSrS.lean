/- Chunks of any iterator (written by gen_srt). -/
import Derived.Test.YtkklceblojcbkaaSrR
namespace Go.Proofs.Ytkklceblojcbkaa.Sr
open Go.RowKit Go.Proofs.Ytkklceblojcbkaa Go.Proofs.Ytkklceblojcbkaa.Sq
set_option linter.unusedVariables false
set_option maxRecDepth 100000
attribute [local go_sem] Oper.semAt_some
set_option maxHeartbeats 2000000 in
theorem chunks_y (F : Fence) (n : Nat) (hF : ∀ k, F.fn k) (hro : F.round = none) (gs : Nat) (lbs : Array Value) (d : Nat) (hn : d + 6 ≤ n) (P : Own) (Bs Bk : Nat) (k : Int) (zs : List Int) (w : World) (hz : zs.length ≤ 65536) (hPc : Cells P w) (hPk : P Bk) (hPs : P Bs)
    (eg : ∀ args w, (callFunc gs args).run Try.prog w = .ok (.enter gs args) w) (hk : Row w Bk 3 #[.int .i64 k]) (hs : Row w Bs 26 #[.func (.func gs) #[] lbs]) (hE : Ear d F (n - 2) gs lbs P (Firsts zs) (Sq.Next zs) w) :
    TelW (d + 4) F n Try.prog 31 #[.pointer (some ⟨Bs, 0, none⟩), .pointer (some ⟨Bk, 0, none⟩)] encC P (SC zs) (GC zs k) w := fun l J Jx O0 W hW hJ hJx hY h0 => by
  have h1 : 1 ≤ n := by omega
  have hPl : ∀ k, P k → k < W.heap.size := fun k hk => (hPc.hold hW).lt hk
  have rk : Row W Bk 3 #[.int .i64 k] := hW.row hPk hk
  have lk : Bk < W.heap.size := rk.lt
  have ck : W.cell? ⟨Bk, 0, none⟩ = some (.int .i64 k) := (rk.cell 0).trans rfl
  have rs : Row W Bs 26 #[.func (.func gs) #[] lbs] := hW.row hPs hs
  have ls : Bs < W.heap.size := rs.lt
  have cs : W.cell? ⟨Bs, 0, none⟩ = some (.func (.func gs) #[] lbs) := (rs.cell 0).trans rfl
  have HJ := Lib.hid hJ
  have HJX := Lib.hid hJx
  have HY := Lib.hid hY
  have H0 := Lib.hid h0
  have HE := Lib.hid (hE.later hW)
  have HC := Lib.hid (hPc.hold hW)
  have HRK := Lib.hid rk
  clear hW hk hs hJ hJx hY h0 rk rs hE hPc
  refine callsIn_of_wp_marks Try.func31 rfl (hF _) ?_ hro
  simp only [Try.ntmps31, List.size_toArray, List.length_cons, List.length_nil, Nat.reduceAdd, Nat.reduceSub, Array.replicate_succ, Array.replicate_zero, List.push_toArray, List.append_toArray, List.nil_append, List.cons_append]
  gi_wp2_with (gi_at_call 26; refine (told_in F (n - 1) (hF _) hro _ ⟨_, _, _, .inl rfl⟩ _).mono ?_; rintro e w' ⟨rfl, rfl⟩)
  obtain ⟨V, hV⟩ : ∃ V, ((W.alloc (.cells #[.func (.yield l) #[] #[]] 55)).alloc (.cells #[.slice none 0 0] 22)).alloc (.cells #[.func (.func gs) #[] lbs] 26) = V := ⟨_, rfl⟩
  have bV : Below W.heap.size W V := by rw [← hV]; exact (((Below.refl _ W).alloc (Nat.le_refl _) _).alloc (by simp) _).alloc (by simp; omega) _
  have zV : V.heap.size = W.heap.size + 3 := by rw [← hV]; simp
  have r0 : Row V W.heap.size 55 #[.func (.yield l) #[] #[]] := by
    rw [← hV]; have := ((Row.made W 55 #[.func (.yield l) #[] #[]]).alloc (.cells #[.slice none 0 0] 22)).alloc (.cells #[.func (.func gs) #[] lbs] 26)
    exact this
  have r1 : Row V (W.heap.size + 1) 22 #[.slice none 0 0] := by
    rw [← hV]; have := (Row.made (W.alloc (.cells #[.func (.yield l) #[] #[]] 55)) 22 #[.slice none 0 0]).alloc (.cells #[.func (.func gs) #[] lbs] 26)
    rwa [World.size_alloc] at this
  have r2 : Row V (W.heap.size + 2) 26 #[.func (.func gs) #[] lbs] := by
    rw [← hV]; have := Row.made ((W.alloc (.cells #[.func (.yield l) #[] #[]] 55)).alloc (.cells #[.slice none 0 0] 22)) 26 #[.func (.func gs) #[] lbs]
    rwa [World.size_alloc, World.size_alloc] at this
  obtain ⟨X, hX⟩ : ∃ X : Own, X = fun j => j = W.heap.size ∨ j = W.heap.size + 1 ∨ j = W.heap.size + 2 := ⟨_, rfl⟩
  have jV : J (fun j => (fun _ => False) j ∨ (X j ∨ (none : Option Nat) = some j)) [] V := by
    rw [← hV, hX]
    refine HJ.out.sub _ _ _ _ ?_ (HJ.out.alloc _ _ _ _ (HJ.out.alloc _ _ _ _ (HJ.out.alloc _ _ _ _ H0.out)))
    rintro j (e | (e | e | e) | e)
    · exact e.elim
    · exact .inl (.inl (.inr e))
    · exact .inl (.inr (by simpa using e))
    · exact .inr (by simpa using e)
    · cases e
  have hXc : X (W.heap.size + 1) := by rw [hX]; exact .inr (.inl rfl)
  have hXs : X (W.heap.size + 2) := by rw [hX]; exact .inr (.inr rfl)
  have hXy : X W.heap.size := by rw [hX]; exact .inl rfl
  have kV : KeepO P W (fun _ => False) V := ⟨Hold.below bV, fun _ _ e => e⟩
  have hP2 : ∀ j, (P j ∨ j = W.heap.size + 2) → j < W.heap.size ∨ j = W.heap.size + 2 := fun j e => e.imp_left (hPl j)
  have HP2 := Lib.hid hP2
  rw [hV]
  have HT := Lib.hid (told_any F (n - 1) hF hro gs lbs d (by omega) (fun j => P j ∨ j = W.heap.size + 2) (Firsts zs) (Sq.Next zs) (W.heap.size + 2) V (fun j hj => hj.elim (fun hj => HC.out.hold (Hold.below bV) j hj) (fun e => by subst e; exact ⟨_, _, r2⟩)) (.inr rfl) eg r2 ((HE.out.later (Hold.below bV)).less (fun _ => .inl)))
  obtain ⟨I, hI⟩ : ∃ I : Own → List Int → World → Prop, I = fun (O : Own) (pre : List Int) A => ((((∃ cks cs v ob, (flat cks ++ cs = pre ∧ (cs.length : Int) < max k 1) ∧ Cu W.heap.size J X O A cks cs v ob) ∧ Row A W.heap.size 55 #[.func (.yield l) #[] #[]] ∧ ¬ O W.heap.size) ∧ KeepO P W O A) ∧ KeepO (fun j => j = W.heap.size + 2) V O A) := ⟨_, rfl⟩
  obtain ⟨Ix, hIx⟩ : ∃ Ix : Code → Own → List Int → World → Prop, Ix = fun c (O : Own) (pre : List Int) A => (c = .ret ∧ ∃ ys : List Ck, Jx (fun j => O j ∨ X j) ys A) := ⟨_, rfl⟩
  have HIE : Hid (∀ O pre A, I O pre A ↔ (((((∃ cks cs v ob, (flat cks ++ cs = pre ∧ (cs.length : Int) < max k 1) ∧ Cu W.heap.size J X O A cks cs v ob) ∧ Row A W.heap.size 55 #[.func (.yield l) #[] #[]] ∧ ¬ O W.heap.size) ∧ KeepO P W O A) ∧ KeepO (fun j => j = W.heap.size + 2) V O A))) := Lib.hid (fun O pre A => by rw [hI])
  have HXE : Hid (∀ c O pre A, Ix c O pre A ↔ (c = .ret ∧ ∃ ys : List Ck, Jx (fun j => O j ∨ X j) ys A)) := Lib.hid (fun c O pre A => by rw [hIx])
  have HS : Hid (Stb W.heap.size I) := Lib.hid (by
    rw [hI]; exact ((((cu_stb (L := W.heap.size) (X := X) HJ.out (fun cks cs pre => flat cks ++ cs = pre ∧ (cs.length : Int) < max k 1)).row W.heap.size 55 (fun _ => #[.func (.yield l) #[] #[]])).keep HC.out).keep (P := fun j => j = W.heap.size + 2) (w := V) (fun j e => by subst e; exact ⟨_, _, r2⟩)))
  have HSX : Hid (∀ c : Code, Stb W.heap.size (Ix c)) := Lib.hid (fun c => by
    rw [hIx]; exact (Stb.ex (fun ys : List Ck => (HJX.out.base X).at (fun _ : List Int => ys))).pure (fun _ => c = .ret))
  have I0 : Hid (I (fun _ => False) [] V) := Lib.hid (by
    rw [hI]; exact ⟨⟨⟨⟨[], [], _, none, ⟨rfl, by simp; omega⟩, ⟨jV, r1, Seg.nil _ _ _, (fun _ e => by cases e), (fun _ e => e.elim), (fun _ e => e.elim), by omega⟩⟩, r0, id⟩, kV⟩, ⟨Hold.refl _ _, fun _ _ e => e⟩⟩)
  have hbk : Bk ≠ W.heap.size + 1 := by omega
  clear hI hIx
  clear hV r0 r1 r2 jV kV hX hP2
  refine wpIn_rangeTel (d := d + 2) hro h1 (gf := 39) (lb := #[.pointer (some ⟨W.heap.size + 2, 0, none⟩)]) rfl (hF _) (enters_of Try.func39 (by kernel_rfl) rfl) HT.out (Hold.refl _ _) (fun _ => rfl)
    I Ix (HS.out.mono (by omega)) (fun c => (HSX.out c).mono (by omega)) I0.out ?round ?done ?stop
  case round =>
    intro l2 O pre x X0 hl hI hnx hsz
    have hpl : pre.length + 1 ≤ zs.length := by simpa using List.IsPrefix.length_le hnx
    obtain ⟨i0, hi0, hz0, hz1, hz2⟩ := info_parts int_info
    rw [put1]
    simp only [List.setIfInBounds_toArray, List.set_cons_succ, List.set_cons_zero]
    gi_wp2
    refine ⟨(KeepsOthers.refl _).from _, Kq.refl _ _ _ _, fun o o' ho hlo => ?_⟩
    have hs1 : V.heap.size + 2 ≤ (X0.putObj l2 o').heap.size := by simpa using hsz
    have HI := Lib.hid ((HIE.out _ _ _).1 (HS.out.put o' hI (by omega) hlo ho))
    clear hI hlo hsz
    generalize X0.putObj l2 o' = Z at HI hs1 ⊢
    obtain ⟨⟨⟨⟨cks, cs', v, ob, ⟨hpre, hcs⟩, hcu⟩, hy, hny⟩, hkp⟩, hks⟩ := HI.out
    have HCU := Lib.hid hcu
    have HPRE := Lib.hid hpre
    have hlen : cs'.length ≤ pre.length := by rw [← hpre]; simp [flat]
    obtain ⟨m, hm⟩ : ∃ m, cs'.length = m := ⟨_, rfl⟩
    have HM := Lib.hid hm
    have x0 : Z.cell? ⟨W.heap.size + 1, 0, none⟩ = some v := (hcu.row.cell 0).trans rfl
    have HKB : Hid (Row Z Bk 3 #[.int .i64 k]) := Lib.hid (hkp.1.row hPk HRK.out)
    have hap : Hid (∀ g, ob = some g → g ≠ Bk ∧ g ≠ W.heap.size + 1 ∧ g ≠ W.heap.size) := Lib.hid fun g e => by have := (hcu.own g e).1; omega
    have HSG : Hid (Seg Z 3 1 v m (ints cs') ob) := Lib.hid (by rw [← hm]; exact hcu.seg)
    have HY0 := Lib.hid hy
    have HNX := Lib.hid hnx
    have HKP := Lib.hid hkp
    have HKS := Lib.hid hks
    have hm2 : m ≤ 65535 := by omega
    rw [hm] at hcs hlen
    clear hm hcu hy hpre HI hnx hkp hks hlen hpl
    by_cases hlt : ((m : Int) + 1 < k)
    · gi_wp2_with (gi_at_builtin; refine wpListIn_append_seg _ rfl _ _ 22 rfl 3 i0 _ 1 8 Try.underlying22 hi0 hz0 hz1 hz2 rfl (by decide) _ m (ints cs') ob rfl (HSG.out.alloc _) ⟨Z.heap.size, 0, none⟩ 1 1 [.int .i64 x] rfl rfl (news_row (Row.made Z _ _)) (by simp [Value.oneCell']) (by decide) (by unfold maxLen; omega) (by omega) ?_; intro v2 w5 ob2 hs2 ht2 ho2; have r5 := (Row.alloc HCU.out.row (.cells #[.int .i64 x] 3)).turns ht2 (fun e => (hap.out _ e).2.1 rfl); have rb5 := (Row.alloc HKB.out (.cells #[.int .i64 x] 3)).turns ht2 (fun e => (hap.out _ e).1 rfl); obtain ⟨A2, cap2, rfl, hn5, hm5⟩ := hs2.form; have f0 := (r5.cell 0).trans rfl; have f1 := r5.free 0; have f2 := (rb5.cell 0).trans rfl; go_frame)
      have ry := ((Row.alloc HY0.out (.cells #[.int .i64 x] 3)).turns ht2 (fun e => (hap.out _ e).2.2 rfl)).past (p := ⟨W.heap.size + 1, 0, none⟩) (by simp) (.slice A2 (m + 1) cap2)
      have hk := fun b b' => HCU.out.keeps (P := fun j => P j ∨ j = W.heap.size + 2) (b := b) (b' := b') (v2 := .slice A2 (m + 1) cap2) HP2.out ht2
      have hm := HM.out
      subst hm
      refine ⟨(hk 0 _).2, (hk _ 0).1, (HIE.out _ _ _).2 ⟨⟨⟨⟨cks, cs' ++ [x], _, ob2, ⟨by rw [← List.append_assoc, HPRE.out], by simp; omega⟩, HCU.out.app HJ.out hXc hs2 ht2 ho2⟩, ry, hny⟩, HKP.out.1.kq ((hk 0 0).1.less (P' := P) (O' := fun _ => False) (Nat.le_refl _) (fun k e => e.elim False.elim (fun e => .inr (.inl e)))), HKP.out.2⟩, HKS.out.1.kq ((hk 0 0).1.less (P' := fun j => j = W.heap.size + 2) (O' := fun _ => False) (Nat.le_refl _) (fun k e => e.elim False.elim (fun e => .inr (.inr e)))), HKS.out.2⟩⟩
    · gi_wp2_with (gi_at_builtin; refine wpListIn_append_seg _ rfl _ _ 22 rfl 3 i0 _ 1 8 Try.underlying22 hi0 hz0 hz1 hz2 rfl (by decide) _ m (ints cs') ob rfl (HSG.out.alloc _) ⟨Z.heap.size, 0, none⟩ 1 1 [.int .i64 x] rfl rfl (news_row (Row.made Z _ _)) (by simp [Value.oneCell']) (by decide) (by unfold maxLen; omega) (by omega) ?_; intro v2 w5 ob2 hs2 ht2 ho2; have r5 := (Row.alloc HCU.out.row (.cells #[.int .i64 x] 3)).turns ht2 (fun e => (hap.out _ e).2.1 rfl); have rb5 := (Row.alloc HKB.out (.cells #[.int .i64 x] 3)).turns ht2 (fun e => (hap.out _ e).1 rfl); obtain ⟨A2, cap2, rfl, hn5, hm5⟩ := hs2.form; have f0 := (r5.cell 0).trans rfl; have f1 := r5.free 0; have f2 := (rb5.cell 0).trans rfl; have r6 := (Row.alloc HY0.out (.cells #[.int .i64 x] 3)).turns ht2 (fun e => (hap.out _ e).2.2 rfl); have f3 := (r6.cell 0).trans rfl; go_frame)
      obtain ⟨Y, hY⟩ : ∃ Y, w5.setCell ⟨W.heap.size + 1, 0, none⟩ (.slice A2 (m + 1) cap2) = Y := ⟨_, rfl⟩
      have hk := fun b b' => HCU.out.keeps (P := fun j => P j ∨ j = W.heap.size + 2) (b := b) (b' := b') (v2 := .slice A2 (m + 1) cap2) HP2.out ht2
      rw [hY] at hk
      have HC2 : Hid (Cu W.heap.size J X O Y cks (cs' ++ [x]) (.slice A2 (m + 1) cap2) ob2) := Lib.hid (by rw [← hY]; have hm := HM.out; subst hm; exact HCU.out.app HJ.out hXc hs2 ht2 ho2)
      have ry : Row Y W.heap.size 55 #[.func (.yield l) #[] #[]] := by rw [← hY]; exact r6.past (p := ⟨W.heap.size + 1, 0, none⟩) (by simp) _
      have hsY : W.heap.size ≤ Y.heap.size := by have := HC2.out.sz; omega
      have hnc : NxC zs k cks (Value.slice A2 (m + 1) cap2, cs' ++ [x]) := by
        have hm := HM.out
        refine ⟨?_, by simp, by simp; omega, fun h => by simp at h; omega⟩
        show flat cks ++ (cs' ++ [x]) <+: zs
        rw [← List.append_assoc, HPRE.out]
        exact HNX.out
      rw [hY]
      obtain ⟨fn, tmps, assign, body, hy, hR⟩ := HY.out _ cks (Value.slice A2 (m + 1) cap2, cs' ++ [x]) Y HC2.out.j ⟨hnc, ob2, by have := HC2.out.seg; exact this⟩ (by omega)
      unfold encC at hy
      rw [show n - (d + 4) = n - 1 - (d + 2) - 1 by omega] at hR
      have HK := Lib.hid hk
      have HPR2 : Hid (flat (cks ++ [(Value.slice A2 (m + 1) cap2, cs' ++ [x])]) ++ [] = pre ++ [x]) := Lib.hid (by rw [flat_snoc, List.append_nil, ← List.append_assoc, HPRE.out])
      clear hY hk hnc r5 rb5 r6 f0 f1 f2 f3 x0 ht2 ho2 hs2 hn5 hm5
      gi_wp2
      refine ⟨fun _ => by omega, (show RoundIn (F.inRound l2) (n - 1 - (d + 2) - 1) Try.prog l fn tmps assign body _ _ from hR).mono ?_⟩
      rintro e W3 ⟨hk3, ⟨rfl, hj3⟩ | ⟨rfl, hj3⟩⟩
      · have y3 := hk3.row (.inl (.inr (.inl hXy))) ry
        have c3 := hk3.row (.inl (.inr (.inl hXc))) HC2.out.row
        have g0 := (c3.cell 0).trans rfl
        have g1 := c3.free 0
        have HJ3 := Lib.hid hj3
        have HC3 := Lib.hid c3
        have HY3 := Lib.hid y3
        have HK3 := Lib.hid hk3
        clear hj3 c3 y3 hk3 hy
        gi_wp2
        have hk4 : Kq (fun j => P j ∨ j = W.heap.size + 2) O (V.heap.size + 2) Z (W3.setCell ⟨W.heap.size + 1, 0, none⟩ (.slice none 0 0)) := ((HK.out _ 0).1.trans (HK3.out.less (by omega) (fun k e => e.elim (fun e => .inl (.inl e)) (fun e => e.elim .inr (fun e => .inl (.inr (.inl (by rw [e]; exact hXs)))))))).trans (kq_set _ (fun e => e.elim (fun e => by have := HCU.out.ge _ e; omega) (fun e => by have := HP2.out _ e; omega)) _ _)
        have hs3 := HK3.out.1.size
        refine ⟨⟨hk4.1.size, fun k o hk ho => (((HK.out 0 V.heap.size).2.trans ((HK3.out.less (P' := fun _ => False) (O' := fun _ => False) (b' := V.heap.size) (by omega) (fun k e => e.elim False.elim False.elim)).1)).trans ((KeepsOthers.setCell _ _ _).from _)).same k o hk ho⟩, hk4, (HIE.out _ _ _).2 ⟨⟨⟨⟨cks ++ [(Value.slice A2 (m + 1) cap2, cs' ++ [x])], [], .slice none 0 0, none, ⟨HPR2.out, by simp; omega⟩, ?_⟩, HY3.out.past (p := ⟨W.heap.size + 1, 0, none⟩) (by simp) _, hny⟩, HKP.out.1.kq (hk4.less (P' := P) (O' := fun _ => False) (Nat.le_refl _) (fun k e => e.elim False.elim (fun e => .inr (.inl e)))), HKP.out.2⟩, HKS.out.1.kq (hk4.less (P' := fun j => j = W.heap.size + 2) (O' := fun _ => False) (Nat.le_refl _) (fun k e => e.elim False.elim (fun e => .inr (.inr e)))), HKS.out.2⟩⟩
        refine ⟨HJ.out.sub _ _ _ _ ?_ (HJ.out.set _ _ _ (W.heap.size + 1) (.slice none 0 0) HJ3.out (.inr (.inl hXc))), by simpa using HC3.out.put 0 (.slice none 0 0), Seg.nil _ _ _, (fun _ e => by cases e), HC2.out.ge, fun k e => by have := HC2.out.lt k e; simp; omega, by have := HC2.out.sz; simp; omega⟩
        rintro k (e | e | e)
        · exact .inl e
        · exact .inr (.inl e)
        · cases e
      · gi_wp2
        have hk4 : Kq (fun j => P j ∨ j = W.heap.size + 2) O (V.heap.size + 2) Z W3 := (HK.out _ 0).1.trans (hk3.less (by omega) (fun k e => e.elim (fun e => .inl (.inl e)) (fun e => e.elim .inr (fun e => .inl (.inr (.inl (by rw [e]; exact hXs)))))))
        exact ⟨(HK.out 0 V.heap.size).2.trans (hk3.less (P' := fun _ => False) (O' := fun _ => False) (b' := V.heap.size) (by omega) (fun k e => e.elim False.elim False.elim)).1, hk4, (HXE.out _ _ _ _).2 ⟨rfl, _, HJX.out.sub _ _ _ _ (fun k e => e.elim .inl (fun e => .inr (.inl e))) hj3⟩⟩
  case done =>
    intro D O xs W2 hD hO hS hI hK
    have e : xs = zs := hS
    subst e
    obtain ⟨⟨⟨⟨cks, cs', v, ob, ⟨hpre, hcs⟩, hcu⟩, hy, hny⟩, hkp⟩, hks⟩ := (HIE.out _ _ _).1 hI
    obtain ⟨A2, cap2, rfl, hn5, hm5⟩ := hcu.seg.form
    have HCU := Lib.hid hcu
    have x0 : W2.cell? ⟨W.heap.size + 1, 0, none⟩ = some _ := (hcu.row.cell 0).trans rfl
    have y0 : W2.cell? ⟨W.heap.size, 0, none⟩ = some _ := (hy.cell 0).trans rfl
    have hsW : W.heap.size ≤ W2.heap.size := by have := hcu.sz; omega
    by_cases hc0 : cs' = []
    · subst hc0
      have HPRE := Lib.hid hpre
      have HK := Lib.hid hK
      clear hcu hy hkp hks hI hpre hK hcs
      simp only [List.length_nil] at x0 hn5
      gi_wp2
      refine ⟨by simp, .inl ⟨_, _, rfl, run_takeDeferred HK.out, ?_⟩⟩
      exact ⟨_, results_none rfl _ _ _, ⟨_, rfl⟩, _, _, .inl ⟨fun _ => by have := HPRE.out; simpa using this, HJ.out.put _ HCU.out.j (by omega) HK.out rfl⟩⟩
    · have hl0 : 0 < cs'.length := List.length_pos_iff.2 hc0
      have hnc : NxC xs k cks (Value.slice A2 cs'.length cap2, cs') := ⟨by rw [hpre]; exact List.prefix_rfl, hl0, by simp; omega, fun _ => hpre⟩
      obtain ⟨fn, tmps, assign, body, hy2, hR⟩ := HY.out _ cks (Value.slice A2 cs'.length cap2, cs') W2 hcu.j ⟨hnc, ob, hcu.seg⟩ hsW
      unfold encC at hy2
      have hR := RoundIn.more' hR (n' := n - 1) (by omega)
      have HPRE := Lib.hid hpre
      have HK := Lib.hid hK
      have HLN := Lib.hid hcs
      obtain ⟨m, hm⟩ : ∃ m, cs'.length = m := ⟨_, rfl⟩
      rw [hm] at x0 hy2 hl0
      clear hcu hy hkp hks hI hpre hK hcs hm
      gi_wp2
      refine hR.mono ?_
      rintro e W3 ⟨hk3, ⟨rfl, hj3⟩ | ⟨rfl, hj3⟩⟩
      · gi_wp2
        have hK3 := hk3.1.same _ _ (by omega) HK.out rfl
        refine ⟨by simp, .inl ⟨_, _, rfl, run_takeDeferred hK3, ?_⟩⟩
        exact ⟨_, results_none rfl _ _ _, ⟨_, rfl⟩, _, _, .inl ⟨fun _ => by rw [flat_snoc, HPRE.out], HJ.out.put _ hj3 (by omega) hK3 rfl⟩⟩
      · gi_wp2
        have hK3 := hk3.1.same _ _ (by omega) HK.out rfl
        refine ⟨by simp, .inl ⟨_, _, rfl, run_takeDeferred hK3, ?_⟩⟩
        exact ⟨_, results_none rfl _ _ _, ⟨_, rfl⟩, _, _, .inr ⟨(by unfold SC; simp), HJX.out.put _ hj3 (by omega) hK3 rfl⟩⟩
  case stop =>
    intro D c O pre W2 hD hO hS hI hK
    obtain ⟨rfl, ys, hj⟩ := (HXE.out _ _ _ _).1 hI
    refine wpIn_ret ?_
    refine ⟨by simp, .inl ⟨_, _, rfl, run_takeDeferred hK, ?_⟩⟩
    exact ⟨_, results_none rfl _ _ _, ⟨_, rfl⟩, _, _, .inr ⟨(by unfold SC; simp), HJX.out.put _ hj (by omega) hK rfl⟩⟩
end Go.Proofs.Ytkklceblojcbkaa.Sr
