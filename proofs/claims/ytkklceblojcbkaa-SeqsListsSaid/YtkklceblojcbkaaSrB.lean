/- told of any iterator that tells to told's ear; Of is one. -/
import Derived.Test.YtkklceblojcbkaaSrA
namespace Go.Proofs.Ytkklceblojcbkaa.Sr
open Go.RowKit Go.Proofs.Ytkklceblojcbkaa Go.Proofs.Ytkklceblojcbkaa.Sq
set_option linter.unusedVariables false
set_option maxRecDepth 100000
attribute [local go_sem] Oper.semAt_some
theorem Stb.base {β : Type} {B : Nat} {J : Own → β → World → Prop} (h : Stb B J) (X : Own) : Stb B (fun O s A => J (fun k => O k ∨ X k) s A) :=
  ⟨fun O O' s A hO hj => h.sub _ _ _ _ (fun k e => e.imp_left (hO k)) hj, fun O s A o hj => h.sub _ _ _ _ (fun k e => e.elim (fun e => e.elim (fun e => .inl (.inl e)) .inr) (fun e => .inl (.inr e))) (h.alloc _ _ _ o hj),
   fun O s A k v hj hk => h.set _ _ _ _ _ hj (.inl hk), fun O s A A' row hj hg hr => h.walk _ _ _ _ _ hj hg hr, fun O s A A' hj hg => h.sub _ _ _ _ (fun k e => e.elim (fun e => e.elim (fun e => .inl (.inl e)) .inr) (fun e => .inl (.inr e))) (h.turn _ _ _ _ hj (hg.mono (fun _ _ e => .inl e)))⟩
theorem Stb.row {β : Type} {B : Nat} {J : Own → β → World → Prop} (h : Stb B J) (b : Nat) (t : TypeId) (cs : β → Array Value) : Stb B (fun O s A => J O s A ∧ Row A b t (cs s) ∧ ¬ O b) :=
  ⟨fun O O' s A hO hj => ⟨h.sub _ _ _ _ hO hj.1, hj.2.1, fun e => hj.2.2 (hO _ e)⟩, fun O s A o hj => ⟨h.alloc _ _ _ o hj.1, hj.2.1.alloc o, fun e => e.elim hj.2.2 (fun e => by have := hj.2.1.lt; omega)⟩,
   fun O s A k v hj hk => ⟨h.set _ _ _ _ _ hj.1 hk, (heap_setCell_other _ _ b v (fun e => hj.2.2 (e ▸ hk))).trans hj.2.1, hj.2.2⟩, fun O s A A' row hj hg hr => ⟨h.walk _ _ _ _ _ hj.1 hg hr, row_kept' hj.2.1 hg (fun x e => (hr x e).2), hj.2.2⟩, fun O s A A' hj hg => ⟨h.turn _ _ _ _ hj.1 hg, hj.2.1.turns hg hj.2.2, fun e => e.elim hj.2.2 (fun e => by have := hj.2.1.lt; omega)⟩⟩
theorem Stb.pure {β : Type} {B : Nat} {J : Own → β → World → Prop} (h : Stb B J) (p : β → Prop) : Stb B (fun O s A => p s ∧ J O s A) :=
  ⟨fun O O' s A hO hj => ⟨hj.1, h.sub _ _ _ _ hO hj.2⟩, fun O s A o hj => ⟨hj.1, h.alloc _ _ _ o hj.2⟩, fun O s A k v hj hk => ⟨hj.1, h.set _ _ _ _ _ hj.2 hk⟩, fun O s A A' row hj hg hr => ⟨hj.1, h.walk _ _ _ _ _ hj.2 hg hr⟩, fun O s A A' hj hg => ⟨hj.1, h.turn _ _ _ _ hj.2 hg⟩⟩
theorem Stb.or {β : Type} {B : Nat} {J K : Own → β → World → Prop} (h : Stb B J) (k : Stb B K) : Stb B (fun O s A => J O s A ∨ K O s A) :=
  ⟨fun O O' s A hO hj => hj.imp (h.sub _ _ _ _ hO) (k.sub _ _ _ _ hO), fun O s A o hj => hj.imp (h.alloc _ _ _ o) (k.alloc _ _ _ o), fun O s A i v hj hk => hj.imp (fun x => h.set _ _ _ _ _ x hk) (fun x => k.set _ _ _ _ _ x hk), fun O s A A' row hj hg hr => hj.imp (fun x => h.walk _ _ _ _ _ x hg hr) (fun x => k.walk _ _ _ _ _ x hg hr), fun O s A A' hj hg => hj.imp (fun x => h.turn _ _ _ _ x hg) (fun x => k.turn _ _ _ _ x hg)⟩
theorem Stb.ex {β γ : Type} {B : Nat} {J : γ → Own → β → World → Prop} (h : ∀ c, Stb B (J c)) : Stb B (fun O s A => ∃ c, J c O s A) :=
  ⟨fun O O' s A hO ⟨c, hj⟩ => ⟨c, (h c).sub _ _ _ _ hO hj⟩, fun O s A o ⟨c, hj⟩ => ⟨c, (h c).alloc _ _ _ o hj⟩, fun O s A k v ⟨c, hj⟩ hk => ⟨c, (h c).set _ _ _ _ _ hj hk⟩, fun O s A A' row ⟨c, hj⟩ hg hr => ⟨c, (h c).walk _ _ _ _ _ hj hg hr⟩, fun O s A A' ⟨c, hj⟩ hg => ⟨c, (h c).turn _ _ _ _ hj hg⟩⟩
/-- What holds of a function of what came. -/
theorem Stb.at {β γ : Type} {B : Nat} {J : Own → β → World → Prop} (h : Stb B J) (f : γ → β) : Stb B (fun O s A => J O (f s) A) :=
  ⟨fun O O' s A hO hj => h.sub _ _ _ _ hO hj, fun O s A o hj => h.alloc _ _ _ o hj, fun O s A k v hj hk => h.set _ _ _ _ _ hj hk, fun O s A A' row hj hg hr => h.walk _ _ _ _ _ hj hg hr, fun O s A A' hj hg => h.turn _ _ _ _ hj hg⟩
theorem Stb.no {β : Type} {B : Nat} : Stb B (fun (_ : Own) (_ : β) (_ : World) => False) := ⟨fun _ _ _ _ _ h => h, fun _ _ _ _ h => h, fun _ _ _ _ _ h _ => h, fun _ _ _ _ _ h _ _ => h, fun _ _ _ _ h _ => h⟩
/-- The world grew; nothing old moved. -/
theorem Stb.grow {β : Type} {B : Nat} {J : Own → β → World → Prop} (h : Stb B J) {O : Own} {s : β} {A A' : World} (hj : J O s A) (hb : Below A.heap.size A A') : J O s A' := h.walk _ _ _ _ none hj (grown_of_below hb) (fun r e => by cases e)
theorem Stb.put {β : Type} {B : Nat} {J : Own → β → World → Prop} (h : Stb B J) {O : Own} {s : β} {A : World} {l : Nat} {o : Obj} (o' : Obj) (hj : J O s A) (hl : B ≤ l) (ho : A.heap[l]? = some o) (hc : o.isCells = false) : J O s (A.putObj l o') :=
  h.walk _ _ _ _ _ hj (grownBy_putObj' A l o') (fun r e => by injection e with e; subst e; exact ⟨hl, _, ho, hc⟩)
/-- The old things that are read lie as they did, and are not owned. -/
def KeepO (P : Own) (w : World) (O : Own) (A : World) : Prop := Hold P w A ∧ ∀ k, P k → ¬ O k
/-- Blocks of cells. -/
def Cells (P : Own) (w : World) : Prop := ∀ k, P k → ∃ cs t, w.heap[k]? = some (.cells cs t)
theorem Cells.lt {P : Own} {w : World} (h : Cells P w) {k : Nat} (hk : P k) : k < w.heap.size := by
  obtain ⟨cs, t, e⟩ := h k hk
  exact (Array.getElem?_eq_some_iff.1 e).1
theorem Cells.hold {P : Own} {w W : World} (h : Cells P w) (hb : Hold P w W) : Cells P W := fun k hk => by
  obtain ⟨cs, t, e⟩ := h k hk
  exact ⟨cs, t, hb.2 k cs t hk e⟩
theorem Stb.keep {β : Type} {B : Nat} {J : Own → β → World → Prop} (h : Stb B J) {P : Own} {w : World} (hP : Cells P w) : Stb B (fun O s A => J O s A ∧ KeepO P w O A) :=
  ⟨fun O O' s A hO hj => ⟨h.sub _ _ _ _ hO hj.1, hj.2.1, fun k hk e => hj.2.2 k hk (hO k e)⟩,
   fun O s A o hj => ⟨h.alloc _ _ _ o hj.1, hj.2.1.trans (Hold.below ((Below.refl _ A).alloc (Nat.le_refl _) _)), fun k hk e => e.elim (hj.2.2 k hk) (fun e => by have := hP.lt hk; have := hj.2.1.1; omega)⟩,
   fun O s A k v hj hk => ⟨h.set _ _ _ _ _ hj.1 hk, hj.2.1.set (fun e => hj.2.2 k e hk) 0 v, hj.2.2⟩,
   fun O s A A' row hj hg hr => ⟨h.walk _ _ _ _ _ hj.1 hg hr, ⟨Nat.le_trans hj.2.1.1 hg.size, fun k cs t hk hc => row_kept' (t := t) (cs := cs) (hj.2.1.2 k cs t hk hc) hg (fun x e => (hr x e).2)⟩, hj.2.2⟩,
   fun O s A A' hj hg => ⟨h.turn _ _ _ _ hj.1 hg, ⟨Nat.le_trans hj.2.1.1 hg.size, fun k cs t hk hc => (hg.block k (Array.getElem?_eq_some_iff.1 (hj.2.1.2 k cs t hk hc)).1 (hj.2.2 k hk)).trans (hj.2.1.2 k cs t hk hc)⟩, fun k hk e => e.elim (hj.2.2 k hk) (fun e => by have := hP.lt hk; have := hj.2.1.1; omega)⟩⟩
theorem Ear.later {d : Nat} {F : Fence} {n g : Nat} {lb : Array Value} {P : Own} {S : Bool → List Int → Prop} {G : List Int → Int → Prop} {w V : World} (h : Ear d F n g lb P S G w) (hb : Hold P w V) : Ear d F n g lb P S G V := fun a1 a2 J Jx O0 W hW => h a1 a2 J Jx O0 W (hb.trans hW)
theorem Ear.less {d : Nat} {F : Fence} {n g : Nat} {lb : Array Value} {P P' : Own} {S : Bool → List Int → Prop} {G : List Int → Int → Prop} {w : World} (h : Ear d F n g lb P S G w) (hb : ∀ k, P k → P' k) : Ear d F n g lb P' S G w := fun a1 a2 J Jx O0 W hW hJ hJx hY => h a1 a2 J Jx O0 W ⟨hW.1, fun k cs t hk => hW.2 k cs t (hb k hk)⟩ hJ hJx (fun O pre x W1 hj hg hs => (hY O pre x W1 hj hg hs).mono fun e W' hp => ⟨hp.1.less (Nat.le_refl _) (fun k e => e.imp_right (hb k)), hp.2⟩)
/-- Of's things. -/
theorem of_ear (F : Fence) (n : Nat) (hF : ∀ k, F.fn k) (hro : F.round = none) (hn : 1 ≤ n) (P : Own) (Bn : Nat) (zs : List Int) (A : Option Addr) (cap : Nat) (ob : Option Nat) (w : World) (hP : ∀ g, ob = some g → P g) (hPn : P Bn) (hz : zs.length ≤ 1000000)
    (hB : Row w Bn 22 #[.slice A zs.length cap]) (hS : Seg w 3 1 (.slice A zs.length cap) zs.length (ints zs) ob) :
    Ear 1 F n 28 #[.pointer (some ⟨Bn, 0, none⟩)] P (Firsts zs) (Sq.Next zs) w := fun a1 a2 J Jx O0 W hW hJ hJx hY h0 => by
  have hSW : Seg W 3 1 (.slice A zs.length cap) zs.length (ints zs) ob := hW.seg hP hS
  refine (of1_in F n hF hro hn a1 a2 Bn zs A cap ob (fun pre wr => J O0 pre wr ∧ Seg wr 3 1 (.slice A zs.length cap) zs.length (ints zs) ob ∧ W.heap.size ≤ wr.heap.size) (fun pre wr => Jx O0 pre wr) W (fun _ _ h => h.2.1) (((hW.row hPn hB).cell 0).trans rfl) hz ?_ ⟨h0, hSW, Nat.le_refl _⟩).mono ?_
  · rintro pre x W1 ⟨hj, hs, hsz⟩ hg
    refine (hY O0 pre x W1 hj hg hsz).mono ?_
    rintro e W' ⟨hk, ⟨rfl, h⟩ | ⟨rfl, h⟩⟩
    · exact .inl ⟨rfl, h, hk.seg (fun g e => .inr (hP g e)) hs, Nat.le_trans hsz hk.1.size⟩
    · exact .inr ⟨rfl, h⟩
  · rintro e W' ⟨hv, h | ⟨pre, hp, h⟩⟩
    · exact ⟨hv, O0, zs, .inl ⟨rfl, h.1⟩⟩
    · exact ⟨hv, O0, pre, .inr ⟨hp, h⟩⟩
set_option maxHeartbeats 1000000 in
theorem told_any (F : Fence) (n : Nat) (hF : ∀ k, F.fn k) (hro : F.round = none) (gs : Nat) (lbs : Array Value) (d : Nat) (hn : d + 2 ≤ n) (P : Own) (S : Bool → List Int → Prop) (G : List Int → Int → Prop) (Bs : Nat) (w : World) (hPc : Cells P w) (hPs : P Bs)
    (eg : ∀ args w, (callFunc gs args).run Try.prog w = .ok (.enter gs args) w)
    (hs : Row w Bs 26 #[.func (.func gs) #[] lbs]) (hE : Ear d F (n - 1) gs lbs P S G w) :
    Tel (d + 2) F n Try.prog 39 #[.pointer (some ⟨Bs, 0, none⟩)] enc P S G w := fun l J Jx O0 W hW hJ hJx hY h0 => by
  have c0 : W.cell? ⟨Bs, 0, none⟩ = some (.func (.func gs) #[] lbs) := ((hW.row hPs hs).cell 0).trans rfl
  have hl : Bs < W.heap.size := (hW.row hPs hs).lt
  have hPl : ∀ k, P k → k < W.heap.size := fun k hk => (hPc.hold hW).lt hk
  obtain ⟨o1, ho1⟩ : ∃ o, o = Obj.cells #[.func (.yield l) #[] #[]] 43 := ⟨_, rfl⟩
  obtain ⟨o2, ho2⟩ : ∃ o, o = Obj.cells #[.bool true] 4 := ⟨_, rfl⟩
  have hb2 : Below W.heap.size W ((W.alloc o1).alloc o2) := ((Below.refl _ W).alloc (Nat.le_refl _) _).alloc (by simp) _
  have HQ : Hid (CallsIn F (n - 1) Try.prog gs (#[.func (.func 40) #[] #[.pointer (some ⟨W.heap.size + 1, 0, none⟩), .pointer (some ⟨W.heap.size, 0, none⟩)]] ++ lbs) ((W.alloc o1).alloc o2)
      fun e W' => (∃ v, e = .returned v) ∧ ∃ O ys, (S true ys ∧ J O ys W') ∨ (S false ys ∧ Jx O ys W')) := Lib.hid <| by
    have hX : Stb W.heap.size (fun O s A => J (fun k => O k ∨ (k = W.heap.size ∨ k = W.heap.size + 1)) s A) := hJ.base _
    refine (hE _ _ (fun O pre wr => (J (fun k => O k ∨ (k = W.heap.size ∨ k = W.heap.size + 1)) pre wr ∧ Row wr W.heap.size 43 #[.func (.yield l) #[] #[]] ∧ ¬ O W.heap.size) ∧ Row wr (W.heap.size + 1) 4 #[.bool true] ∧ ¬ O (W.heap.size + 1))
      (fun O pre wr => Jx (fun k => O k ∨ (k = W.heap.size ∨ k = W.heap.size + 1)) pre wr) (fun _ => False) _ (hW.trans (Hold.below hb2))
      (((hX.row W.heap.size 43 (fun _ => #[.func (.yield l) #[] #[]])).row (W.heap.size + 1) 4 (fun _ => #[.bool true])).mono hb2.size) ((hJx.base _).mono hb2.size) ?_ ?_).mono ?_
    · rintro O pre x W1 ⟨⟨hj, ry, ny⟩, ra, na⟩ hg hsz
      have hsz2 : W.heap.size ≤ W1.heap.size := Nat.le_trans hb2.size hsz
      rw [show n - 1 - d = n - 1 - d from rfl]
      refine told11_in F (n - 1 - d) hF hro (by omega) x (W.heap.size + 1) W.heap.size l _ W1 ((ra.cell 0).trans rfl) ((ry.cell 0).trans rfl) ?_
      rw [show n - 1 - d - 1 = n - (d + 2) by omega]
      obtain ⟨fn, tmps, assign, body, hy, hR⟩ := hY _ pre x W1 hj hg hsz2
      refine ⟨fn, tmps, assign, body, hy, hR.mono ?_⟩
      rintro e W' ⟨hk, h2⟩
      have ra' : Row W' (W.heap.size + 1) 4 #[.bool true] := hk.row (.inl (.inr (.inr rfl))) ra
      have ry' : Row W' W.heap.size 43 #[.func (.yield l) #[] #[]] := hk.row (.inl (.inr (.inl rfl))) ry
      have hP1 : ¬ P (W.heap.size + 1) := fun e => by have := hPl _ e; omega
      have hk2 : ∀ b, Kq P O ((W.alloc o1).alloc o2).heap.size W1 (W'.setCell ⟨W.heap.size + 1, 0, none⟩ b) := fun b =>
        (hk.less hb2.size (fun k e => e.elim (fun e => .inl (.inl e)) .inr)).trans (kq_set _ (fun e => e.elim na hP1) _ _)
      rcases h2 with ⟨rfl, h2⟩ | ⟨rfl, h2⟩
      · exact ⟨true, rfl, (ra'.cell 0).trans rfl, frozen_of_row _ _ _ _ _ ra', hk2 _, .inl ⟨rfl, ⟨hJ.set _ _ _ _ _ h2 (.inr (.inr rfl)), ry'.past (p := ⟨W.heap.size + 1, 0, none⟩) (by simp) _, ny⟩, by have := Row.put ra' 0 (.bool true); exact this, na⟩⟩
      · exact ⟨false, rfl, (ra'.cell 0).trans rfl, frozen_of_row _ _ _ _ _ ra', hk2 _, .inr ⟨rfl, hJx.set _ _ _ _ _ h2 (.inr (.inr rfl))⟩⟩
    · refine ⟨⟨hJ.sub _ _ _ _ ?_ (hJ.alloc _ _ _ o2 (hJ.alloc _ _ _ o1 h0)), ?_, id⟩, ?_, id⟩
      · rintro k (e | e | e)
        · exact e.elim
        · exact .inl (.inr e)
        · exact .inr (by simpa using e)
      · show ((W.alloc o1).alloc o2).heap[W.heap.size]? = _
        rw [Below.heap_alloc _ _ _ (by simp), World.alloc_heap_new, ho1]
      · have := World.alloc_heap_new (W.alloc o1) o2
        rw [World.size_alloc] at this
        show ((W.alloc o1).alloc o2).heap[W.heap.size + 1]? = _
        rw [this, ho2]
    · rintro e W' ⟨hv, O, ys, h | h⟩
      · exact ⟨hv, _, ys, .inl ⟨h.1, h.2.1.1⟩⟩
      · exact ⟨hv, _, ys, .inr h⟩
  refine callsIn_of_wp Try.func39 rfl (hF _) ?_ hro
  simp only [Try.ntmps39, List.size_toArray, List.length_cons, List.length_nil, Nat.reduceAdd, Nat.reduceSub, Array.replicate_succ, Array.replicate_zero, List.push_toArray, List.append_toArray, List.nil_append, List.cons_append]
  have q : ∀ wx, (binOp .eql 26 (.func (.func gs) #[] lbs) .nilFunc).run Try.prog wx = .ok (.bool false) wx := fun wx => rfl
  clear hs hW hJ hJx hY h0 hE
  subst ho1 ho2
  have hfn := hF gs
  gi_wp2
  refine ⟨fun _ => by omega, ?_⟩
  refine HQ.out.mono ?_
  rintro e w' ⟨⟨v, rfl⟩, hys⟩
  gi_wp2
  go_end0
  exact ⟨⟨_, rfl⟩, hys⟩
end Go.Proofs.Ytkklceblojcbkaa.Sr
