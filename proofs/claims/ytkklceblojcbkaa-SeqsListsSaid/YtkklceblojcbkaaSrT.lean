/- Chunks, Steps and Once made; a count that a range's body keeps. -/
import Derived.Test.YtkklceblojcbkaaSrS
import Derived.Test.YtkklceblojcbkaaSrH
import Derived.Test.YtkklceblojcbkaaSrK
namespace Go.Proofs.Ytkklceblojcbkaa.Sr
open Go.RowKit Go.Proofs.Ytkklceblojcbkaa Go.Proofs.Ytkklceblojcbkaa.Sq
set_option linter.unusedVariables false
set_option maxRecDepth 100000
/-- One that tells to the body of a range what lies in memory. -/
def ItvW {α : Type} (encs : α → Array Value) (B : Nat) (w : World) (f : Value) (S : Bool → List α → Prop) (G : Own → List α → α → World → Prop) (d : Nat) : Prop := ∃ gs lbs P, f = .func (.func gs) #[] lbs ∧ Cells P w ∧ (∀ k, P k → B ≤ k) ∧ (∀ args w, (callFunc gs args).run Try.prog w = .ok (.enter gs args) w) ∧ ∀ n, d + 9 ≤ n → TelW d Fence.wide n Try.prog gs lbs encs P S G w
theorem Itb.it {B : Nat} {w : World} {f : Value} {zs : List Int} {d : Nat} (h : Itb B w f zs d) : It w f zs d := by
  obtain ⟨gs, lbs, P, rfl, hc, hl, eg, hE⟩ := h
  exact ⟨gs, lbs, P, rfl, hc, eg, hE⟩
theorem chunk_v (f : Value) (zs : List Int) (d B : Nat) (k : Int) (w : World) (hz : zs.length ≤ 65536) (hBw : B ≤ w.heap.size) (h : Itb B w f zs d) :
    Calls Try.prog 17 #[f, .int .i64 k] w fun e w' => ∃ f', e = .returned f' ∧ ItvW encC B w' f' (SC zs) (GC zs k) (d + 4) ∧ Below w.heap.size w w' := by
  obtain ⟨gs, lbs, P, rfl, hc, hlw, eg, hE⟩ := h
  have HC := Lib.hid hc
  have HE := Lib.hid hE
  have HG := Lib.hid eg
  have HLW := Lib.hid hlw
  clear hc hE eg hlw
  go_enter Try.func17, Try.ntmps17
  go_wp2
  go_ret
  have hb : Below w.heap.size w ((w.alloc (.cells #[.func (.func gs) #[] lbs] 26)).alloc (.cells #[.int .i64 k] 3)) := ((Below.refl _ w).alloc (Nat.le_refl _) _).alloc (by simp) _
  have rS := (Row.made w 26 #[.func (.func gs) #[] lbs]).alloc (.cells #[.int .i64 k] 3)
  have rK : Row ((w.alloc (.cells #[.func (.func gs) #[] lbs] 26)).alloc (.cells #[.int .i64 k] 3)) (w.heap.size + 1) 3 #[.int .i64 k] := by
    have := Row.made (w.alloc (.cells #[.func (.func gs) #[] lbs] 26)) 3 #[.int .i64 k]
    rwa [World.size_alloc] at this
  have hcp : Cells (fun j => P j ∨ j = w.heap.size ∨ j = w.heap.size + 1) ((w.alloc (.cells #[.func (.func gs) #[] lbs] 26)).alloc (.cells #[.int .i64 k] 3)) := fun j e => e.elim (fun e => HC.out.hold (Hold.below hb) j e) (fun e => e.elim (fun e => by subst e; exact ⟨_, _, rS⟩) (fun e => by subst e; exact ⟨_, _, rK⟩))
  exact ⟨_, rfl, ⟨_, _, fun j => P j ∨ j = w.heap.size ∨ j = w.heap.size + 1, rfl, hcp, fun j e => e.elim (HLW.out j) (fun e => by omega), enters_of Try.func31 (by kernel_rfl) rfl, fun n hn => chunks_y Fence.wide n (fun _ => trivial) rfl gs lbs d (by omega) _ _ _ k zs _ hz hcp (.inr (.inr rfl)) (.inr (.inl rfl)) HG.out rK rS (((HE.out (n - 2) (by omega)).later (Hold.below hb)).less (fun _ => .inl))⟩, hb⟩
theorem step_v (f : Value) (zs : List Int) (d B : Nat) (w : World) (hz : zs.length ≤ 1000000) (hBw : B ≤ w.heap.size) (h : Itb B w f zs d) :
    Calls Try.prog 18 #[f] w fun e w' => ∃ f', e = .returned f' ∧ Itv enc2 B w' f' (Firsts3 zs) (Next3 zs) (d + 6) ∧ Below w.heap.size w w' := by
  obtain ⟨gs, lbs, P, rfl, hc, hlw, eg, hE⟩ := h
  have HC := Lib.hid hc
  have HE := Lib.hid hE
  have HG := Lib.hid eg
  have HLW := Lib.hid hlw
  clear hc hE eg hlw
  go_enter Try.func18, Try.ntmps18
  go_wp2
  go_ret
  have hb : Below w.heap.size w (w.alloc (.cells #[.func (.func gs) #[] lbs] 26)) := (Below.refl _ w).alloc (Nat.le_refl _) _
  have rS := Row.made w 26 #[.func (.func gs) #[] lbs]
  have hcp : Cells (fun j => P j ∨ j = w.heap.size) (w.alloc (.cells #[.func (.func gs) #[] lbs] 26)) := fun j e => e.elim (fun e => HC.out.hold (Hold.below hb) j e) (fun e => by subst e; exact ⟨_, _, rS⟩)
  exact ⟨_, rfl, ⟨_, _, fun j => P j ∨ j = w.heap.size, rfl, hcp, fun j e => e.elim (HLW.out j) (fun e => by omega), enters_of Try.func32 (by kernel_rfl) rfl, fun n hn => step_y Fence.wide n (fun _ => trivial) rfl gs lbs d (by omega) _ _ zs _ hz hcp (.inr rfl) HG.out rS (((HE.out (n - 3) (by omega)).later (Hold.below hb)).less (fun _ => .inl))⟩, hb⟩
theorem Ear.weak {d : Nat} {F : Fence} {n g : Nat} {lb : Array Value} {P : Own} {S S' : Bool → List Int → Prop} {G G' : List Int → Int → Prop} {w : World} (h : Ear d F n g lb P S G w) (hS : ∀ b ys, S b ys → S' b ys) (hG : ∀ pre x, G pre x → G' pre x) : Ear d F n g lb P S' G' w :=
  fun a1 a2 J Jx O0 W hW hJ hJx hY h0 => (h a1 a2 J Jx O0 W hW hJ hJx (fun O pre x W1 hj hg hs => hY O pre x W1 hj (hG _ _ hg) hs) h0).mono fun e W' ⟨hv, O, ys, hp⟩ => ⟨hv, O, ys, hp.imp (fun x => ⟨hS _ _ x.1, x.2⟩) (fun x => ⟨hS _ _ x.1, x.2⟩)⟩
theorem onc_prefix {l zs : List Int} (h : l <+: zs) : onc l <+: onc zs := by
  obtain ⟨t, rfl⟩ := h
  induction t generalizing l with
  | nil => simp
  | cons a r ih =>
    have e : l ++ a :: r = (l ++ [a]) ++ r := by simp
    rw [e]
    refine List.IsPrefix.trans ?_ (ih (l := l ++ [a]))
    rw [onc_snoc]
    split
    · exact List.prefix_rfl
    · exact List.prefix_append _ _
theorem onc_le (l : List Int) : ∀ m, l.length = m → (onc l).length ≤ l.length
  | 0, h => by rw [List.eq_nil_of_length_eq_zero h]; exact Nat.le_refl _
  | m + 1, h => by
    have hl : l ≠ [] := fun e => by rw [e] at h; cases h
    obtain ⟨r, x, rfl⟩ : ∃ r x, l = r ++ [x] := ⟨l.dropLast, l.getLast hl, (List.dropLast_concat_getLast hl).symm⟩
    have ih := onc_le r m (by simpa using h)
    rw [onc_snoc]
    split
    · simp; omega
    · simp; omega
theorem once_it (f : Value) (zs : List Int) (d : Nat) (w : World) (hz : zs.length ≤ 100000) (hzr : ∀ x ∈ zs, -9223372036854775808 ≤ x ∧ x ≤ 9223372036854775807) (h : It w f zs d) :
    Calls Try.prog 20 #[f] w fun e w' => ∃ f', e = .returned f' ∧ It w' f' (onc zs) (d + 4) ∧ Below w.heap.size w w' := by
  obtain ⟨gs, lbs, P, rfl, hc, eg, hE⟩ := h
  have HC := Lib.hid hc
  have HE := Lib.hid hE
  have HG := Lib.hid eg
  have HZR := Lib.hid hzr
  clear hc hE eg hzr
  go_enter Try.func20, Try.ntmps20
  go_wp2
  go_ret
  have hb : Below w.heap.size w (w.alloc (.cells #[.func (.func gs) #[] lbs] 26)) := (Below.refl _ w).alloc (Nat.le_refl _) _
  have rS := Row.made w 26 #[.func (.func gs) #[] lbs]
  have hcp : Cells (fun j => P j ∨ j = w.heap.size) (w.alloc (.cells #[.func (.func gs) #[] lbs] 26)) := fun j e => e.elim (fun e => HC.out.hold (Hold.below hb) j e) (fun e => by subst e; exact ⟨_, _, rS⟩)
  refine ⟨_, rfl, ⟨_, _, fun j => P j ∨ j = w.heap.size, rfl, hcp, enters_of Try.func34 (by kernel_rfl) rfl, fun n hn => (once_e Fence.wide rfl n (fun _ => trivial) rfl gs lbs d (by omega) _ _ zs _ hz HZR.out hcp (.inr rfl) HG.out rS (((HE.out (n - 2) (by omega)).later (Hold.below hb)).less (fun _ => .inl))).weak ?_ ?_⟩, hb⟩
  · rintro b ys ⟨l, rfl, hl⟩
    cases b with
    | true => have e : l = zs := hl; subst e; exact rfl
    | false => exact onc_prefix hl
  · rintro pre x ⟨l, rfl, hx, hl⟩
    show onc l ++ [x] <+: onc zs
    have h := onc_prefix hl
    rwa [onc_snoc, if_neg (fun e => hx ((onc_mem _ _).1 e))] at h
/-- What a range's body keeps: a count in block b; what it reads; what runs at the end. -/
structure Inv (w0 V : World) (b : Nat) (PP : Own) (Ds : List Nat) (O : Own) (cs : Array Value) (A : World) : Prop where
  row : Row A b 3 cs
  nb : ¬ O b
  keep : KeepO PP V O A
  be : Below w0.heap.size w0 A
  ge : ∀ k, O k → w0.heap.size ≤ k
  dfs : ∀ D ∈ Ds, A.heap[D]? = some (.deferred (some [])) ∧ ¬ O D
theorem Stb.be {β : Type} {B : Nat} {J : Own → β → World → Prop} (h : Stb B J) (w0 : World) (hB : w0.heap.size ≤ B) : Stb B (fun O s A => J O s A ∧ Below w0.heap.size w0 A ∧ ∀ k, O k → w0.heap.size ≤ k) :=
  ⟨fun O O' s A hO hj => ⟨h.sub _ _ _ _ hO hj.1, hj.2.1, fun k e => hj.2.2 k (hO k e)⟩,
   fun O s A o hj => ⟨h.alloc _ _ _ o hj.1, hj.2.1.alloc hj.2.1.size _, fun k e => e.elim (hj.2.2 k) (fun e => by have := hj.2.1.size; omega)⟩,
   fun O s A k v hj hk => ⟨h.set _ _ _ _ _ hj.1 hk, hj.2.1.setCell (hj.2.2 k hk) _, hj.2.2⟩,
   fun O s A A' row hj hg hr => ⟨h.walk _ _ _ _ _ hj.1 hg hr, hj.2.1.grown hg hj.2.1.size (fun k e => Nat.le_trans hB (hr k e).1), hj.2.2⟩,
   fun O s A A' hj hg => ⟨h.turn _ _ _ _ hj.1 hg, hg.below hj.2.1 hj.2.1.size (fun k hk e => by have := hj.2.2 k e; omega), fun k e => e.elim (hj.2.2 k) (fun e => by have := hj.2.1.size; omega)⟩⟩
theorem Stb.tr {β : Type} {B : Nat} : Stb B (fun (_ : Own) (_ : β) (_ : World) => True) := ⟨fun _ _ _ _ _ h => h, fun _ _ _ _ h => h, fun _ _ _ _ _ h _ => h, fun _ _ _ _ _ h _ _ => h, fun _ _ _ _ h _ => h⟩
theorem Stb.iff {β : Type} {B : Nat} {J K : Own → β → World → Prop} (h : Stb B J) (e : ∀ O s A, J O s A ↔ K O s A) : Stb B K := by
  have : J = K := by funext O s A; exact propext (e O s A)
  rwa [this] at h
theorem inv_stb {β : Type} {w0 V : World} (b : Nat) (f : β → Array Value) {PP : Own} (hP : Cells PP V) {Ds : List Nat} (hD : ∀ D ∈ Ds, D < V.heap.size) (hB : w0.heap.size ≤ V.heap.size) : Stb V.heap.size (fun O (s : β) A => Inv w0 V b PP Ds O (f s) A) :=
  (((((Stb.tr (β := β) (B := V.heap.size)).row b 3 f).keep hP).be w0 hB).defs Ds hD).iff fun O s A =>
    ⟨fun ⟨⟨⟨⟨_, h1, h2⟩, h3⟩, h4, h5⟩, h6⟩ => ⟨h1, h2, h3, h4, h5, h6⟩, fun h => ⟨⟨⟨⟨trivial, h.row, h.nb⟩, h.keep⟩, h.be, h.ge⟩, h.dfs⟩⟩
theorem Inv.store {w0 V : World} {b : Nat} {PP : Own} {Ds : List Nat} {O : Own} {u : Value} {A : World} (h : Inv w0 V b PP Ds O #[u] A) (v : Value) (hb : w0.heap.size ≤ b) (hP : ¬ PP b) : Inv w0 V b PP Ds O #[v] (A.setCell ⟨b, 0, none⟩ v) :=
  ⟨by simpa using h.row.put 0 v, h.nb, ⟨h.keep.1.set hP 0 v, h.keep.2⟩, h.be.setCell hb _, h.ge, fun D hd => ⟨(heap_setCell_other _ _ D v (fun e => by
    have e : D = b := e
    have h1 := (h.dfs D hd).1
    have h2 : A.heap[b]? = some (.cells #[u] 3) := h.row
    rw [e, h2] at h1
    cases h1)).trans (h.dfs D hd).1, (h.dfs D hd).2⟩⟩
end Go.Proofs.Ytkklceblojcbkaa.Sr
