/- The law RunAgain. -/
import Derived.Test.YtaimbkikiokenaaRaE
import Derived.BigRegion
import Derived.Deep.RegionHeld
import Derived.Deep.RegionHeld3
import Derived.Laws.StructEq
namespace Go.Proofs.Ytaimbkikiokenaa.Rn
open Go.RowKit Go.Proofs.Ytaimbkikiokenaa Go.Proofs.Ytaimbkikiokenaa.Ev Go.Proofs.Ytaimbkikiokenaa.Pa Go.Proofs.Ytaimbkikiokenaa.Pq
set_option linter.unusedVariables false
set_option maxRecDepth 100000
/-- The law's own things: the query, its elements, the events. -/
structure LB (w W : World) (qb g o N c : Nat) (win cap : Int) (E : Nat → ElV) (v : Value) (xs : List EM) : Prop where
  q : Row W qb 44 #[.slice (some ⟨g, o, none⟩) N c, .int .i64 win, .int .i64 cap]
  le : LE W g o N E
  ev : EVS w W v xs
  ge : w.heap.size ≤ qb
section
variable {w W W' : World} {qb g o N c : Nat} {win cap : Int} {E : Nat → ElV} {v : Value} {xs : List EM}
theorem LB.call (h : LB w W qb g o N c win cap E v xs) (b : Below W.heap.size W W') : LB w W' qb g o N c win cap E v xs := ⟨h.q.below b h.q.lt, h.le.call b, EVS.call h.ev b, h.ge⟩
theorem LB.turns {S : Nat → Prop} (h : LB w W qb g o N c win cap E v xs) (T : Turns W W' S) (hS : ∀ k, S k → w.heap.size ≤ k ∧ ∃ t cs, Row W k t cs ∧ (t = 68 ∨ t = 52)) : LB w W' qb g o N c win cap E v xs := by
  have ne : ∀ {b : Nat} {t : TypeId} {cs : Array Value}, Row W b t cs → t ≠ 68 → t ≠ 52 → ¬ S b := fun hr h1 h2 hs => by
    obtain ⟨_, t', cs', hr', ht⟩ := hS _ hs
    exact row_ne hr hr' (by rcases ht with rfl | rfl <;> assumption) rfl
  obtain ⟨ob, h1, h2, h3⟩ := h.ev.sg
  refine ⟨h.q.turns T (ne h.q (by decide) (by decide)), h.le.turns T ?_, ⟨⟨ob, h1.turns T ?_, h2, fun e he => ⟨(h3 e he).row.turns T (ne (h3 e he).row (by decide) (by decide)), (h3 e he).ge, (h3 e he).ap, (h3 e he).tb, (h3 e he).ln⟩⟩, T.below h.ev.be h.ev.be.size (fun j hj e => by have := (hS j e).1; omega)⟩, h.ge⟩
  · obtain ⟨cs, k1, _⟩ := h.le.row
    exact ne k1 (by decide) (by decide)
  · intro b e
    obtain ⟨_, A, cap', _, _, _, h5⟩ := h1
    rcases h5 with ⟨_, h6, _⟩ | ⟨g', o', cur, _, a2, a3, _⟩
    · rw [h6] at e; cases e
    · rw [a2] at e; injection e with e; subst e
      exact ne a3 (by decide) (by decide)
end
/-- The run that is wanted, in its block; its things lie apart from it and from the list of pairs. -/
def RSq (W : World) (rb : Nat) (mo : Option Nat) (S : RS) : Prop := ∃ (st : Int) (pp pe : Option Addr) (ys : List (List Value)), Row W rb 52 #[.int .i64 st, .pointer pp, .pointer pe, .int .i64 S.f, .int .i64 S.lt, .int .i64 S.lq, .int .i64 0, .bool false] ∧ ChQ 2 W W.heap.size (fun b => mo ≠ some b ∧ b ≠ rb) pp (S.ps.map Pr.cells) ∧ ChQ 6 W W.heap.size (fun b => mo ≠ some b ∧ b ≠ rb) pe ys ∧ ys.length ≤ S.ps.length
theorem RSq.call {W W' : World} {rb : Nat} {mo : Option Nat} {S : RS} (h : RSq W rb mo S) (hb : Below W.heap.size W W') : RSq W' rb mo S := by
  obtain ⟨st, pp, pe, ys, h1, h2, h3, h4⟩ := h
  exact ⟨st, pp, pe, ys, h1.below hb h1.lt, h2.below hb hb.size, h3.below hb hb.size, h4⟩
/-- The list of pairs has grown. -/
theorem RSq.grow {W W' : World} {rb : Nat} {mo mo' : Option Nat} {S : RS} (h : RSq W rb mo S) (T : Turns W W' (fun k => mo = some k)) (hmo : ∀ b, mo = some b → ∃ cs, Row W b 68 cs) (ho : mo' = mo ∨ ∃ g, mo' = some g ∧ W.heap.size ≤ g) : RSq W' rb mo' S := by
  obtain ⟨st, pp, pe, ys, h1, h2, h3, h4⟩ := h
  have hP : ∀ b, b < W.heap.size → (mo ≠ some b ∧ b ≠ rb) → (mo' ≠ some b ∧ b ≠ rb) := fun b hb ⟨x1, x2⟩ => ⟨fun e => by
    rcases ho with h | ⟨g, h, hg⟩
    · exact x1 (by rw [← h]; exact e)
    · rw [h] at e; injection e with e; omega, x2⟩
  refine ⟨st, pp, pe, ys, h1.turns T (fun e => ?_), (ChQ.imp hP (h2.turns T (fun k hk e => hk.1 e))).below (Below.refl _ _) T.size, (ChQ.imp hP (h3.turns T (fun k hk e => hk.1 e))).below (Below.refl _ _) T.size, h4⟩
  obtain ⟨cs, hr⟩ := hmo rb e
  exact row_ne h1 hr (by decide) rfl
theorem RSq.next {W w6 W7 : World} {rb k : Nat} {mo : Option Nat} {S : RS} {x : EM} {st st' mx : Int} {pp pe pp' pe' : Option Addr} {ys : List (List Value)} {var : ByteArray} (hW : Wth W w6 pp' pe' (S.ps.map Pr.cells) ys k x.q mx var x.ty x.key x.t x.vs) (hF : WthF W w6 pp pe pp' pe' mx)
    (hmo : ∀ b, mo = some b → b < W.heap.size) (hrb : rb < W.heap.size) (h2 : ChQ 2 W W.heap.size (fun b => mo ≠ some b ∧ b ≠ rb) pp (S.ps.map Pr.cells)) (h3 : ChQ 6 W W.heap.size (fun b => mo ≠ some b ∧ b ≠ rb) pe ys) (h4 : ys.length ≤ S.ps.length)
    (T : Turns w6 W7 (fun j => j = rb)) (hrow : Row W7 rb 52 #[.int .i64 st', .pointer pp', .pointer pe', .int .i64 (if (S.ps.map Pr.cells).length = 0 then x.t else S.f), .int .i64 x.t, .int .i64 x.q, .int .i64 0, .bool false]) : RSq W7 rb mo (S.step k x) := by
  have hP : ∀ b, W.heap.size ≤ b → mo ≠ some b ∧ b ≠ rb := fun b hb => ⟨fun e => by have := hmo b e; omega, by omega⟩
  obtain ⟨⟨b1, rfl, g1, c1⟩, hen⟩ := hF
  have k2 := ChQ.cons hW.ch c1 (hP b1 g1) (h2.below hW.be hW.be.size)
  have f2 : ChQ 2 W7 W7.heap.size (fun b => mo ≠ some b ∧ b ≠ rb) (some ⟨b1, 0, none⟩) ((S.step k x).ps.map Pr.cells) := (ChQ.turns T (fun j hj e => hj.2 e) k2).below (Below.refl _ _) T.size
  have mv : ∀ {p : Option Addr} {L : List (List Value)}, ChQ 6 w6 w6.heap.size (fun b => mo ≠ some b ∧ b ≠ rb) p L → ChQ 6 W7 W7.heap.size (fun b => mo ≠ some b ∧ b ≠ rb) p L := fun h => (ChQ.turns T (fun j hj e => hj.2 e) h).below (Below.refl _ _) T.size
  rcases hen with ⟨n1, rfl⟩ | ⟨n1, b2, rfl, g2, c2⟩
  · exact ⟨st', _, _, ys, hrow, f2, mv (h3.below hW.be hW.be.size), by show _ ≤ (_ :: S.ps).length; rw [List.length_cons]; omega⟩
  · rcases hW.en with ⟨n2, _⟩ | ⟨_, yA, yc, _, he⟩
    · exact absurd n1 n2
    · exact ⟨st', _, _, _, hrow, f2, mv (ChQ.cons he c2 (hP b2 g2) (h3.below hW.be hW.be.size)), by show _ ≤ (_ :: S.ps).length; rw [List.length_cons, List.length_cons]; omega⟩
theorem RSq.rst {W : World} {rb : Nat} {mo : Option Nat} {S : RS} (h : RSq W rb mo S) : ∃ (st : Int) (pp pe : Option Addr) , Row W rb 52 #[.int .i64 st, .pointer pp, .pointer pe, .int .i64 S.f, .int .i64 S.lt, .int .i64 S.lq, .int .i64 0, .bool false] ∧ Ch 2 W W.heap.size pp (S.ps.map Pr.cells) := by
  obtain ⟨st, pp, pe, ys, h1, h2, _⟩ := h
  exact ⟨st, pp, pe, h1, h2.ch⟩
/-- Where the loop stands. -/
structure LP (w W : World) (qb g o N c : Nat) (win cap : Int) (E : Nat → ElV) (v : Value) (xs : List EM) (rb : Nat) (vm : Value) (ms : List Pr) (mo : Option Nat) (S : RS) : Prop where
  lb : LB w W qb g o N c win cap E v xs
  sg : Seg W 68 2 vm ms.length (ms.flatMap Pr.cells) mo
  mg : ∀ b, mo = some b → w.heap.size ≤ b
  rs : RSq W rb mo S
  rg : w.heap.size ≤ rb
  ks : ∀ p ∈ ms, ∃ k : Nat, p.k = k ∧ k < N
theorem LP.call {w W W' : World} {qb g o N c : Nat} {win cap : Int} {E : Nat → ElV} {v : Value} {xs : List EM} {rb : Nat} {vm : Value} {ms : List Pr} {mo : Option Nat} {S : RS} (h : LP w W qb g o N c win cap E v xs rb vm ms mo S) (hb : Below W.heap.size W W') : LP w W' qb g o N c win cap E v xs rb vm ms mo S :=
  ⟨h.lb.call hb, h.sg.turns (Turns.of_below hb) (fun _ _ x => x), h.mg, h.rs.call hb, h.rg, h.ks⟩
theorem seg_row {W : World} {e : TypeId} {size n : Nat} {v : Value} {L : List Value} {ob : Option Nat} (h : Seg W e size v n L ob) : ∀ b, ob = some b → ∃ cs, Row W b e cs := by
  intro b hb
  obtain ⟨_, A, cap', _, _, _, h5⟩ := h
  rcases h5 with ⟨_, h6, _⟩ | ⟨g', o', cur, _, a2, a3, _⟩
  · rw [h6] at hb; cases hb
  · rw [a2] at hb; injection hb with hb; subst hb
    exact ⟨cur, a3⟩
theorem LP.be {w W : World} {qb g o N c : Nat} {win cap : Int} {E : Nat → ElV} {v : Value} {xs : List EM} {rb : Nat} {vm : Value} {ms : List Pr} {mo : Option Nat} {S : RS} (h : LP w W qb g o N c win cap E v xs rb vm ms mo S) : Below w.heap.size w W := h.lb.ev.be
theorem LP.push {w W w5 : World} {qb g o N c k : Nat} {q : Int} {win cap : Int} {E : Nat → ElV} {v : Value} {xs : List EM} {rb : Nat} {vm v5 : Value} {ms : List Pr} {mo o5 : Option Nat} {S : RS} {ob : Obj} (h : LP w W qb g o N c win cap E v xs rb vm ms mo S) (hk : k < N)
    (hs : Seg w5 68 2 v5 (ms.length + 1) (ms.flatMap Pr.cells ++ [.int .i64 k, .int .i64 q]) o5) (ht : Turns (W.alloc ob) w5 (fun k => mo = some k)) (ho : o5 = mo ∨ ∃ g, o5 = some g ∧ (W.alloc ob).heap.size ≤ g) : LP w w5 qb g o N c win cap E v xs rb v5 (ms ++ [⟨k, q⟩]) o5 S := by
  have hb := (Below.refl W.heap.size W).alloc (Nat.le_refl _) ob
  have h1 := h.call hb
  have hz := h.be.size
  refine ⟨h1.lb.turns ht (fun k hk => ⟨h.mg k hk, ?_⟩), ?_, fun b e => ?_, h1.rs.grow ht (seg_row h1.sg) ho, h.rg, fun p hp => ?_⟩
  · obtain ⟨cs, hr⟩ := seg_row h1.sg k hk
    exact ⟨_, cs, hr, .inl rfl⟩
  · rw [List.length_append, List.flatMap_append]
    simpa [Pr.cells] using hs
  · rcases ho with h9 | ⟨g', h9, hg⟩
    · exact h.mg b (by rw [← h9]; exact e)
    · rw [h9] at e; injection e with e; simp at hg; omega
  · rcases List.mem_append.1 hp with hp | hp
    · exact h.ks p hp
    · rw [List.mem_singleton] at hp
      subst hp
      exact ⟨k, rfl, hk⟩
theorem fnd_in {xs : List EM} {y : Int} (hq : ∀ (i : Nat) (x : EM), xs[i]? = some x → x.q = (i : Int) + 1) (h1 : 1 ≤ y) (h2 : y ≤ (xs.length : Int)) : ∃ (j : Nat) (x : EM), y = (j : Int) + 1 ∧ fnd xs y = j ∧ xs[j]? = some x ∧ x.q = y := by
  rcases fnd_cases xs y with ⟨_, hn⟩ | ⟨j, x, hf, hx, hxq⟩
  · have hlt : (y - 1).toNat < xs.length := by omega
    have hx := List.getElem?_eq_getElem hlt
    have := hq _ _ hx
    exact absurd (by omega) (hn _ (List.getElem_mem hlt))
  · have := hq _ _ hx
    exact ⟨j, x, by omega, hf, hx, hxq⟩
theorem fnd_out {xs : List EM} {y : Int} (hq : ∀ (i : Nat) (x : EM), xs[i]? = some x → x.q = (i : Int) + 1) (h : ¬ (1 ≤ y ∧ y ≤ (xs.length : Int))) : fnd xs y = -1 := by
  rcases fnd_cases xs y with ⟨hf, _⟩ | ⟨j, x, _, hx, hxq⟩
  · exact hf
  · have h1 := hq _ _ hx
    have h2 := (List.getElem?_eq_some_iff.1 hx).1
    exact absurd ⟨by omega, by omega⟩ h
theorem two_news (w : World) (a0 a1 : Value) (a : Nat) (ha : w.heap.size = a) : ∀ j u, [a0, a1][j]? = some u → (w.alloc (.cells #[a0, a1] 68)).cell? ((⟨a, 0, none⟩ : Addr).add j) = some u := by
  subst ha
  intro j u hj
  rw [show ((⟨w.heap.size, 0, none⟩ : Addr).add j) = ⟨w.heap.size, j, none⟩ from by simp [Addr.add]; omega]
  exact ((Row.made w 68 #[a0, a1]).cell j).trans (by simpa using hj)
theorem LP.step {w W W7 : World} {qb g o N c : Nat} {win cap : Int} {E : Nat → ElV} {v : Value} {xs : List EM} {rb : Nat} {vm : Value} {ms : List Pr} {mo : Option Nat} {S S' : RS} {R : Array Value} (h : LP w W qb g o N c win cap E v xs rb vm ms mo S) (hr : Row W rb 52 R) (T : Turns W W7 (fun j => j = rb)) (hs : RSq W7 rb mo S') : LP w W7 qb g o N c win cap E v xs rb vm ms mo S' :=
  ⟨h.lb.turns T (fun k hk => by subst hk; exact ⟨h.rg, _, _, hr, .inr rfl⟩), h.sg.turns T (fun b hb e => by
    obtain ⟨cs, hp⟩ := seg_row h.sg b hb
    exact row_ne hp hr (by decide) e), h.mg, hs, h.rg, h.ks⟩
theorem LP.imp {w W : World} {qb g o N c : Nat} {win cap : Int} {E : Nat → ElV} {v : Value} {xs : List EM} {rb : Nat} {vm : Value} {ms : List Pr} {mo : Option Nat} {S S' : RS} (h : LP w W qb g o N c win cap E v xs rb vm ms mo S) (e : S' = S) : LP w W qb g o N c win cap E v xs rb vm ms mo S' := by rw [e]; exact h
theorem pl_seg {w : World} {v : Value} {ms : List Pr} {ob : Option Nat} (hs : Seg w 68 2 v ms.length (ms.flatMap Pr.cells) ob) : PL w w.heap.size v ms := by
  obtain ⟨A, c, rfl, h1, h2⟩ := hs.form
  refine ⟨A, c, rfl, h1, by unfold maxLen at h2; omega, fun k x hx => ?_⟩
  have hk : k < ms.length := (List.getElem?_eq_some_iff.1 hx).1
  obtain ⟨g, o, c', e, rfl, _, _, hc, _⟩ := hs.shape (by omega)
  injection e with e _ _
  subst e
  exact ⟨g, o, rfl, hs.lt _ rfl, hc _ _ (flat2_at ms k x hx 0 (by omega)), by rw [Nat.add_assoc]; exact hc _ _ (flat2_at ms k x hx 1 (by omega))⟩
theorem take_at {P : Program} {ops : Array Oper} {Q : Exit → Act → World → Prop} {md : Region.Mode} {S : World → Prop} {fuel : Nat} {listed : Array Bool} {a : Act} {w : World} (i : Nat) (d : Tmp) (oi : Oper) {v : Value} (hi : ops[i]? = some oi) (hd : oi.dst = some d)
    (hs : Region.noSelect ops = true) (hf : Region.free md ops listed i = true) (hr : (Region.ready md ops listed).contains i = true)
    (hQ : ∀ c a w, Q (.panic c) (a.put oi.dst v) w → Q (.panic c) a w) (hy : YieldsIf P ops S oi v a) (hS : S w)
    (h : wpAnyH P md ops Q S fuel (listed.setIfInBounds i true) (a.put (some d) v) w) : wpAnyH P md ops Q S (fuel + 1) listed a w :=
  wpAnyH_take hi hs hf hr hQ hy hS (by rw [hd]; exact h)
structure Cut_RaF (C : Prop) where
  G1 : Prop
  G2 : Prop
  ok : Go.RowKit.Hid G1 → Go.RowKit.Hid G2 → Go.RowKit.Hid True → C
set_option maxHeartbeats 8000000 in
noncomputable def part_RaF (A0 : Option Addr) (n0 c0 : Nat) (F0 : Nat → Int) (ln : n0 ≤ c0) (lc : c0 ≤ 9223372036854775807) (lb : ∀ k, -9223372036854775808 ≤ F0 k ∧ F0 k ≤ 9223372036854775807) (A1 : Option Addr) (n1 c1 : Nat) (F1 : Nat → Ev.EI) (ln1 : n1 ≤ c1) (lc1 : c1 ≤ 9223372036854775807) (A2 : Option Addr) (n2 c2 : Nat) (F2 : Nat → Int) (ln2 : n2 ≤ c2) (lc2 : c2 ≤ 9223372036854775807) (FB : Hid (∀ k, -9223372036854775808 ≤ F2 k ∧ F2 k ≤ 9223372036854775807)) (w : World) (L0 : Hid (Lies w w.heap.size A0 n0 (fun k => .int .i64 (F0 k)))) (L1 : Hid (ELies w w.heap.size A1 n1 F1)) (L2 : Hid (Lies w w.heap.size A2 n2 (fun k => .int .i64 (F2 k)))) :
    Cut_RaF (Calls Try.prog 5 #[.slice A0 n0 c0, .slice A1 n1 c1, .slice A2 n2 c2] w fun e w' => e = .returned (.bool true) ∧ Below w.heap.size w w') := by
  apply Cut_RaF.mk
  case ok =>
    intro g_1 g_2 g_last
    have M2 : Hid (Lies w w.heap.size A2 n2 (fun k => .int .i64 (F2 k))) := L2
    obtain ⟨B2, hB2⟩ : ∃ B, A2 = B := ⟨_, rfl⟩
    rw [hB2] at M2 ⊢
    have HB22 := Lib.hid hB2
    clear hB2
    go_enter Try.func5, Try.ntmps5
    go_wp2_with fail
    refine (query_any A0 n0 c0 F0 ln lc lb _ L0.out).mono ?_
    rintro e w1 ⟨v, win, cap, es, rfl, hQ, hG, hl1, hl4, hw1, hw2, hcap⟩
    obtain ⟨g, o, c, rfl, hLE, hg, hgq, hnc⟩ := qi_le hQ (by omega)
    have HL := Lib.hid (And.intro hl1 hl4)
    obtain ⟨N, hN⟩ : ∃ N, es.length = N := ⟨_, rfl⟩
    have hbq : Below w1.heap.size w1 (w1.alloc (.cells #[.slice (some ⟨g, o, none⟩) N c, .int .i64 win, .int .i64 cap] 44)) := (Below.refl _ _).alloc (Nat.le_refl _) _
    have HB2 := Lib.hid (hQ.be.trans (hbq.mono hQ.be.size))
    have HQR := Lib.hid (Row.made w1 44 #[.slice (some ⟨g, o, none⟩) N c, .int .i64 win, .int .i64 cap])
    have HGE := Lib.hid hQ.be.size
    rw [hN] at hLE
    have HLE := Lib.hid (hLE.call hbq)
    have HNN := Lib.hid hN
    rw [hN]
    clear hl1 hl4 hw1 hw2 hQ hG hLE hg hgq hnc hbq hN hcap
    go_wp2_with fail
    refine (events_any A1 n1 c1 F1 6 _ ln1 lc1 (by omega) (L1.out.below HB2.out HB2.out.size)).mono ?_
    rintro e w2 ⟨v, xs, rfl, hE, hxl, hxn⟩
    obtain ⟨qb, hqb⟩ : ∃ qb, w1.heap.size = qb := ⟨_, rfl⟩
    rw [hqb] at HQR HGE ⊢
    have hev : EVS w w2 v xs := by
      obtain ⟨ob, h1, h2, h3⟩ := hE.sg
      have hz := HB2.out.size
      exact ⟨⟨ob, h1, fun j e => by have := h2 j e; omega, fun e he => (h3 e he).mono hz (fun k _ _ h => h)⟩, HB2.out.trans (hE.be.mono hz)⟩
    have HLB := Lib.hid (show LB w w2 qb g o N c win cap (elAt es) v xs from ⟨HQR.out.below hE.be HQR.out.lt, HLE.out.call hE.be, hev, HGE.out⟩)
    have HXN := Lib.hid (And.intro hxl hxn)
    clear hE hxl hxn hev hqb HB2 HQR HLE HGE
    obtain ⟨vA, vc, rfl⟩ : ∃ A c, v = .slice A xs.length c := by
      obtain ⟨ob, h1, _⟩ := HLB.out.ev.sg
      obtain ⟨A, c, e, _⟩ := h1.form
      exact ⟨A, c, e⟩
    obtain ⟨X, hX⟩ : ∃ X, xs.length = X := ⟨_, rfl⟩
    rw [hX] at HLB ⊢
    have HXX := Lib.hid hX
    have HNUM : Hid (∀ (i : Nat) (x : EM), xs[i]? = some x → x.q = (i : Int) + 1) := Lib.hid fun i x hx => by
      obtain ⟨vb, rfl⟩ := HXN.out.2 i x hx
      rfl
    have HX6 : Hid (X ≤ 6) := by have h := HXN.out.1; rw [hX] at h; unfold Hid; omega
    have hN1 : 1 ≤ N ∧ N ≤ 4 := by have h := HL.out; rw [HNN.out] at h; exact h
    clear hX
    go_upto_block 0 with fail
    have h0 : LP w ((w2.alloc (.cells #[] 68)).alloc (.cells #[.int .i64 0, .pointer none, .pointer none, .int .i64 0, .int .i64 0, .int .i64 0, .int .i64 0, .bool false] 52)) qb g o N c win cap (elAt es) (.slice vA X vc) xs (w2.heap.size + 1) (.slice (some ⟨w2.heap.size, 0, none⟩) 0 0) [] none RS.zero := by
      refine ⟨HLB.out.call (((Below.refl _ w2).alloc (Nat.le_refl _) _).alloc (by simp) _), ⟨by simp, _, 0, rfl, Nat.le_refl _, by unfold maxLen; omega, .inl ⟨rfl, rfl, fun _ => trivial⟩⟩, (fun b e => by cases e), ⟨0, none, none, [], ?_, rfl, rfl, Nat.le_refl _⟩, by have := HLB.out.ev.be.size; omega, (fun p hp => by cases hp)⟩
      have := Row.made (w2.alloc (.cells #[] 68)) 52 #[.int .i64 0, .pointer none, .pointer none, .int .i64 0, .int .i64 0, .int .i64 0, .int .i64 0, .bool false]
      simpa [RS.zero] using this
    have HLP := Lib.hid h0
    clear h0 HLB
    generalize ((w2.alloc (.cells #[] 68)).alloc (.cells #[.int .i64 0, .pointer none, .pointer none, .int .i64 0, .int .i64 0, .int .i64 0, .int .i64 0, .bool false] 52)) = W3 at HLP ⊢
    generalize w2.heap.size + 1 = rb at HLP ⊢
    obtain ⟨vm0, hvm0⟩ : ∃ vm, Value.slice (some ⟨w2.heap.size, 0, none⟩) 0 0 = vm := ⟨_, rfl⟩
    rw [hvm0] at HLP ⊢
    clear hvm0
    obtain ⟨i0, hi0, hz0, hz1, hz2⟩ := info_parts pair_info
    go_cut [9, 11, 12] (fun s9 s11 s12 wx => ∃ v9, v9 = s9 ∧ Hid (∃ ms mo S, LP w wx qb g o N c win cap (elAt es) (.slice vA X vc) xs rb v9 ms mo S ∧ ms.length ≤ 6 ∧ ms.foldl (fun s p => s.take xs p) RS.zero = S))
    case first =>
      go_wp2
      go_loopw [9, 11, 12] (fun s9 s11 s12 wr => ∃ i : Nat, i ≤ min n2 6 ∧ s11 = .int .i64 i ∧ Hid (∃ ms mo S, LP w wr qb g o N c win cap (elAt es) (.slice vA X vc) xs rb s9 ms mo S ∧ ms.length = i ∧ ms.foldl (fun s p => s.take xs p) RS.zero = S)) (fun _ s11 _ _ => min n2 6 - (intOf s11).toNat)
      case atStart => exact ⟨0, by omega, rfl, [], none, RS.zero, HLP.out, rfl, rfl⟩
      case round =>
        obtain ⟨i, hi, rfl, hst⟩ := hrel
        obtain ⟨ms, mo, S, hlp, hlen, heq⟩ := hst.out
        have HP := Lib.hid hlp
        have HLEN := Lib.hid hlen
        have HEQ := Lib.hid heq
        clear hst hlp hlen heq HLP
        by_cases hlt : i < min n2 6
        · have hin : i < n2 := by omega
          have hiz : (i : Int) < (n2 : Int) := by omega
          have hi6 : (i : Int) < 6 := by omega
          have HI := Lib.hid hlt
          have hiw : IntKind.i64.wrap ((i : Int) + 1) = (i : Int) + 1 := by rw [IntKind.wrap_i64]; omega
          obtain ⟨gn, on, rfl, hgn, hcn⟩ := M2.out.below HP.out.be i hin
          replace hcn : wr.cell? ⟨gn, on + i, none⟩ = some (.int .i64 (F2 i)) := hcn
          have fb := FB.out i
          obtain ⟨z, hz⟩ : ∃ z, F2 i = z := ⟨_, rfl⟩
          rw [hz] at hcn fb
          have q0 := HP.out.lb.q.is 0 rfl
          have HGN := Lib.hid hgn
          clear hz hgn hlt
          go_upto_region 7 with fail
          go_cut [12] (fun s12 wx => ∃ (yb k : Nat) (sq : Int), s12 = .pointer (some ⟨yb, 0, none⟩) ∧ Hid (Row wx yb 68 #[.int .i64 k, .int .i64 sq] ∧ Below wr.heap.size wr wx ∧ wr.heap.size ≤ yb ∧ k < N ∧ 0 ≤ sq ∧ sq ≤ 7))
          case first =>
            have a255 := and255 z
            obtain ⟨y, hy⟩ : ∃ y, z % 256 = y := ⟨_, rfl⟩
            have y0 : 0 ≤ y := by omega
            obtain ⟨k, hk, hkm⟩ : ∃ k : Nat, y.tmod (N : Int) = (k : Int) ∧ k < N := ⟨(y.tmod (N : Int)).toNat, by
              rw [Int.tmod_eq_emod_of_nonneg y0]
              have := Int.emod_nonneg y (show (N : Int) ≠ 0 by omega)
              omega, by
              rw [Int.tmod_eq_emod_of_nonneg y0]
              have := Int.emod_nonneg y (show (N : Int) ≠ 0 by omega)
              have := Int.emod_lt_of_pos y (show (0 : Int) < (N : Int) by omega)
              omega⟩
            rw [hy] at a255
            have hne : ((N : Int) == 0) = false := by rw [beq_eq_false_iff_ne]; omega
            have hne' : ¬ ((N : Int) = 0) := by omega
            have hwk : IntKind.i64.wrap (k : Int) = k := by rw [IntKind.wrap_i64]; omega
            have a7 := and7 (z / 256)
            obtain ⟨sq, hsq⟩ : ∃ sq, z / 256 % 8 = sq := ⟨_, rfl⟩
            rw [hsq] at a7
            have HSQ : Hid (0 ≤ sq ∧ sq ≤ 7) := by unfold Hid; omega
            have HKM := Lib.hid hkm
            have cA : ∀ ob : Obj, (wr.alloc ob).cell? ⟨gn, on + i, none⟩ = some (.int .i64 z) := fun ob => (((Below.refl wr.heap.size wr).alloc (Nat.le_refl _) ob).cell (p := ⟨gn, on + i, none⟩) (Nat.lt_of_lt_of_le HGN.out HP.out.be.size)).trans hcn
            have qA : ∀ ob : Obj, (wr.alloc ob).cell? ⟨qb, 0, none⟩ = some (.slice (some ⟨g, o, none⟩) N c) := fun ob => (((Below.refl wr.heap.size wr).alloc (Nat.le_refl _) ob).cell (p := ⟨qb, 0, none⟩) HP.out.lb.q.lt).trans q0
            clear hy y0 hsq hkm
            go_region
            all_goals
              try go_wp2
              go_meet
              exact ⟨wr.heap.size, k, sq, rfl, Lib.hid ⟨(Row.made _ _ _).drew, ((Below.refl _ wr).alloc (Nat.le_refl _) _).drew, Nat.le_refl _, HKM.out, HSQ.out.1, HSQ.out.2⟩⟩
          case rest =>
            obtain ⟨yb, k, sq, rfl, hyy⟩ := hcut
            obtain ⟨hyr, hyb, hyg, hkN, hs0, hs7⟩ := hyy.out
            have HPx := Lib.hid (HP.out.call hyb)
            have hne : ∀ b, mo = some b → ¬ b = yb := fun b e h => by have := HP.out.sg.lt b e; omega
            have HNE := Lib.hid hne
            have HYR := Lib.hid hyr
            have HKN := Lib.hid hkN
            have y0 : wc.cell? ⟨yb, 0, none⟩ = some (.int .i64 k) := hyr.is 0 rfl
            have y1 : wc.cell? ⟨yb, 1, none⟩ = some (.int .i64 sq) := hyr.is 1 rfl
            have HSEG := Lib.hid HPx.out.sg
            have hl9 : ms.length ≤ 1000 := by have := HLEN.out; have := HI.out; omega
            have HL9 := Lib.hid hl9
            have HYB := Lib.hid (And.intro hyb hyg)
            clear hcn q0 hyy hyr hyb hyg hne hkN hl9
            go_upto_region 9 with (at_builtin; refine wpList_append_seg _ rfl _ _ 65 rfl 68 i0 _ 2 16 Try.underlying65 hi0 hz0 hz1 hz2 rfl (by decide) _ ms.length (ms.flatMap Pr.cells) mo rfl (HSEG.out.alloc _) ⟨wc.heap.size, 0, none⟩ 1 1 [.int .i64 k, .int .i64 sq] rfl rfl (two_news _ _ _ _ (by simp)) (by simp [Value.oneCell']) (by decide) (by have := HL9.out; unfold maxLen; omega) (by have := HL9.out; omega) ?_; intro v5 w5 o5 hs5 ht5 ho5; have HS5 := Lib.hid hs5; have HT5 := Lib.hid ht5; have HO5 := Lib.hid ho5; clear hs5 ht5 ho5; go_frame)
            have HP5 := Lib.hid (HPx.out.push HKN.out HS5.out HT5.out HO5.out)
            have hy5 : Row w5 yb 68 #[.int .i64 k, .int .i64 sq] := (HYR.out.alloc _).turns HT5.out (fun e => HNE.out yb e rfl)
            have HY5 := Lib.hid hy5
            clear y0 y1
            have y0 : w5.cell? ⟨yb, 0, none⟩ = some (.int .i64 k) := hy5.is 0 rfl
            have y1 : w5.cell? ⟨yb, 1, none⟩ = some (.int .i64 sq) := hy5.is 1 rfl
            have HEQ5 := Lib.hid (show (ms ++ [(⟨k, sq⟩ : Pr)]).foldl (fun s p => s.take xs p) RS.zero = S.take xs ⟨k, sq⟩ from by rw [List.foldl_append, HEQ.out]; rfl)
            have HLN5 := Lib.hid (show (ms ++ [(⟨k, sq⟩ : Pr)]).length = i + 1 from by rw [List.length_append, HLEN.out]; rfl)
            clear hy5 HS5 HT5 HO5 HSEG HPx HNE HYR HP
            by_cases hin9 : 1 ≤ sq ∧ sq ≤ (X : Int)
            · obtain ⟨j, x, hj, hf, hx, hxq⟩ := fnd_in (y := sq) HNUM.out hin9.1 (by rw [HXX.out]; exact hin9.2)
              have hsw : IntKind.i64.wrap (sq - 1) = (j : Int) := by rw [IntKind.wrap_i64]; omega
              obtain ⟨hi1, hi2⟩ := hin9
              have hjX : (j : Int) < (X : Int) := by omega
              have hj0 : (0 : Int) ≤ (j : Int) := by omega
              have HF := Lib.hid (show S.take xs ⟨k, sq⟩ = S.step k x from by
                unfold RS.take
                rw [show (⟨(k : Int), sq⟩ : Pr).q = sq from rfl, hf, if_neg (by omega), Int.toNat_natCast, hx])
              have hbx := evl_seg HP5.out.lb.ev
              rw [show Value.slice vA X vc = Value.slice vA X vc from rfl] at hbx
              obtain ⟨A', c', e1, _, _, h3⟩ := hbx
              injection e1 with e1 em e1'
              subst e1 e1'
              clear em
              obtain ⟨ge, oe, rfl, hge, d0, d1, d2, d3, d4, hxv, hvls⟩ := h3 j x hx
              obtain ⟨st0, pp, pe, ys, hrow, hch, hcy, h7⟩ := HP5.out.rs
              have hsl : S.ps.length ≤ 1000 := by
                have h1 := fold_len xs ms RS.zero
                rw [HEQ.out] at h1
                have h3 : RS.zero.ps.length = 0 := rfl
                have h4 := HL9.out
                omega
              have HV := Lib.hid hvls
              have HCH := Lib.hid hch
              have HCY := Lib.hid hcy
              have HLN : Hid ((S.ps.map Pr.cells).length ≤ 1000000 ∧ ys.length ≤ 1000000 ∧ N ≤ 1000) := by
                unfold Hid
                rw [List.length_map]
                omega
              have H7 := Lib.hid h7
              have HRW := Lib.hid hrow
              have r0 := hrow.is 0 rfl
              have r1 := hrow.is 1 rfl
              have r2 := hrow.is 2 rfl
              have r3 := hrow.is 3 rfl
              have r4 := hrow.is 4 rfl
              have r5 := hrow.is 5 rfl
              have r6 := hrow.is 6 rfl
              have r7 := hrow.is 7 rfl
              have q0 := HP5.out.lb.q.is 0 rfl
              have q1 := HP5.out.lb.q.is 1 rfl
              have q2 := HP5.out.lb.q.is 2 rfl
              have HXQ := Lib.hid hxq
              clear h3 hx hxq hf hge hxv hvls hch hcy h7 hrow hsl hj
              obtain ⟨f1, hf1⟩ : ∃ f1, (if (S.ps.map Pr.cells).length = 0 then x.t else S.f) = f1 := ⟨_, rfl⟩
              have HF1 := Lib.hid hf1
              clear hf1
              (repeat (rename_i x_0 x_1 x_2 x_3 x_4 x_5 x_6 x_7 x_8 x_9 x_10 x_11 x_12 x_13 x_14 x_15 x_16 x_17 x_18 x_19 x_20 x_21 x_22 x_23 x_24 x_25 x_26 x_27 x_28 x_29 x_30 x_31 x_32 x_33 x_34 x_35 x_36 x_37 x_38 x_39 x_40 x_41 x_42 x_43 x_44 x_45 x_46 x_47 x_48 x_49 x_50 x_51 x_52 x_53 x_54 x_55 x_56 x_57 x_58 x_59 x_60 x_61 x_62 x_63; revert x_0 x_1 x_2 x_3 x_4 x_5 x_6 x_7 x_8 x_9 x_10 x_11 x_12 x_13 x_14 x_15 x_16 x_17 x_18 x_19 x_20 x_21 x_22 x_23 x_24 x_25 x_26 x_27 x_28 x_29 x_30 x_31 x_32 x_33 x_34 x_35 x_36 x_37 x_38 x_39 x_40 x_41 x_42 x_43 x_44 x_45 x_46 x_47 x_48 x_49 x_50 x_51 x_52 x_53 x_54 x_55 x_56 x_57 x_58 x_59 x_60 x_61 x_62 x_63))
              (repeat (rename_i x_0 x_1 x_2 x_3 x_4 x_5 x_6 x_7; revert x_0 x_1 x_2 x_3 x_4 x_5 x_6 x_7))
              (repeat (rename_i x_; revert x_))
              first | revert u9 u10 u11 u12 u13 u14 u15 u16 u17 u18 u19 u20 | ((try (revert u9)); (try (revert u10)); (try (revert u11)); (try (revert u12)); (try (revert u13)); (try (revert u14)); (try (revert u15)); (try (revert u16)); (try (revert u17)); (try (revert u18)); (try (revert u19)); (try (revert u20)))
              first | revert u21 u22 u23 u24 u25 u26 u27 u28 u29 u30 u31 u32 | ((try (revert u21)); (try (revert u22)); (try (revert u23)); (try (revert u24)); (try (revert u25)); (try (revert u26)); (try (revert u27)); (try (revert u28)); (try (revert u29)); (try (revert u30)); (try (revert u31)); (try (revert u32)))
              first | revert u33 u34 u35 u36 u37 u38 u39 u40 u41 u42 u43 u44 | ((try (revert u33)); (try (revert u34)); (try (revert u35)); (try (revert u36)); (try (revert u37)); (try (revert u38)); (try (revert u39)); (try (revert u40)); (try (revert u41)); (try (revert u42)); (try (revert u43)); (try (revert u44)))
              first | revert u45 u46 u47 u48 u49 u50 u51 u52 u53 u54 u55 u56 | ((try (revert u45)); (try (revert u46)); (try (revert u47)); (try (revert u48)); (try (revert u49)); (try (revert u50)); (try (revert u51)); (try (revert u52)); (try (revert u53)); (try (revert u54)); (try (revert u55)); (try (revert u56)))
              first | revert u57 u58 u59 u60 u61 u62 u63 u64 u65 u66 u67 u68 | ((try (revert u57)); (try (revert u58)); (try (revert u59)); (try (revert u60)); (try (revert u61)); (try (revert u62)); (try (revert u63)); (try (revert u64)); (try (revert u65)); (try (revert u66)); (try (revert u67)); (try (revert u68)))
              first | revert u69 u70 u71 u72 u73 u74 u75 u76 u77 u78 u79 u80 | ((try (revert u69)); (try (revert u70)); (try (revert u71)); (try (revert u72)); (try (revert u73)); (try (revert u74)); (try (revert u75)); (try (revert u76)); (try (revert u77)); (try (revert u78)); (try (revert u79)); (try (revert u80)))
              first | revert u81 u82 u83 u84 u85 u86 u87 u88 u89 u90 u91 u92 | ((try (revert u81)); (try (revert u82)); (try (revert u83)); (try (revert u84)); (try (revert u85)); (try (revert u86)); (try (revert u87)); (try (revert u88)); (try (revert u89)); (try (revert u90)); (try (revert u91)); (try (revert u92)))
              first | revert u93 u94 u95 u96 u97 u98 u99 u100 u101 | ((try (revert u93)); (try (revert u94)); (try (revert u95)); (try (revert u96)); (try (revert u97)); (try (revert u98)); (try (revert u99)); (try (revert u100)); (try (revert u101)))
              try revert M2
              try revert heap
              try revert size
              try revert k
              try revert B2
              try revert hB2
              try revert B
              try revert HB22
              try revert A
              try revert w1
              try revert v
              try revert win
              try revert cap
              try revert es
              try revert hQ
              try revert hG
              try revert hl1
              try revert hl4
              try revert hw1
              try revert hw2
              try revert hcap
              try revert g
              try revert o
              try revert c
              try revert hLE
              try revert hg
              try revert hgq
              try revert hnc
              try revert HL
              try revert N
              try revert hN
              try revert length
              try revert hbq
              try revert cells
              try revert slice
              try revert some
              try revert none
              try revert Nat
              try revert HB2
              try revert HQR
              try revert HGE
              try revert HLE
              try revert HNN
              try revert w2
              try revert xs
              try revert hE
              try revert hxl
              try revert hxn
              try revert qb
              try revert hqb
              try revert hev
              try revert ob
              try revert h1
              try revert h2
              try revert h3
              try revert hz
              try revert j
              try revert h
              try revert HLB
              try revert HXN
              try revert vA
              try revert vc
              try revert X
              try revert hX
              try revert HXX
              try revert HNUM
              try revert i
              try revert x
              try revert Int
              try revert hx
              try revert vb
              try revert HX6
              try revert hN1
              try revert h0
              try revert HLP
              try revert W3
              try revert rb
              try revert vm0
              try revert hvm0
              try revert vm
              try revert Value
              try revert i0
              try revert hi0
              try revert hz0
              try revert hz1
              try revert hz2
              try revert ms
              try revert mo
              try revert S
              try revert wr
              try revert hi
              try revert hst
              try revert hlp
              try revert hlen
              try revert heq
              try revert HP
              try revert HLEN
              try revert HEQ
              try revert hlt
              try revert hin
              try revert hiz
              try revert hi6
              try revert HI
              try revert hiw
              try revert gn
              try revert on
              try revert hgn
              try revert hcn
              try revert fb
              try revert z
              try revert q0
              try revert HGN
              try revert yb
              try revert sq
              try revert a255
              try revert y
              try revert hy
              try revert y0
              try revert hk
              try revert hkm
              try revert tmod
              try revert hne
              try revert hne'
              try revert hwk
              try revert a7
              try revert hsq
              try revert HSQ
              try revert HKM
              try revert cA
              try revert qA
              try revert hyy
              try revert hyr
              try revert hyb
              try revert hyg
              try revert hkN
              try revert hs0
              try revert hs7
              try revert HPx
              try revert HNE
              try revert HYR
              try revert HKN
              try revert wc
              try revert y1
              try revert HSEG
              try revert hl9
              try revert HL9
              try revert HYB
              try revert Pr
              try revert v5
              try revert w5
              try revert o5
              try revert hs5
              try revert ht5
              try revert ho5
              try revert HS5
              try revert HT5
              try revert HO5
              try revert HP5
              try revert hy5
              try revert HY5
              try revert HEQ5
              try revert HLN5
              try revert hin9
              try revert hj
              try revert hf
              try revert hxq
              try revert hsw
              try revert hi1
              try revert hi2
              try revert hjX
              try revert hj0
              try revert HF
              try revert hbx
              try revert A'
              try revert c'
              try revert e1
              try revert ge
              try revert oe
              try revert hge
              try revert d0
              try revert d1
              try revert d2
              try revert d3
              try revert d4
              try revert hxv
              try revert hvls
              try revert st0
              try revert pp
              try revert pe
              try revert ys
              try revert hrow
              try revert hch
              try revert hcy
              try revert h7
              try revert hsl
              try revert ps
              try revert h4
              try revert HV
              try revert HCH
              try revert HCY
              try revert HLN
              try revert map
              try revert H7
              try revert HRW
              try revert r0
              try revert r1
              try revert r2
              try revert r3
              try revert r4
              try revert r5
              try revert r6
              try revert r7
              try revert q1
              try revert q2
              try revert HXQ
              try revert f1
              try revert hf1
              try revert HF1
              try revert e
              revert g_last
              exact g_1.out
            · have HF := Lib.hid (show S.take xs ⟨k, sq⟩ = S from by
                unfold RS.take
                rw [show (⟨(k : Int), sq⟩ : Pr).q = sq from rfl, fnd_out HNUM.out (by rw [HXX.out]; exact hin9)]
                exact if_pos (by decide))
              by_cases h1 : 1 ≤ sq
              · have h2 : ¬ sq ≤ (X : Int) := fun h => hin9 ⟨h1, h⟩
                clear hin9
                go_wp2
                go_roundw
                case rel => exact ⟨i + 1, HI.out, by go_num, _, o5, _, HP5.out.imp HF.out, HLN5.out, HEQ5.out⟩
                case measure => have := HI.out; simp [intOf]; omega
              · clear hin9
                go_wp2
                go_roundw
                case rel => exact ⟨i + 1, HI.out, by go_num, _, o5, _, HP5.out.imp HF.out, HLN5.out, HEQ5.out⟩
                case measure => have := HI.out; simp [intOf]; omega
        · have hi9 : i = min n2 6 := by omega
          have HI := Lib.hid (show i ≤ 6 by omega)
          by_cases hkn : i < n2
          · have hkz : (i : Int) < (n2 : Int) := by omega
            have hkm : ¬ (i : Int) < 6 := by omega
            clear hi9 hlt
            go_wp2
            go_meet
            exact ⟨_, rfl, Lib.hid ⟨ms, mo, S, HP.out, by rw [HLEN.out]; exact HI.out, HEQ.out⟩⟩
          · have hkz : ¬ (i : Int) < (n2 : Int) := by omega
            clear hi9 hlt
            go_wp2
            go_meet
            exact ⟨_, rfl, Lib.hid ⟨ms, mo, S, HP.out, by rw [HLEN.out]; exact HI.out, HEQ.out⟩⟩
    case rest =>
      (repeat (rename_i x_0 x_1 x_2 x_3 x_4 x_5 x_6 x_7 x_8 x_9 x_10 x_11 x_12 x_13 x_14 x_15 x_16 x_17 x_18 x_19 x_20 x_21 x_22 x_23 x_24 x_25 x_26 x_27 x_28 x_29 x_30 x_31 x_32 x_33 x_34 x_35 x_36 x_37 x_38 x_39 x_40 x_41 x_42 x_43 x_44 x_45 x_46 x_47 x_48 x_49 x_50 x_51 x_52 x_53 x_54 x_55 x_56 x_57 x_58 x_59 x_60 x_61 x_62 x_63; revert x_0 x_1 x_2 x_3 x_4 x_5 x_6 x_7 x_8 x_9 x_10 x_11 x_12 x_13 x_14 x_15 x_16 x_17 x_18 x_19 x_20 x_21 x_22 x_23 x_24 x_25 x_26 x_27 x_28 x_29 x_30 x_31 x_32 x_33 x_34 x_35 x_36 x_37 x_38 x_39 x_40 x_41 x_42 x_43 x_44 x_45 x_46 x_47 x_48 x_49 x_50 x_51 x_52 x_53 x_54 x_55 x_56 x_57 x_58 x_59 x_60 x_61 x_62 x_63))
      (repeat (rename_i x_0 x_1 x_2 x_3 x_4 x_5 x_6 x_7; revert x_0 x_1 x_2 x_3 x_4 x_5 x_6 x_7))
      (repeat (rename_i x_; revert x_))
      first | revert u9 u10 u11 u12 u13 u14 u15 u16 u17 u18 u19 u20 | ((try (revert u9)); (try (revert u10)); (try (revert u11)); (try (revert u12)); (try (revert u13)); (try (revert u14)); (try (revert u15)); (try (revert u16)); (try (revert u17)); (try (revert u18)); (try (revert u19)); (try (revert u20)))
      first | revert u21 u22 u23 u24 u25 u26 u27 u28 u29 u30 u31 u32 | ((try (revert u21)); (try (revert u22)); (try (revert u23)); (try (revert u24)); (try (revert u25)); (try (revert u26)); (try (revert u27)); (try (revert u28)); (try (revert u29)); (try (revert u30)); (try (revert u31)); (try (revert u32)))
      first | revert u33 u34 u35 u36 u37 u38 u39 u40 u41 u42 u43 u44 | ((try (revert u33)); (try (revert u34)); (try (revert u35)); (try (revert u36)); (try (revert u37)); (try (revert u38)); (try (revert u39)); (try (revert u40)); (try (revert u41)); (try (revert u42)); (try (revert u43)); (try (revert u44)))
      first | revert u45 u46 u47 u48 u49 u50 u51 u52 u53 u54 u55 u56 | ((try (revert u45)); (try (revert u46)); (try (revert u47)); (try (revert u48)); (try (revert u49)); (try (revert u50)); (try (revert u51)); (try (revert u52)); (try (revert u53)); (try (revert u54)); (try (revert u55)); (try (revert u56)))
      first | revert u57 u58 u59 u60 u61 u62 u63 u64 u65 u66 u67 u68 | ((try (revert u57)); (try (revert u58)); (try (revert u59)); (try (revert u60)); (try (revert u61)); (try (revert u62)); (try (revert u63)); (try (revert u64)); (try (revert u65)); (try (revert u66)); (try (revert u67)); (try (revert u68)))
      first | revert u69 u70 u71 u72 u73 u74 u75 u76 u77 u78 u79 u80 | ((try (revert u69)); (try (revert u70)); (try (revert u71)); (try (revert u72)); (try (revert u73)); (try (revert u74)); (try (revert u75)); (try (revert u76)); (try (revert u77)); (try (revert u78)); (try (revert u79)); (try (revert u80)))
      first | revert u81 u82 u83 u84 u85 u86 u87 u88 u89 u90 u91 u92 | ((try (revert u81)); (try (revert u82)); (try (revert u83)); (try (revert u84)); (try (revert u85)); (try (revert u86)); (try (revert u87)); (try (revert u88)); (try (revert u89)); (try (revert u90)); (try (revert u91)); (try (revert u92)))
      first | revert u93 u94 u95 u96 u97 u98 u99 u100 u101 | ((try (revert u93)); (try (revert u94)); (try (revert u95)); (try (revert u96)); (try (revert u97)); (try (revert u98)); (try (revert u99)); (try (revert u100)); (try (revert u101)))
      try revert M2
      try revert heap
      try revert size
      try revert k
      try revert B2
      try revert hB2
      try revert B
      try revert HB22
      try revert A
      try revert w1
      try revert v
      try revert win
      try revert cap
      try revert es
      try revert hQ
      try revert hG
      try revert hl1
      try revert hl4
      try revert hw1
      try revert hw2
      try revert hcap
      try revert g
      try revert o
      try revert c
      try revert hLE
      try revert hg
      try revert hgq
      try revert hnc
      try revert HL
      try revert N
      try revert hN
      try revert length
      try revert hbq
      try revert cells
      try revert slice
      try revert some
      try revert none
      try revert Nat
      try revert HB2
      try revert HQR
      try revert HGE
      try revert HLE
      try revert HNN
      try revert w2
      try revert xs
      try revert hE
      try revert hxl
      try revert hxn
      try revert qb
      try revert hqb
      try revert hev
      try revert ob
      try revert h1
      try revert h2
      try revert h3
      try revert hz
      try revert j
      try revert h
      try revert HLB
      try revert HXN
      try revert vA
      try revert vc
      try revert X
      try revert hX
      try revert HXX
      try revert HNUM
      try revert i
      try revert x
      try revert Int
      try revert hx
      try revert vb
      try revert HX6
      try revert hN1
      try revert h0
      try revert HLP
      try revert W3
      try revert rb
      try revert vm0
      try revert hvm0
      try revert vm
      try revert Value
      try revert i0
      try revert hi0
      try revert hz0
      try revert hz1
      try revert hz2
      try revert ms
      try revert mo
      try revert S
      try revert wr
      try revert hi
      try revert hst
      try revert hlp
      try revert hlen
      try revert heq
      try revert HP
      try revert HLEN
      try revert HEQ
      try revert hlt
      try revert hin
      try revert hiz
      try revert hi6
      try revert HI
      try revert hiw
      try revert gn
      try revert on
      try revert hgn
      try revert hcn
      try revert fb
      try revert z
      try revert q0
      try revert HGN
      try revert yb
      try revert sq
      try revert a255
      try revert y
      try revert hy
      try revert y0
      try revert hk
      try revert hkm
      try revert tmod
      try revert hne
      try revert hne'
      try revert hwk
      try revert a7
      try revert hsq
      try revert HSQ
      try revert HKM
      try revert cA
      try revert qA
      try revert hyy
      try revert hyr
      try revert hyb
      try revert hyg
      try revert hkN
      try revert hs0
      try revert hs7
      try revert HPx
      try revert HNE
      try revert HYR
      try revert HKN
      try revert wc
      try revert y1
      try revert HSEG
      try revert hl9
      try revert HL9
      try revert HYB
      try revert Pr
      try revert v5
      try revert w5
      try revert o5
      try revert hs5
      try revert ht5
      try revert ho5
      try revert HS5
      try revert HT5
      try revert HO5
      try revert HP5
      try revert hy5
      try revert HY5
      try revert HEQ5
      try revert HLN5
      try revert hin9
      try revert hj
      try revert hf
      try revert hxq
      try revert hsw
      try revert hi1
      try revert hi2
      try revert hjX
      try revert hj0
      try revert HF
      try revert hbx
      try revert A'
      try revert c'
      try revert e1
      try revert ge
      try revert oe
      try revert hge
      try revert d0
      try revert d1
      try revert d2
      try revert d3
      try revert d4
      try revert hxv
      try revert hvls
      try revert st0
      try revert pp
      try revert pe
      try revert ys
      try revert hrow
      try revert hch
      try revert hcy
      try revert h7
      try revert hsl
      try revert ps
      try revert h4
      try revert HV
      try revert HCH
      try revert HCY
      try revert HLN
      try revert map
      try revert H7
      try revert HRW
      try revert r0
      try revert r1
      try revert r2
      try revert r3
      try revert r4
      try revert r5
      try revert r6
      try revert r7
      try revert q1
      try revert q2
      try revert HXQ
      try revert f1
      try revert hf1
      try revert HF1
      try revert hi9
      try revert hkn
      try revert hkz
      try revert e
      revert g_last
      exact g_2.out
end Go.Proofs.Ytaimbkikiokenaa.Rn
