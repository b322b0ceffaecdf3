/- run.Again: the run of pairs, in events. -/
import Derived.Test.YtaimbkikiokenaaRaB
import Derived.Deep.RegionHeld3
import Derived.Deep.RegionLaw
import Derived.Deep.CutBlock
namespace Go.Proofs.Ytaimbkikiokenaa.Rn
open Go.RowKit Go.Proofs.Ytaimbkikiokenaa Go.Proofs.Ytaimbkikiokenaa.Ev Go.Proofs.Ytaimbkikiokenaa.Pa Go.Proofs.Ytaimbkikiokenaa.Pq
set_option linter.unusedVariables false
set_option maxRecDepth 100000
/-- A run by what it holds: its pairs, the newest first; when it began; where its last event stands. -/
structure RS where
  ps : List Pr
  f : Int
  lt : Int
  lq : Int
def RS.zero : RS := ⟨[], 0, 0, 0⟩
def RS.step (S : RS) (k : Int) (x : EM) : RS := ⟨⟨k, x.q⟩ :: S.ps, if (S.ps.map Pr.cells).length = 0 then x.t else S.f, x.t, x.q⟩
/-- One pair more, if there is its event. -/
def RS.take (S : RS) (xs : List EM) (p : Pr) : RS := if fnd xs p.q < 0 then S else match xs[(fnd xs p.q).toNat]? with
  | some x => S.step p.k x
  | none => S
theorem fnd_cases (xs : List EM) (y : Int) : (fnd xs y = -1 ∧ ∀ x ∈ xs, x.q ≠ y) ∨ ∃ (j : Nat) (x : EM), fnd xs y = j ∧ xs[j]? = some x ∧ x.q = y := by
  unfold fnd
  cases h : xs.findIdx? (fun e => e.q == y) with
  | none =>
    rw [List.findIdx?_eq_none_iff] at h
    exact .inl ⟨rfl, fun x hx => by simpa using h x hx⟩
  | some k =>
    rw [List.findIdx?_eq_some_iff_getElem] at h
    obtain ⟨hk, h1, _⟩ := h
    exact .inr ⟨k, xs[k], rfl, List.getElem?_eq_getElem hk, by simpa using h1⟩
/-- The run in a block. -/
def RSt (W : World) (rb : Nat) (S : RS) : Prop := ∃ (st : Int) (pp pe : Option Addr) (ys : List (List Value)), Row W rb 52 #[.int .i64 st, .pointer pp, .pointer pe, .int .i64 S.f, .int .i64 S.lt, .int .i64 S.lq, .int .i64 0, .bool false] ∧ Ch 2 W W.heap.size pp (S.ps.map Pr.cells) ∧ Ch 6 W W.heap.size pe ys ∧ (∀ x ∈ ys, ∃ (s : ByteArray) (r : List Value), x = .string s :: r) ∧ ys.length ≤ S.ps.length
theorem RSt.call {W W' : World} {rb : Nat} {S : RS} (h : RSt W rb S) (hb : Below W.heap.size W W') : RSt W' rb S := by
  obtain ⟨st, pp, pe, ys, h1, h2, h3, h4, h5⟩ := h
  exact ⟨st, pp, pe, ys, h1.below hb h1.lt, h2.below hb hb.size, h3.below hb hb.size, h4, h5⟩
theorem RSt.next {W w5 W6 : World} {rb k : Nat} {S : RS} {x : EM} {st st' mx : Int} {pp pe pp' pe' : Option Addr} {ys : List (List Value)} {var : ByteArray} (hW : Wth W w5 pp' pe' (S.ps.map Pr.cells) ys k x.q mx var x.ty x.key x.t x.vs)
    (hrow : Row w5 rb 52 #[.int .i64 st, .pointer pp, .pointer pe, .int .i64 S.f, .int .i64 S.lt, .int .i64 S.lq, .int .i64 0, .bool false]) (h5 : ∀ x ∈ ys, ∃ (s : ByteArray) (r : List Value), x = .string s :: r) (h7 : ys.length ≤ S.ps.length)
    (T : Turns w5 W6 (fun j => j = rb)) (hrow6 : Row W6 rb 52 #[.int .i64 st', .pointer pp', .pointer pe', .int .i64 (if (S.ps.map Pr.cells).length = 0 then x.t else S.f), .int .i64 x.t, .int .i64 x.q, .int .i64 0, .bool false]) : RSt W6 rb (S.step k x) := by
  have c1 : w5.cell? ⟨rb, 1, none⟩ = some (.pointer pp) := hrow.is 1 rfl
  have c0 : w5.cell? ⟨rb, 0, none⟩ = some (.int .i64 st) := hrow.is 0 rfl
  have e2 : ∀ {p : Option Addr} {L : List Pr}, Ch 2 w5 w5.heap.size p (L.map Pr.cells) → Ch 2 W6 W6.heap.size p (L.map Pr.cells) := fun hc =>
    (Ch.apart T hc (fun x hm => by
      obtain ⟨a, _, rfl⟩ := List.mem_map.1 hm
      exact ⟨1, .int .i64 a.q, rfl, by rw [c1]; intro e; cases e⟩)).below (Below.refl _ _) T.size
  have e6 : ∀ {p : Option Addr} {L : List (List Value)}, Ch 6 w5 w5.heap.size p L → (∀ x ∈ L, ∃ (s : ByteArray) (r : List Value), x = .string s :: r) → Ch 6 W6 W6.heap.size p L := fun hc hx =>
    (Ch.apart T hc (fun x hm => by
      obtain ⟨s, r, rfl⟩ := hx x hm
      exact ⟨0, .string s, rfl, by rw [c0]; intro e; cases e⟩)).below (Below.refl _ _) T.size
  have hch : Ch 2 w5 w5.heap.size pp' ((S.step k x).ps.map Pr.cells) := hW.ch
  rcases hW.en with ⟨_, he⟩ | ⟨_, yA, yc, _, he⟩
  · exact ⟨st', pp', pe', _, hrow6, e2 hch, e6 he h5, h5, by show _ ≤ (_ :: S.ps).length; rw [List.length_cons]; omega⟩
  · have hy : ∀ z ∈ ([.string var, .string x.ty, .string x.key, .int .i64 x.t, .int .i64 x.q, .slice yA x.vs.length yc] :: ys : List (List Value)), ∃ (s : ByteArray) (r : List Value), z = .string s :: r := fun z hz => by
      rcases List.mem_cons.1 hz with rfl | hz
      · exact ⟨_, _, rfl⟩
      · exact h5 z hz
    exact ⟨st', pp', pe', _, hrow6, e2 hch, e6 he hy, hy, by show _ ≤ (_ :: S.ps).length; rw [List.length_cons, List.length_cons]; omega⟩
theorem put8' {X : World} {b : Nat} {t : TypeId} {c0 c1 c2 c3 c4 c5 c6 c7 : Value} (r : Row X b t #[c0, c1, c2, c3, c4, c5, c6, c7]) (u0 u1 u2 u3 u4 u5 u6 u7 : Value) :
    Row ((((((((X.setCell ⟨b, 0, none⟩ u0).setCell ⟨b, 1, none⟩ u1).setCell ⟨b, 2, none⟩ u2).setCell ⟨b, 3, none⟩ u3).setCell ⟨b, 4, none⟩ u4).setCell ⟨b, 5, none⟩ u5).setCell ⟨b, 6, none⟩ u6).setCell ⟨b, 7, none⟩ u7) b t #[u0, u1, u2, u3, u4, u5, u6, u7] := by
  simpa using (((((((Row.put r 0 u0).put 1 u1).put 2 u2).put 3 u3).put 4 u4).put 5 u5).put 6 u6).put 7 u7
theorem turns8' (X : World) (b : Nat) (u0 u1 u2 u3 u4 u5 u6 u7 : Value) : Turns X ((((((((X.setCell ⟨b, 0, none⟩ u0).setCell ⟨b, 1, none⟩ u1).setCell ⟨b, 2, none⟩ u2).setCell ⟨b, 3, none⟩ u3).setCell ⟨b, 4, none⟩ u4).setCell ⟨b, 5, none⟩ u5).setCell ⟨b, 6, none⟩ u6).setCell ⟨b, 7, none⟩ u7) (fun j => j = b) :=
  ((((((((Turns.refl X (fun j => j = b)).put b 0 u0 (fun _ => rfl)).put b 1 u1 (fun _ => rfl)).put b 2 u2 (fun _ => rfl)).put b 3 u3 (fun _ => rfl)).put b 4 u4 (fun _ => rfl)).put b 5 u5 (fun _ => rfl)).put b 6 u6 (fun _ => rfl)).put b 7 u7 (fun _ => rfl)
theorem LE.belowB {w w' : World} {g o n B : Nat} {E : Nat → ElV} (h : LE w g o n E) (hb : Below B w w') (hg : g < B) : LE w' g o n E := by
  obtain ⟨cs, h1, h2⟩ := h.row
  exact ⟨cs, h1.below hb hg, h2⟩
/-- Pairs as they lie in memory, in blocks below B. -/
def PL (w : World) (B : Nat) (v : Value) (ms : List Pr) : Prop := ∃ A c, v = .slice A ms.length c ∧ ms.length ≤ c ∧ c ≤ 9223372036854775807 ∧
  ∀ k x, ms[k]? = some x → ∃ g o, A = some ⟨g, o, none⟩ ∧ g < B ∧ w.cell? ⟨g, o + k * 2, none⟩ = some (.int .i64 x.k) ∧ w.cell? ⟨g, o + k * 2 + 1, none⟩ = some (.int .i64 x.q)
theorem PL.below {w w' : World} {B B' : Nat} {v : Value} {xs : List Pr} (h : PL w B v xs) (hb : Below B w w') (hB : B ≤ B') : PL w' B' v xs := by
  obtain ⟨A, c, rfl, h1, h2, h3⟩ := h
  refine ⟨A, c, rfl, h1, h2, fun k x hx => ?_⟩
  obtain ⟨g, o, e, hg, c0, c1⟩ := h3 k x hx
  exact ⟨g, o, e, by omega, (hb.cell (p := ⟨g, _, none⟩) hg).trans c0, (hb.cell (p := ⟨g, _, none⟩) hg).trans c1⟩
/-- What Again has of its own, as it goes. -/
structure AG (w W : World) (qb zb rb : Nat) (Q : Array Value) (S : RS) : Prop where
  q : Row W qb 44 Q
  z : Row W zb 52 #[.int .i64 0, .pointer none, .pointer none, .int .i64 0, .int .i64 0, .int .i64 0, .int .i64 0, .bool false]
  r : RSt W rb S
  be : Below w.heap.size w W
  ge : w.heap.size ≤ qb ∧ qb < zb ∧ zb < rb
theorem AG.call {w W W' : World} {qb zb rb : Nat} {Q : Array Value} {S : RS} (h : AG w W qb zb rb Q S) (hb : Below W.heap.size W W') : AG w W' qb zb rb Q S :=
  ⟨h.q.below hb h.q.lt, h.z.below hb h.z.lt, h.r.call hb, h.be.trans (hb.mono h.be.size), h.ge⟩
theorem AG.next {w W W' : World} {qb zb rb : Nat} {Q : Array Value} {S S' : RS} (h : AG w W qb zb rb Q S) (T : Turns W W' (fun j => j = rb)) (hr : RSt W' rb S') : AG w W' qb zb rb Q S' :=
  have g := h.ge
  ⟨h.q.turns T (by omega), h.z.turns T (by omega), hr, T.below h.be h.be.size (fun j _ e => by omega), h.ge⟩
def AgEnd (w : World) (st : Int) (S : RS) (e : Ending) (w' : World) : Prop := ∃ pp pe, e = .returned (.agg #[.int .i64 st, .pointer pp, .pointer pe, .int .i64 S.f, .int .i64 S.lt, .int .i64 S.lq, .int .i64 0, .bool false]) ∧ Ch 2 w' w'.heap.size pp (S.ps.map Pr.cells) ∧ Below w.heap.size w w'
theorem take_len (S : RS) (xs : List EM) (p : Pr) : (S.take xs p).ps.length ≤ S.ps.length + 1 := by
  unfold RS.take
  split
  · omega
  · split
    · simp [RS.step]
    · omega
theorem fold_len (xs : List EM) (ms : List Pr) (S : RS) : (ms.foldl (fun s p => s.take xs p) S).ps.length ≤ S.ps.length + ms.length := by
  induction ms generalizing S with
  | nil => simp
  | cons p r ih =>
    have := ih (S.take xs p)
    have h2 := take_len S xs p
    rw [List.foldl_cons, List.length_cons]
    omega
theorem fold_succ (xs : List EM) (ms : List Pr) (i : Nat) (p : Pr) (h : ms[i]? = some p) (S : RS) : (ms.take (i + 1)).foldl (fun s p => s.take xs p) S = ((ms.take i).foldl (fun s p => s.take xs p) S).take xs p := by
  rw [List.take_add_one, h, List.foldl_append]
  rfl
set_option maxHeartbeats 8000000 in
theorem again_any (g o N c : Nat) (win cap st : Int) (E : Nat → ElV) (vm v : Value) (ms : List Pr) (xs : List EM) (w : World) (hLE : LE w g o N E) (hm : PL w w.heap.size vm ms) (hk : ∀ p ∈ ms, ∃ k : Nat, p.k = k ∧ k < N) (he : EvL w w.heap.size v xs) (hN : N ≤ 1000) (hl : ms.length ≤ 1000) :
    Calls Try.prog 28 #[.agg #[.slice (some ⟨g, o, none⟩) N c, .int .i64 win, .int .i64 cap], .int .i64 st, vm, v] w (AgEnd w st (ms.foldl (fun s p => s.take xs p) RS.zero)) := by
  have HLE := Lib.hid (And.intro hLE hLE.lt)
  have HM := Lib.hid hm
  have HK := Lib.hid hk
  have HE := Lib.hid he
  obtain ⟨A, cm, rfl, hc1, hc2, hx0⟩ := hm
  obtain ⟨B, cx, rfl, hd1, hd2, hy0⟩ := he
  obtain ⟨n, hn⟩ : ∃ n, ms.length = n := ⟨_, rfl⟩
  obtain ⟨X, hX⟩ : ∃ X, xs.length = X := ⟨_, rfl⟩
  rw [hn] at HM hc1 hl ⊢
  rw [hX] at HE hd1 ⊢
  have HNN := Lib.hid hn
  have HXX := Lib.hid hX
  have h0 : AG w (((w.alloc (.cells #[.slice (some ⟨g, o, none⟩) N c, .int .i64 win, .int .i64 cap] 44)).alloc (.cells #[.int .i64 0, .pointer none, .pointer none, .int .i64 0, .int .i64 0, .int .i64 0, .int .i64 0, .bool false] 52)).alloc (.cells #[.int .i64 0, .pointer none, .pointer none, .int .i64 0, .int .i64 0, .int .i64 0, .int .i64 0, .bool false] 52)) w.heap.size (w.heap.size + 1) (w.heap.size + 1 + 1) #[.slice (some ⟨g, o, none⟩) N c, .int .i64 win, .int .i64 cap] RS.zero := by
    refine ⟨((Row.made w _ _).alloc _).alloc _, ?_, ⟨0, none, none, [], ?_, rfl, rfl, (fun _ h => by cases h), Nat.le_refl _⟩, (((Below.refl _ w).alloc (Nat.le_refl _) _).alloc (by simp) _).alloc (by simp; omega) _, by omega⟩
    · have := (Row.made (w.alloc (.cells #[.slice (some ⟨g, o, none⟩) N c, .int .i64 win, .int .i64 cap] 44)) 52 #[.int .i64 0, .pointer none, .pointer none, .int .i64 0, .int .i64 0, .int .i64 0, .int .i64 0, .bool false]).alloc (.cells #[.int .i64 0, .pointer none, .pointer none, .int .i64 0, .int .i64 0, .int .i64 0, .int .i64 0, .bool false] 52)
      simpa using this
    · have := Row.made ((w.alloc (.cells #[.slice (some ⟨g, o, none⟩) N c, .int .i64 win, .int .i64 cap] 44)).alloc (.cells #[.int .i64 0, .pointer none, .pointer none, .int .i64 0, .int .i64 0, .int .i64 0, .int .i64 0, .bool false] 52)) 52 #[.int .i64 0, .pointer none, .pointer none, .int .i64 0, .int .i64 0, .int .i64 0, .int .i64 0, .bool false]
      simpa [RS.zero] using this
  have H0 := Lib.hid h0
  clear h0 hn hX hx0 hy0 hLE hk
  go_enter Try.func28, Try.ntmps28
  go_wp2
  generalize (((w.alloc (.cells #[.slice (some ⟨g, o, none⟩) N c, .int .i64 win, .int .i64 cap] 44)).alloc (.cells #[.int .i64 0, .pointer none, .pointer none, .int .i64 0, .int .i64 0, .int .i64 0, .int .i64 0, .bool false] 52)).alloc (.cells #[.int .i64 0, .pointer none, .pointer none, .int .i64 0, .int .i64 0, .int .i64 0, .int .i64 0, .bool false] 52)) = W0 at H0 ⊢
  generalize w.heap.size + 1 + 1 = rb at H0 ⊢
  generalize w.heap.size + 1 = zb at H0 ⊢
  obtain ⟨qb, hqb⟩ : ∃ qb, w.heap.size = qb := ⟨_, rfl⟩
  rw [hqb] at H0 ⊢
  go_loopw [11, 12, 15] (fun s11 s12 s15 wr => ∃ i : Nat, i ≤ n ∧ s15 = .int .i64 i ∧ Hid (AG w wr qb zb rb #[.slice (some ⟨g, o, none⟩) N c, .int .i64 win, .int .i64 cap] ((ms.take i).foldl (fun s p => s.take xs p) RS.zero))) (fun _ _ s15 _ => n - (intOf s15).toNat)
  case atStart => exact ⟨0, by omega, rfl, H0⟩
  case round =>
    obtain ⟨i, hi, rfl, hAG⟩ := hrel
    obtain ⟨S, hS⟩ : ∃ S, (ms.take i).foldl (fun s p => s.take xs p) RS.zero = S := ⟨_, rfl⟩
    rw [hS] at hAG
    have HS := Lib.hid hS
    clear hS
    have hbe := hAG.out.be
    by_cases hlt : i < n
    · obtain ⟨p, hp⟩ : ∃ p, ms[i]? = some p := ⟨ms[i]'(by rw [HNN.out]; exact hlt), List.getElem?_eq_getElem _⟩
      obtain ⟨A', cm', e1, _, _, h3⟩ := HM.out.below hbe (Nat.le_refl _)
      injection e1 with e1 em e1'
      subst e1 e1'
      clear em
      obtain ⟨gm, om, rfl, hgm, y0, y1⟩ := h3 i p hp
      have HP := Lib.hid hp
      have hii : (i : Int) < (n : Int) := by omega
      have hiw : IntKind.i64.wrap ((i : Int) + 1) = (i : Int) + 1 := by rw [IntKind.wrap_i64]; omega
      have HBE := Lib.hid hbe
      have HI := Lib.hid hlt
      clear h3 hp hbe hgm
      go_upto_block 1 with fail
      go_cut [11, 12] (fun s11 s12 wx => Hid (AG w wx qb zb rb #[.slice (some ⟨g, o, none⟩) N c, .int .i64 win, .int .i64 cap] (S.take xs p)))
      case first =>
        go_wp2_with fail
        have hX : Below w.heap.size w (wr.alloc (.cells #[.int .i64 p.k, .int .i64 p.q] 68)) := HBE.out.alloc HBE.out.size _
        refine (indexEv_any _ xs p.q wr.heap.size _ (HE.out.below hX hX.size (Nat.le_refl _)) ((Row.made wr 68 #[.int .i64 p.k, .int .i64 p.q]).is 1 rfl)).mono ?_
        rintro e w4 ⟨rfl, hb4⟩
        have h14 : Below wr.heap.size wr w4 := ((Below.refl _ wr).alloc (Nat.le_refl _) _).trans (hb4.mono (by simp))
        have hpr := Row.below (Row.made wr 68 #[.int .i64 p.k, .int .i64 p.q]) hb4 (by simp)
        have HAG4 := Lib.hid (hAG.out.call h14)
        have HPR := Lib.hid hpr
        have HE4 := Lib.hid (HE.out.below (hX.trans (hb4.mono hX.size)) (hX.trans (hb4.mono hX.size)).size (Nat.le_refl _))
        have HLE4 := Lib.hid (LE.belowB HLE.out.1 (hX.trans (hb4.mono hX.size)) HLE.out.2)
        clear hX hb4 h14 hpr y0 y1 hAG
        generalize wr.heap.size = pb at HPR ⊢
        rcases fnd_cases xs p.q with ⟨hf, _⟩ | ⟨j, x, hf, hx, hxq⟩
        · rw [hf]
          have HF := Lib.hid (show S.take xs p = S from by unfold RS.take; rw [hf]; exact if_pos (by decide))
          clear hf
          go_wp2
          go_meet
          rw [HF.out]
          exact HAG4
        · obtain ⟨k, hk, hkN⟩ := HK.out p (List.mem_of_getElem? HP.out)
          have HF := Lib.hid (show S.take xs p = S.step k x from by
            unfold RS.take
            rw [hf, if_neg (by omega), Int.toNat_natCast, hx, hk])
          obtain ⟨st0, pp, pe, ys, hrow, hch, hcy, h5, h7⟩ := HAG4.out.r
          have hsl : S.ps.length ≤ 1000 := by
            have h1 := fold_len xs (ms.take i) RS.zero
            rw [HS.out] at h1
            have h2 : (ms.take i).length ≤ 1000 := by rw [List.length_take]; omega
            have h3 : RS.zero.ps.length = 0 := rfl
            omega
          have hbx := HE4.out
          obtain ⟨B', cx', e1, _, _, h3⟩ := hbx
          injection e1 with e1 em e1'
          subst e1 e1'
          clear em
          obtain ⟨ge, oe, rfl, hge, c0, c1, c2, c3, c4, hxv, hvls⟩ := h3 j x hx
          have hjX : (j : Int) < (X : Int) := by
            have h1 := (List.getElem?_eq_some_iff.1 hx).1
            have h2 := HXX.out
            omega
          have hj0 : (0 : Int) ≤ (j : Int) := by omega
          have a0 : w4.cell? ⟨pb, 0, none⟩ = some (.int .i64 k) := by rw [← hk]; exact HPR.out.is 0 rfl
          rw [hf]
          have HV := Lib.hid hvls
          have HCH := Lib.hid hch
          have HCY := Lib.hid hcy
          have HLN : Hid ((S.ps.map Pr.cells).length ≤ 1000000 ∧ ys.length ≤ 1000000) := by
            unfold Hid
            rw [List.length_map]
            omega
          have H57 := Lib.hid (And.intro h5 h7)
          have HRW := Lib.hid hrow
          have r0 := hrow.is 0 rfl
          have r1 := hrow.is 1 rfl
          have r2 := hrow.is 2 rfl
          have r3 := hrow.is 3 rfl
          have r4 := hrow.is 4 rfl
          have r5 := hrow.is 5 rfl
          have r6 := hrow.is 6 rfl
          have r7 := hrow.is 7 rfl
          have q0 := HAG4.out.q.is 0 rfl
          have q1 := HAG4.out.q.is 1 rfl
          have q2 := HAG4.out.q.is 2 rfl
          have HKN := Lib.hid hkN
          clear h3 hx hxq hf hk hkN hge hxv hvls hch hcy h5 h7 hrow hsl HE4
          obtain ⟨f1, hf1⟩ : ∃ f1, (if (S.ps.map Pr.cells).length = 0 then x.t else S.f) = f1 := ⟨_, rfl⟩
          have HF1 := Lib.hid hf1
          clear hf1
          go_upto_region 7 with fail
          go_region_law (first
            | (go_simp
               go_at_call 26
               refine (with_any pp pe st0 S.f S.lt S.lq 0 x.t x.q win cap st false x.ty x.key (some ⟨x.vb, 0, none⟩) x.vs.length x.vs g o N c k E (S.ps.map Pr.cells) ys _ (HCH.out.below (Below.refl _ _).drew (Nat.le_refl _)) (HCY.out.below (Below.refl _ _).drew (Nat.le_refl _)) HLE4.out.drew (HV.out.call (Below.refl _ _).drew) hN HKN.out HLN.out.1 HLN.out.2).mono ?_
               rintro e w6 ⟨pp', pe', rfl, hW⟩
               rw [HF1.out]
               have HW := Lib.hid hW
               have HRW6 := Lib.hid (HRW.out.drew.below hW.be HRW.out.drew.lt)
               have HAG6 := Lib.hid ((HAG4.out.call (Below.refl _ _).drew).call hW.be)
               have y0 := HRW6.out.is 0 rfl
               have z0 := HRW6.out.free 0
               have y1 := HRW6.out.is 1 rfl
               have z1 := HRW6.out.free 1
               have y2 := HRW6.out.is 2 rfl
               have z2 := HRW6.out.free 2
               have y3 := HRW6.out.is 3 rfl
               have z3 := HRW6.out.free 3
               have y4 := HRW6.out.is 4 rfl
               have z4 := HRW6.out.free 4
               have y5 := HRW6.out.is 5 rfl
               have z5 := HRW6.out.free 5
               have y6 := HRW6.out.is 6 rfl
               have z6 := HRW6.out.free 6
               have y7 := HRW6.out.is 7 rfl
               have z7 := HRW6.out.free 7
               clear hW)
            | fail)
          all_goals
            have HT8 := Lib.hid (turns8' w6 rb (.int .i64 st) (.pointer pp') (.pointer pe') (.int .i64 f1) (.int .i64 x.t) (.int .i64 x.q) (.int .i64 0) (.bool false))
            have HN6 := Lib.hid (RSt.next (st' := st) HW.out HRW6.out H57.out.1 H57.out.2 HT8.out (by rw [HF1.out]; exact put8' HRW6.out (.int .i64 st) (.pointer pp') (.pointer pe') (.int .i64 f1) (.int .i64 x.t) (.int .i64 x.q) (.int .i64 0) (.bool false)))
            have HA7 := Lib.hid (HAG6.out.next HT8.out HN6.out)
            clear HT8
            clear r0 r1 r2 r3 r4 r5 r6 r7 q0 q1 q2 y0 y1 y2 y3 y4 y5 y6 y7 z0 z1 z2 z3 z4 z5 z6 z7 c0 c1 c2 c3 c4 a0
            go_wp2
            go_meet
            rw [HF.out]
            exact HA7
      case rest =>
        have HC := Lib.hid hcut.out
        clear hcut y0 y1
        go_wp2
        go_roundw
        case rel => exact ⟨i + 1, HI.out, by go_num, by rw [fold_succ xs ms i p HP.out, HS.out]; exact HC⟩
        case measure => have := HI.out; simp [intOf]; omega
    · obtain rfl : i = n := by omega
      have hii : ¬ (i : Int) < (i : Int) := by omega
      obtain ⟨st0, pp, pe, ys, hrow, hch, _, _, _⟩ := hAG.out.r
      have HSF := Lib.hid (show ms.foldl (fun s p => s.take xs p) RS.zero = S from by
        have h := HS.out
        rw [List.take_of_length_le (by rw [HNN.out]; omega)] at h
        exact h)
      have hne : zb ≠ rb := by have := hAG.out.ge; omega
      have hne' : rb ≠ zb := fun e => hne e.symm
      have HR := Lib.hid hrow
      have HCH := Lib.hid hch
      have r0 := hrow.is 0 rfl
      have s0 := hAG.out.z.is 0 rfl
      have t0 := hAG.out.z.free 0
      have r1 := hrow.is 1 rfl
      have s1 := hAG.out.z.is 1 rfl
      have t1 := hAG.out.z.free 1
      have r2 := hrow.is 2 rfl
      have s2 := hAG.out.z.is 2 rfl
      have t2 := hAG.out.z.free 2
      have r3 := hrow.is 3 rfl
      have s3 := hAG.out.z.is 3 rfl
      have t3 := hAG.out.z.free 3
      have r4 := hrow.is 4 rfl
      have s4 := hAG.out.z.is 4 rfl
      have t4 := hAG.out.z.free 4
      have r5 := hrow.is 5 rfl
      have s5 := hAG.out.z.is 5 rfl
      have t5 := hAG.out.z.free 5
      have r6 := hrow.is 6 rfl
      have s6 := hAG.out.z.is 6 rfl
      have t6 := hAG.out.z.free 6
      have r7 := hrow.is 7 rfl
      have s7 := hAG.out.z.is 7 rfl
      have t7 := hAG.out.z.free 7
      have hf0 := hrow.free 0
      have HG := Lib.hid hAG.out.ge
      have HBW := Lib.hid hAG.out.be
      have HZ := Lib.hid hAG.out.z
      clear hrow hch hAG
      go_wp2
      have hk := put8' (HZ.out.past (p := ⟨rb, 0, none⟩) hne (.int .i64 st)) (.int .i64 st) (.pointer pp) (.pointer pe) (.int .i64 S.f) (.int .i64 S.lt) (.int .i64 S.lq) (.int .i64 0) (.bool false)
      have k0 := hk.is 0 rfl
      have k1 := hk.is 1 rfl
      have k2 := hk.is 2 rfl
      have k3 := hk.is 3 rfl
      have k4 := hk.is 4 rfl
      have k5 := hk.is 5 rfl
      have k6 := hk.is 6 rfl
      have k7 := hk.is 7 rfl
      refine bodyPost_ret (v := .agg #[.int .i64 st, .pointer pp, .pointer pe, .int .i64 S.f, .int .i64 S.lt, .int .i64 S.lq, .int .i64 0, .bool false]) (by simp [results, Try.results28, go_sem, k0, k1, k2, k3, k4, k5, k6, k7]; try rfl) rfl ?_
      rw [HSF.out]
      have T1 : Turns wr (wr.setCell ⟨rb, 0, none⟩ (.int .i64 st)) (fun j => j = rb) := (Turns.refl wr (fun j => j = rb)).put rb 0 _ (fun _ => rfl)
      have T2 := turns8' (wr.setCell ⟨rb, 0, none⟩ (.int .i64 st)) zb (.int .i64 st) (.pointer pp) (.pointer pe) (.int .i64 S.f) (.int .i64 S.lt) (.int .i64 S.lq) (.int .i64 0) (.bool false)
      have z1 : (wr.setCell ⟨rb, 0, none⟩ (.int .i64 st)).cell? ⟨zb, 1, none⟩ = some (.pointer none) := (HZ.out.past (p := ⟨rb, 0, none⟩) hne (.int .i64 st)).is 1 rfl
      have e1 := (Ch.apart T1 HCH.out (fun x hm => by
        obtain ⟨a, _, rfl⟩ := List.mem_map.1 hm
        exact ⟨1, .int .i64 a.q, rfl, by rw [r1]; intro e; cases e⟩)).below (Below.refl _ _) T1.size
      have e2 := (Ch.apart T2 e1 (fun x hm => by
        obtain ⟨a, _, rfl⟩ := List.mem_map.1 hm
        exact ⟨1, .int .i64 a.q, rfl, by rw [z1]; intro e; cases e⟩)).below (Below.refl _ _) T2.size
      have b1 := T1.below HBW.out HBW.out.size (fun j hj e => by have := HG.out; omega)
      have b2 := T2.below b1 b1.size (fun j hj e => by have := HG.out; omega)
      exact ⟨pp, pe, rfl, e2, b2⟩
end Go.Proofs.Ytaimbkikiokenaa.Rn
