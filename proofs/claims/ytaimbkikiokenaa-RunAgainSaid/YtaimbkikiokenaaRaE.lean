/- Runs: With, and where its new things lie. -/
import Derived.Test.YtaimbkikiokenaaRaD
import Derived.Deep.CutBlock
namespace Go.Proofs.Ytaimbkikiokenaa.Rn
open Go.RowKit Go.Proofs.Ytaimbkikiokenaa Go.Proofs.Ytaimbkikiokenaa.Ev Go.Proofs.Ytaimbkikiokenaa.Pa
set_option linter.unusedVariables false
set_option maxRecDepth 100000
/-- A chain whose things lie in blocks of which P speaks. -/
def ChQ (K : Nat) (w : World) (B : Nat) (P : Nat → Prop) : Option Addr → List (List Value) → Prop
  | p, [] => p = none
  | p, x :: r => ∃ (b : Nat) (q : Option Addr), p = some ⟨b, 0, none⟩ ∧ b < B ∧ P b ∧ x.length = K ∧ (∀ j u, x[j]? = some u → w.cell? ⟨b, j, none⟩ = some u) ∧ w.cell? ⟨b, K, none⟩ = some (.pointer q) ∧ w.cell? ⟨b, K + 1, none⟩ = some (.int .i64 ((r.length : Int) + 1)) ∧ ChQ K w B P q r
theorem ChQ.ch {K : Nat} {w : World} {B : Nat} {P : Nat → Prop} : ∀ {p : Option Addr} {xs : List (List Value)}, ChQ K w B P p xs → Ch K w B p xs
  | _, [], h => h
  | _, _ :: _, ⟨b, q, h1, h2, _, h4, h5, h6, h7, h8⟩ => ⟨b, q, h1, h2, h4, h5, h6, h7, ChQ.ch h8⟩
theorem ChQ.below {K : Nat} {w w' : World} {B B' : Nat} {P : Nat → Prop} (h : Below B w w') (hB : B ≤ B') : ∀ {p : Option Addr} {xs : List (List Value)}, ChQ K w B P p xs → ChQ K w' B' P p xs
  | _, [], hl => hl
  | _, _ :: _, ⟨b, q, hp, hb, hP, hk, h0, h1, h2, hr⟩ => ⟨b, q, hp, by omega, hP, hk, fun j u hj => (h.cell (p := ⟨b, j, none⟩) hb).trans (h0 j u hj), (h.cell (p := ⟨b, K, none⟩) hb).trans h1, (h.cell (p := ⟨b, K + 1, none⟩) hb).trans h2, ChQ.below h hB hr⟩
theorem ChQ.imp {K : Nat} {w : World} {B : Nat} {P P' : Nat → Prop} (h : ∀ b, b < B → P b → P' b) : ∀ {p : Option Addr} {xs : List (List Value)}, ChQ K w B P p xs → ChQ K w B P' p xs
  | _, [], hl => hl
  | _, _ :: _, ⟨b, q, hp, hb, hP, hk, h0, h1, h2, hr⟩ => ⟨b, q, hp, hb, h b hb hP, hk, h0, h1, h2, ChQ.imp h hr⟩
theorem ChQ.turns {K : Nat} {w w' : World} {S P : Nat → Prop} (t : Turns w w' S) (hS : ∀ k, P k → ¬ S k) : ∀ {B : Nat} {p : Option Addr} {xs : List (List Value)}, ChQ K w B P p xs → ChQ K w' B P p xs
  | _, _, [], hl => hl
  | _, _, x :: r, ⟨b, q, hp, hb, hP, hk, h0, h1, h2, hr⟩ => by
    have hlt : b < w.heap.size := World.block_lt_of_cell? w _ h1
    have hc : ∀ i, w'.cell? ⟨b, i, none⟩ = w.cell? ⟨b, i, none⟩ := fun i => by
      unfold World.cell?
      rw [t.block b hlt (hS b hP)]
    exact ⟨b, q, hp, hb, hP, hk, fun i v hi => (hc i).trans (h0 i v hi), (hc K).trans h1, (hc (K + 1)).trans h2, ChQ.turns t hS hr⟩
theorem ChQ.cons {K : Nat} {w : World} {B : Nat} {P : Nat → Prop} {b : Nat} {pp : Option Addr} {x : List Value} {xs : List (List Value)} (h : Ch K w B (some ⟨b, 0, none⟩) (x :: xs)) (hc : w.cell? ⟨b, K, none⟩ = some (.pointer pp)) (hP : P b) (hr : ChQ K w B P pp xs) : ChQ K w B P (some ⟨b, 0, none⟩) (x :: xs) := by
  obtain ⟨b', q, e, h2, h4, h5, h6, h7, h8⟩ := h
  injection e with e
  injection e with e
  subst e
  exact ⟨b, pp, rfl, h2, hP, h4, h5, hc, h7, hr⟩
/-- Where With's new things lie, and what stands behind them. -/
def WthF (w w' : World) (pp pe pp' pe' : Option Addr) (mx : Int) : Prop := (∃ b1, pp' = some ⟨b1, 0, none⟩ ∧ w.heap.size ≤ b1 ∧ w'.cell? ⟨b1, 2, none⟩ = some (.pointer pp)) ∧
  ((mx ≠ 1 ∧ pe' = pe) ∨ (mx = 1 ∧ ∃ b2, pe' = some ⟨b2, 0, none⟩ ∧ w.heap.size ≤ b2 ∧ w'.cell? ⟨b2, 6, none⟩ = some (.pointer pe)))
def WthG (w : World) (pp pe : Option Addr) (st' t q f : Int) (xs ys : List (List Value)) (k : Nat) (mx : Int) (var s1 s2 : ByteArray) (vs : List VV) (e : Ending) (w' : World) : Prop :=
  ∃ pp' pe', e = .returned (.agg #[.int .i64 st', .pointer pp', .pointer pe', .int .i64 (if xs.length = 0 then t else f), .int .i64 t, .int .i64 q, .int .i64 0, .bool false]) ∧ Wth w w' pp' pe' xs ys k q mx var s1 s2 t vs ∧ WthF w w' pp pe pp' pe' mx
theorem WI.endF {w W : World} {rb qb eb zb b1 : Nat} {R Q V Z : Array Value} {pp pe pe' : Option Addr} {mx : Int} {m m' k : Nat} {var s1 s2 : ByteArray} {t q : Int} {vs : List VV} (h : WI w W rb qb eb zb R Q V Z) (hp : PairP W zb b1 pp m k q) (he : EnvP W zb pe pe' mx m' var s1 s2 t q vs) : WthF w W pp pe (some ⟨b1, 0, none⟩) pe' mx := by
  have g := h.ge
  obtain ⟨p1, tt, p2⟩ := hp
  refine ⟨⟨b1, rfl, by omega, p2.is 2 rfl⟩, ?_⟩
  rcases he with ⟨e1, rfl⟩ | ⟨e1, b2, tt, yA, yc, rfl, e2, e3, e4⟩
  · exact .inl ⟨e1, rfl⟩
  · exact .inr ⟨e1, b2, rfl, by omega, e3.is 6 rfl⟩
set_option maxHeartbeats 2000000 in
theorem with_fr (pp pe : Option Addr) (st f lt lq la t q win cap st' : Int) (b : Bool) (s1 s2 : ByteArray) (A : Option Addr) (ec : Nat) (vs : List VV) (g o n c k : Nat) (E : Nat → ElV) (xs ys : List (List Value)) (w : World) (h : Ch 2 w w.heap.size pp xs) (h2 : Ch 6 w w.heap.size pe ys) (hE : LE w g o n E) (hV : Vls w A ec vs) (hn : n ≤ 1000) (hk : k < n) (hx : xs.length ≤ 1000000) (hy : ys.length ≤ 1000000) :
    Calls Try.prog 26 #[.agg #[.int .i64 st, .pointer pp, .pointer pe, .int .i64 f, .int .i64 lt, .int .i64 lq, .int .i64 la, .bool b], .agg #[.slice (some ⟨g, o, none⟩) n c, .int .i64 win, .int .i64 cap], .int .i64 st', .int .i64 k, .agg #[.string s1, .string s2, .int .i64 t, .int .i64 q, .slice A vs.length ec]] w
      (WthG w pp pe st' t q f xs ys k (E k).mx (E k).v s1 s2 vs) := by
  have H := Lib.hid h
  have H2 := Lib.hid h2
  have HE := Lib.hid hE
  have HV := Lib.hid hV
  obtain ⟨nv, hnv⟩ : ∃ nv, vs.length = nv := ⟨_, rfl⟩
  rw [hnv]
  have HNV := Lib.hid hnv
  clear h h2 hE hV hnv
  go_enter Try.func26, Try.ntmps26
  go_upto_region 1 with fail
  have hI : WI w ((((w.alloc (.cells #[.int .i64 st, .pointer pp, .pointer pe, .int .i64 f, .int .i64 lt, .int .i64 lq, .int .i64 la, .bool b] 52)).alloc (.cells #[.slice (some ⟨g, o, none⟩) n c, .int .i64 win, .int .i64 cap] 44)).alloc (.cells #[.string s1, .string s2, .int .i64 t, .int .i64 q, .slice A nv ec] 58)).alloc (.cells #[.int .i64 0, .pointer none, .pointer none, .int .i64 0, .int .i64 0, .int .i64 0, .int .i64 0, .bool false] 52))
      w.heap.size (w.heap.size + 1) (w.heap.size + 1 + 1) (w.heap.size + 1 + 1 + 1) #[.int .i64 st, .pointer pp, .pointer pe, .int .i64 f, .int .i64 lt, .int .i64 lq, .int .i64 la, .bool b] #[.slice (some ⟨g, o, none⟩) n c, .int .i64 win, .int .i64 cap] #[.string s1, .string s2, .int .i64 t, .int .i64 q, .slice A nv ec] #[.int .i64 0, .pointer none, .pointer none, .int .i64 0, .int .i64 0, .int .i64 0, .int .i64 0, .bool false] := by
    refine ⟨(((Row.made w _ _).alloc _).alloc _).alloc _, ?_, ?_, ?_, ((((Below.refl _ w).alloc (Nat.le_refl _) _).alloc (by simp) _).alloc (by simp; omega) _).alloc (by simp; omega) _, by omega⟩
    · have := ((Row.made (w.alloc (.cells #[.int .i64 st, .pointer pp, .pointer pe, .int .i64 f, .int .i64 lt, .int .i64 lq, .int .i64 la, .bool b] 52)) 44 #[.slice (some ⟨g, o, none⟩) n c, .int .i64 win, .int .i64 cap]).alloc (.cells #[.string s1, .string s2, .int .i64 t, .int .i64 q, .slice A nv ec] 58)).alloc (.cells #[.int .i64 0, .pointer none, .pointer none, .int .i64 0, .int .i64 0, .int .i64 0, .int .i64 0, .bool false] 52)
      simpa using this
    · have := (Row.made ((w.alloc (.cells #[.int .i64 st, .pointer pp, .pointer pe, .int .i64 f, .int .i64 lt, .int .i64 lq, .int .i64 la, .bool b] 52)).alloc (.cells #[.slice (some ⟨g, o, none⟩) n c, .int .i64 win, .int .i64 cap] 44)) 58 #[.string s1, .string s2, .int .i64 t, .int .i64 q, .slice A nv ec]).alloc (.cells #[.int .i64 0, .pointer none, .pointer none, .int .i64 0, .int .i64 0, .int .i64 0, .int .i64 0, .bool false] 52)
      simpa using this
    · have := Row.made (((w.alloc (.cells #[.int .i64 st, .pointer pp, .pointer pe, .int .i64 f, .int .i64 lt, .int .i64 lq, .int .i64 la, .bool b] 52)).alloc (.cells #[.slice (some ⟨g, o, none⟩) n c, .int .i64 win, .int .i64 cap] 44)).alloc (.cells #[.string s1, .string s2, .int .i64 t, .int .i64 q, .slice A nv ec] 58)) 52 #[.int .i64 0, .pointer none, .pointer none, .int .i64 0, .int .i64 0, .int .i64 0, .int .i64 0, .bool false]
      simpa using this
  generalize (((w.alloc (.cells #[.int .i64 st, .pointer pp, .pointer pe, .int .i64 f, .int .i64 lt, .int .i64 lq, .int .i64 la, .bool b] 52)).alloc (.cells #[.slice (some ⟨g, o, none⟩) n c, .int .i64 win, .int .i64 cap] 44)).alloc (.cells #[.string s1, .string s2, .int .i64 t, .int .i64 q, .slice A nv ec] 58)).alloc (.cells #[.int .i64 0, .pointer none, .pointer none, .int .i64 0, .int .i64 0, .int .i64 0, .int .i64 0, .bool false] 52) = W0 at hI ⊢
  generalize w.heap.size + 1 + 1 + 1 = zb at hI ⊢
  generalize w.heap.size + 1 + 1 = eb at hI ⊢
  generalize w.heap.size + 1 = qb at hI ⊢
  generalize w.heap.size = rb at hI ⊢
  have HI0 := Lib.hid hI
  have r0 := hI.r.is 0 rfl
  have r1 := hI.r.is 1 rfl
  have r2 := hI.r.is 2 rfl
  have r3 := hI.r.is 3 rfl
  have r4 := hI.r.is 4 rfl
  have r5 := hI.r.is 5 rfl
  have r6 := hI.r.is 6 rfl
  have r7 := hI.r.is 7 rfl
  have HC0 := Lib.hid (H.out.below (B' := W0.heap.size) hI.be hI.be.size)
  clear hI
  obtain ⟨z, hz⟩ : ∃ z, decide (xs.length = 0) = z := ⟨_, rfl⟩
  obtain ⟨f1, hf1⟩ : ∃ f1, (if xs.length = 0 then t else f) = f1 := ⟨_, rfl⟩
  go_cut [13] (fun s13 wx => s13 = .bool z ∧ WI w wx rb qb eb zb #[.int .i64 st, .pointer pp, .pointer pe, .int .i64 f, .int .i64 lt, .int .i64 lq, .int .i64 la, .bool b] #[.slice (some ⟨g, o, none⟩) n c, .int .i64 win, .int .i64 cap] #[.string s1, .string s2, .int .i64 t, .int .i64 q, .slice A nv ec] #[.int .i64 0, .pointer none, .pointer none, .int .i64 0, .int .i64 0, .int .i64 0, .int .i64 0, .bool false])
  case first =>
    have hzz : ((xs.length : Int) == 0) = z := by rw [← hz, Bool.eq_iff_iff]; simp
    go_wp2_with fail
    refine (rlen_any pp pe st f lt lq la b xs _ HC0.out).mono ?_
    rintro e w1 ⟨rfl, hb⟩
    have HI1 := Lib.hid (HI0.out.call hb)
    clear hb r0 r1 r2 r3 r4 r5 r6 r7
    go_wp2
    go_meet
    exact ⟨rfl, HI1.out⟩
  case rest =>
   obtain ⟨rfl, hi⟩ := hcut
   have HI1 := Lib.hid hi
   have r3 := hi.r.is 3 rfl
   have f3 := hi.r.free 3
   have v2 := hi.e.is 2 rfl
   have HF1 := Lib.hid hf1
   clear hi r0 r1 r2 r4 r5 r6 r7 HI0 hf1
   go_upto_if 13 with fail
   go_cut [] (fun wx => WI w wx rb qb eb zb #[.int .i64 st, .pointer pp, .pointer pe, .int .i64 f1, .int .i64 lt, .int .i64 lq, .int .i64 la, .bool b] #[.slice (some ⟨g, o, none⟩) n c, .int .i64 win, .int .i64 cap] #[.string s1, .string s2, .int .i64 t, .int .i64 q, .slice A nv ec] #[.int .i64 0, .pointer none, .pointer none, .int .i64 0, .int .i64 0, .int .i64 0, .int .i64 0, .bool false])
   case first =>
    cases z with
    | true =>
      have hl : xs.length = 0 := of_decide_eq_true hz
      have hf : f1 = t := by rw [← HF1.out, if_pos hl]
      subst hf
      clear hl
      go_wp2
      go_meet
      exact HI1.out.put 3 _
    | false =>
      have hl : ¬ xs.length = 0 := of_decide_eq_false hz
      have hf : f1 = f := by rw [← HF1.out, if_neg hl]
      subst hf
      clear hl
      go_wp2
      go_meet
      exact HI1.out
   case rest =>
    have HI2 := Lib.hid hcut
    have q0 := hcut.q.is 0 rfl
    have q1 := hcut.q.is 1 rfl
    have q2 := hcut.q.is 2 rfl
    clear hcut HI1 r3 f3 v2 hz
    obtain ⟨mx, hmx⟩ : ∃ mx, (E k).mx = mx := ⟨_, rfl⟩
    obtain ⟨m1, hm1⟩ : ∃ m1, decide (mx = 1) = m1 := ⟨_, rfl⟩
    have HMX := Lib.hid hmx
    have HM1 := Lib.hid hm1
    have hmm : (mx == 1) = m1 := by rw [← hm1, Bool.eq_iff_iff]; simp
    clear hm1
    go_upto_region 3 with fail
    go_cut [28] (fun s28 wx => s28 = .bool m1 ∧ WI w wx rb qb eb zb #[.int .i64 st, .pointer pp, .pointer pe, .int .i64 f1, .int .i64 lt, .int .i64 lq, .int .i64 la, .bool b] #[.slice (some ⟨g, o, none⟩) n c, .int .i64 win, .int .i64 cap] #[.string s1, .string s2, .int .i64 t, .int .i64 q, .slice A nv ec] #[.int .i64 0, .pointer none, .pointer none, .int .i64 0, .int .i64 0, .int .i64 0, .int .i64 0, .bool false])
    case first =>
      go_wp2_with fail
      refine (there_any (some ⟨g, o, none⟩) n c win cap k _).mono ?_
      rw [show decide ((0 : Int) ≤ k ∧ (k : Int) < n) = true from decide_eq_true ⟨by omega, by omega⟩]
      rintro e w3 ⟨rfl, hb⟩
      have hi := HI2.out.call hb
      have q0 := hi.q.is 0 rfl
      have q1 := hi.q.is 1 rfl
      have q2 := hi.q.is 2 rfl
      have m4 : w3.cell? ⟨g, o + k * 6 + 4, none⟩ = some (.int .i64 mx) := by rw [← HMX.out]; exact (HE.out.turns (S := fun _ => False) (Turns.of_below hi.be) (fun h => h)).cell hk (j := 4) (by omega)
      have HI3 := Lib.hid hi
      have hkk : (0 : Int) ≤ (k : Int) := by omega
      have hkn : (k : Int) < (n : Int) := by omega
      clear hi hb hmx
      go_wp2
      go_meet
      exact ⟨rfl, HI3.out⟩
    case rest =>
      obtain ⟨rfl, hi⟩ := hcut
      have HI3 := Lib.hid hi
      clear hi q0 q1 q2 HI2 hmx hmm
      go_upto_if 28 with fail
      go_cut [] (fun wx => ∃ pe', WI w wx rb qb eb zb #[.int .i64 st, .pointer pp, .pointer pe', .int .i64 f1, .int .i64 lt, .int .i64 lq, .int .i64 la, .bool b] #[.slice (some ⟨g, o, none⟩) n c, .int .i64 win, .int .i64 cap] #[.string s1, .string s2, .int .i64 t, .int .i64 q, .slice A nv ec] #[.int .i64 0, .pointer none, .pointer none, .int .i64 0, .int .i64 0, .int .i64 0, .int .i64 0, .bool false] ∧ EnvP wx zb pe pe' mx ys.length (E k).v s1 s2 t q vs)
      case first =>
        cases m1 with
        | false =>
          have hmx1 : mx ≠ 1 := of_decide_eq_false HM1.out
          go_wp2
          go_meet
          exact ⟨pe, HI3.out, .inl ⟨hmx1, rfl⟩⟩
        | true =>
          have hmx1 : mx = 1 := of_decide_eq_true HM1.out
          have HMX1 := Lib.hid hmx1
          clear hmx1
          have hLE := HE.out.turns (S := fun _ => False) (Turns.of_below HI3.out.be) (fun h => h)
          have m0 : wc.cell? ⟨g, o + k * 6, none⟩ = some (.string (E k).v) := hLE.cell hk (j := 0) (by omega)
          have HLE := Lib.hid hLE
          clear hLE
          have r2 := HI3.out.r.is 2 rfl
          have x2 := HI3.out.r.free 2
          have q0 := HI3.out.q.is 0 rfl
          have e0 := HI3.out.e.is 0 rfl
          have e1 := HI3.out.e.is 1 rfl
          have e2 := HI3.out.e.is 2 rfl
          have e3 := HI3.out.e.is 3 rfl
          have e4 := HI3.out.e.is 4 rfl
          have hkk : (0 : Int) ≤ (k : Int) := by omega
          have hkn : (k : Int) < (n : Int) := by omega
          go_upto_region 4 with fail
          go_region_law (first
            | (go_simp
               go_at_call 74
               refine (copy_any s1 s2 t q A nv ec vs _ (HV.out.call (Below.drew HI3.out.be)) HNV.out.symm).mono ?_
               rintro e w3 ⟨yA, yc, rfl, hc⟩
               have HC := Lib.hid hc
               have HI4 := Lib.hid (HI3.out.drew.call hc.be)
               have a2 := HI4.out.r.is 2 rfl
               have y2 := HI4.out.r.free 2
               have a0 := HI4.out.q.is 0 rfl
               have b0 : w3.cell? ⟨g, o + k * 6, none⟩ = some (.string (E k).v) := (HLE.out.drew.call hc.be).cell hk (j := 0) (by omega)
               clear hc)
            | (go_simp
               go_at_call 73
               refine (bwith_any pe ys (E k).v s1 s2 t q _ w.heap.size _ (H2.out.below HI4.out.be (Nat.le_refl _)) HI4.out.be.size (by omega) yA vs.length yc rfl).mono ?_
               rintro e w4 ⟨b2, rfl, hp⟩
               have HP := Lib.hid hp
               have HI5 := Lib.hid (HI4.out.call hp.be)
               have c2 := HI5.out.r.is 2 rfl
               have z2 := HI5.out.r.free 2
               clear hp)
            | fail)
          all_goals
            have hz : zb < b2 := by have := HI4.out.z.lt; have := HP.out.ge; omega
            have HEV := Lib.hid (show EnvP (w4.setCell ⟨rb, 2, none⟩ (.pointer (some ⟨b2, 0, none⟩))) zb pe (some ⟨b2, 0, none⟩) mx ys.length (E k).v s1 s2 t q vs from by
              obtain ⟨tt, hr⟩ := HP.out.row
              exact .inr ⟨HMX1.out, b2, tt, yA, yc, rfl, hz, hr.past (p := ⟨rb, 2, none⟩) (by have := HI5.out.ge; show b2 ≠ rb; omega) _, HC.out.nl⟩)
            have HIV := Lib.hid (HI5.out.put 2 (.pointer (some ⟨b2, 0, none⟩)))
            clear hz
            go_wp2
            go_meet
            exact ⟨some ⟨b2, 0, none⟩, HIV.out, HEV.out⟩
      case rest =>
        obtain ⟨pe', hi, hen⟩ := hcut
        have HI4 := Lib.hid hi
        have HEN := Lib.hid hen
        have r1 := hi.r.is 1 rfl
        have e3 := hi.e.is 3 rfl
        have HC4 := Lib.hid (H.out.below (B' := wc.heap.size) hi.be hi.be.size)
        clear hi hen HI3
        go_upto_region 5 with fail
        go_cut [] (fun wx => ∃ b1, WI w wx rb qb eb zb #[.int .i64 st, .pointer (some ⟨b1, 0, none⟩), .pointer pe', .int .i64 f1, .int .i64 lt, .int .i64 lq, .int .i64 la, .bool b] #[.slice (some ⟨g, o, none⟩) n c, .int .i64 win, .int .i64 cap] #[.string s1, .string s2, .int .i64 t, .int .i64 q, .slice A nv ec] #[.int .i64 0, .pointer none, .pointer none, .int .i64 0, .int .i64 0, .int .i64 0, .int .i64 0, .bool false] ∧ EnvP wx zb pe pe' mx ys.length (E k).v s1 s2 t q vs ∧ PairP wx zb b1 pp xs.length k q)
        case first =>
          go_wp2_with fail
          refine (pwith_any pp xs k q _ wc HC4.out (Nat.le_refl _) (by omega)).mono ?_
          rintro e w5 ⟨b1, rfl, hp⟩
          have hi := HI4.out.call hp.be
          have hen := HEN.out.call hp.be
          have hpp : PairP w5 zb b1 pp xs.length k q := ⟨by have := HI4.out.z.lt; have := hp.ge; omega, hp.row⟩
          have r1 := hi.r.is 1 rfl
          have f1' := hi.r.free 1
          have HI5 := Lib.hid (hi.put 1 (.pointer (some ⟨b1, 0, none⟩)))
          have HEN5 := Lib.hid (hen.put (b := rb) (i := 1) (by have := hi.ge; omega) (.pointer (some ⟨b1, 0, none⟩)))
          have HPP := Lib.hid (hpp.put (b := rb) (i := 1) (by have := hi.ge; omega) (.pointer (some ⟨b1, 0, none⟩)))
          clear hi hen hpp hp
          go_wp2
          go_meet
          exact ⟨b1, HI5.out, HEN5.out, HPP.out⟩
        case rest =>
          obtain ⟨b1, hi, hen, hpp⟩ := hcut
          have HI5 := Lib.hid hi
          have HEN5 := Lib.hid hen
          have HPP := Lib.hid hpp
          have e0 := hi.e.is 0 rfl
          have e1 := hi.e.is 1 rfl
          have e2 := hi.e.is 2 rfl
          have e3' := hi.e.is 3 rfl
          have e4 := hi.e.is 4 rfl
          clear hi hen hpp r1 e3 HC4 HI4 HEN
          go_wp2_with fail
          refine (stamp_any s1 s2 t q 0 A nv ec _).mono ?_
          rintro e w6 ⟨rfl, hb⟩
          have hi := HI5.out.call hb
          have hen := HEN5.out.call hb
          have hpp := HPP.out.call hb
          have r0 := hi.r.is 0 rfl
          have r4 := hi.r.is 4 rfl
          have r5 := hi.r.is 5 rfl
          have r6 := hi.r.is 6 rfl
          have r7 := hi.r.is 7 rfl
          have x0 := hi.r.free 0
          have x4 := hi.r.free 4
          have x5 := hi.r.free 5
          have x6 := hi.r.free 6
          have x7 := hi.r.free 7
          have hrz : rb ≤ zb := by have := hi.ge; omega
          have HI6 := Lib.hid (show WI w (((((w6.setCell ⟨rb, 0, none⟩ (.int .i64 st')).setCell ⟨rb, 4, none⟩ (.int .i64 t)).setCell ⟨rb, 5, none⟩ (.int .i64 q)).setCell ⟨rb, 6, none⟩ (.int .i64 0)).setCell ⟨rb, 7, none⟩ (.bool false)) rb qb eb zb #[.int .i64 st', .pointer (some ⟨b1, 0, none⟩), .pointer pe', .int .i64 f1, .int .i64 t, .int .i64 q, .int .i64 0, .bool false] #[.slice (some ⟨g, o, none⟩) n c, .int .i64 win, .int .i64 cap] #[.string s1, .string s2, .int .i64 t, .int .i64 q, .slice A nv ec] #[.int .i64 0, .pointer none, .pointer none, .int .i64 0, .int .i64 0, .int .i64 0, .int .i64 0, .bool false] by
            simpa using ((((hi.put 0 (.int .i64 st')).put 4 (.int .i64 t)).put 5 (.int .i64 q)).put 6 (.int .i64 0)).put 7 (.bool false))
          have HEN6 := Lib.hid (((((hen.put (b := rb) (i := 0) hrz (.int .i64 st')).put (b := rb) (i := 4) hrz (.int .i64 t)).put (b := rb) (i := 5) hrz (.int .i64 q)).put (b := rb) (i := 6) hrz (.int .i64 0)).put (b := rb) (i := 7) hrz (.bool false))
          have HPP6 := Lib.hid (((((hpp.put (b := rb) (i := 0) hrz (.int .i64 st')).put (b := rb) (i := 4) hrz (.int .i64 t)).put (b := rb) (i := 5) hrz (.int .i64 q)).put (b := rb) (i := 6) hrz (.int .i64 0)).put (b := rb) (i := 7) hrz (.bool false))
          clear hi hen hpp hb hrz HI5 HEN5 HPP
          go_upto_region 7 with fail
          generalize (((((w6.setCell ⟨rb, 0, none⟩ (.int .i64 st')).setCell ⟨rb, 4, none⟩ (.int .i64 t)).setCell ⟨rb, 5, none⟩ (.int .i64 q)).setCell ⟨rb, 6, none⟩ (.int .i64 0)).setCell ⟨rb, 7, none⟩ (.bool false)) = W6 at HI6 HEN6 HPP6 ⊢
          have hi := HI6.out
          have hen := HEN6.out
          have hpp := HPP6.out
          have r0 := hi.r.is 0 rfl
          have z0 := hi.z.is 0 rfl
          have x0 := hi.z.free 0
          have r1 := hi.r.is 1 rfl
          have z1 := hi.z.is 1 rfl
          have x1 := hi.z.free 1
          have r2 := hi.r.is 2 rfl
          have z2 := hi.z.is 2 rfl
          have x2 := hi.z.free 2
          have r3 := hi.r.is 3 rfl
          have z3 := hi.z.is 3 rfl
          have x3 := hi.z.free 3
          have r4 := hi.r.is 4 rfl
          have z4 := hi.z.is 4 rfl
          have x4 := hi.z.free 4
          have r5 := hi.r.is 5 rfl
          have z5 := hi.z.is 5 rfl
          have x5 := hi.z.free 5
          have r6 := hi.r.is 6 rfl
          have z6 := hi.z.is 6 rfl
          have x6 := hi.z.free 6
          have r7 := hi.r.is 7 rfl
          have z7 := hi.z.is 7 rfl
          have x7 := hi.z.free 7
          have HI7 := Lib.hid (((((((((hi).putz 0 (.int .i64 st')).putz 1 (.pointer (some ⟨b1, 0, none⟩))).putz 2 (.pointer pe')).putz 3 (.int .i64 f1)).putz 4 (.int .i64 t)).putz 5 (.int .i64 q)).putz 6 (.int .i64 0)).putz 7 (.bool false))
          have HEN7 := Lib.hid (((((((((hen).put (b := zb) (i := 0) (Nat.le_refl _) (.int .i64 st')).put (b := zb) (i := 1) (Nat.le_refl _) (.pointer (some ⟨b1, 0, none⟩))).put (b := zb) (i := 2) (Nat.le_refl _) (.pointer pe')).put (b := zb) (i := 3) (Nat.le_refl _) (.int .i64 f1)).put (b := zb) (i := 4) (Nat.le_refl _) (.int .i64 t)).put (b := zb) (i := 5) (Nat.le_refl _) (.int .i64 q)).put (b := zb) (i := 6) (Nat.le_refl _) (.int .i64 0)).put (b := zb) (i := 7) (Nat.le_refl _) (.bool false))
          have HPP7 := Lib.hid (((((((((hpp).put (b := zb) (i := 0) (Nat.le_refl _) (.int .i64 st')).put (b := zb) (i := 1) (Nat.le_refl _) (.pointer (some ⟨b1, 0, none⟩))).put (b := zb) (i := 2) (Nat.le_refl _) (.pointer pe')).put (b := zb) (i := 3) (Nat.le_refl _) (.int .i64 f1)).put (b := zb) (i := 4) (Nat.le_refl _) (.int .i64 t)).put (b := zb) (i := 5) (Nat.le_refl _) (.int .i64 q)).put (b := zb) (i := 6) (Nat.le_refl _) (.int .i64 0)).put (b := zb) (i := 7) (Nat.le_refl _) (.bool false))
          clear hi hen hpp
          go_wp2
          have hz := HI7.out.z
          have k0 := hz.is 0 (v := .int .i64 st') (by simp)
          have k1 := hz.is 1 (v := .pointer (some ⟨b1, 0, none⟩)) (by simp)
          have k2 := hz.is 2 (v := .pointer pe') (by simp)
          have k3 := hz.is 3 (v := .int .i64 f1) (by simp)
          have k4 := hz.is 4 (v := .int .i64 t) (by simp)
          have k5 := hz.is 5 (v := .int .i64 q) (by simp)
          have k6 := hz.is 6 (v := .int .i64 0) (by simp)
          have k7 := hz.is 7 (v := .bool false) (by simp)
          refine bodyPost_ret (v := .agg #[.int .i64 st', .pointer (some ⟨b1, 0, none⟩), .pointer pe', .int .i64 f1, .int .i64 t, .int .i64 q, .int .i64 0, .bool false]) (by simp [results, Try.results26, go_sem, k0, k1, k2, k3, k4, k5, k6, k7]; try rfl) rfl ⟨some ⟨b1, 0, none⟩, pe', by rw [HF1.out], ?_⟩
          exact ⟨WI.ends HI7.out HPP7.out (by rw [HMX.out]; exact HEN7.out) H.out H2.out, WI.endF HI7.out HPP7.out (by rw [HMX.out]; exact HEN7.out)⟩
end Go.Proofs.Ytaimbkikiokenaa.Rn
