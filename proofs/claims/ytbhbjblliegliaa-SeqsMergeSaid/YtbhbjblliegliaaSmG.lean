/- SeqsMerge's law (written by gen_smg). -/
import Derived.Test.YtbhbjblliegliaaSmF
import Derived.Test.YtbhbjblliegliaaLaw
namespace Go.Proofs.Ytbhbjblliegliaa.Sm
open Go.RowKit Go.Proofs.Ytbhbjblliegliaa Go.Proofs.Ytbhbjblliegliaa.Hp
set_option linter.unusedVariables false
set_option linter.unusedSimpArgs false
set_option maxRecDepth 100000
theorem lies_below {w w' : World} {A : Option Addr} {n : Nat} {f : Nat → Value} (h : Lies w w.heap.size A n f) (hb : Below w.heap.size w w') : Lies w' w'.heap.size A n f := fun k hk => by
  obtain ⟨g, o, e, hg, hc⟩ := h k hk
  exact ⟨g, o, e, Nat.lt_of_lt_of_le hg hb.size, (hb.cell (p := ⟨g, o + k, none⟩) hg).trans hc⟩
theorem ls_rl {w : World} {v : Value} {f : Nat → Int} {a : Int} {n : Nat} {ob : Option Nat} (h : Seg w 47 3 v n (hcells (rl f a n n)) ob) : LS w w.heap.size v (rl f a n n) := LS.of_seg (ob := ob) (by rw [rl_len]; exact h)
theorem LS.at {w : World} {B n c : Nat} {A : Option Addr} {L : List St} (h : LS w B (.slice A n c) L) {k : Nat} {x : St} (hx : L[k]? = some x) : ∃ g o, A = some ⟨g, o, Option.none⟩ ∧ g < B ∧ w.cell? ⟨g, o + k * 3, Option.none⟩ = some (.int .i64 x.t) ∧ w.cell? ⟨g, o + k * 3 + 1, Option.none⟩ = some (.int .i64 x.q) ∧ w.cell? ⟨g, o + k * 3 + 2, Option.none⟩ = some (.int .i64 x.a) := by
  obtain ⟨hk, e⟩ := List.getElem?_eq_some_iff.1 hx
  obtain ⟨A, c, e0, h1, h2, h3⟩ := h
  injection e0 with e1 e2 e3
  subst e1
  have := h3 k hk
  rw [e] at this
  exact this
/-- The law's own at a round. -/
structure Rd (w w7 wr : World) (Lat : Nat) (M : List St) (i : Nat) : Prop where
  row : Row wr Lat 48 #[.int .i64 (cnt M 0 i : Nat), .int .i64 (cnt M 1 i : Nat), .int .i64 (cnt M 2 i : Nat)]
  oth : ∀ b off, b ≠ Lat → wr.cell? ⟨b, off, Option.none⟩ = w7.cell? ⟨b, off, Option.none⟩
  be : Below w.heap.size w wr
theorem Rd.drewN {w w7 wr : World} {Lat : Nat} {M : List St} {i : Nat} (h : Rd w w7 wr Lat M i) (n : Nat) : Rd w w7 (wr.drewN n) Lat M i := ⟨h.row, h.oth, h.be.os, h.be.tape, h.be.output, h.be.size, h.be.block⟩
theorem Rd.next {w w7 wr : World} {Lat : Nat} {M : List St} {i : Nat} (h : Rd w w7 wr Lat M i) (hL : w.heap.size ≤ Lat) (k : Nat) (hk : k < 3) (u : St) (hu : M[i]? = some u) (ha : u.a = (k : Int)) : Rd w w7 (wr.setCell ⟨Lat, k, Option.none⟩ (.int .i64 ((cnt M (k : Int) i : Nat) + 1))) Lat M (i + 1) := by
  have e0 := cnt_succ M 0 i u hu
  have e1 := cnt_succ M 1 i u hu
  have e2 := cnt_succ M 2 i u hu
  refine ⟨?_, fun b off hb => ?_, h.be.setCell hL _⟩
  · have hp := h.row.put k (.int .i64 ((cnt M (k : Int) i : Nat) + 1))
    rw [e0, e1, e2, ha]
    have : k = 0 ∨ k = 1 ∨ k = 2 := by omega
    rcases this with rfl | rfl | rfl <;> simpa using hp
  · rw [← h.oth b off hb]
    exact World.cell?_setCell_other _ _ _ _ (by simp; first | done | omega)
/-- What is read at a round, of place k. -/
structure Rk (wr : World) (Lat gl : Nat) (M : List St) (i k ck n : Nat) (A : Option Addr) (c : Nat) (u : St) : Prop where
  k3 : k < 3
  ar : wr.cell? ⟨Lat, k, Option.none⟩ = some (.int .i64 ck)
  ct : cnt M (k : Int) i = ck
  ls : wr.cell? ⟨gl, k, Option.none⟩ = some (.slice A n c)
  nc : n ≤ c
  n12 : n ≤ 12
  lt : ck < n
  el : ∃ g o, A = some ⟨g, o, Option.none⟩ ∧ wr.cell? ⟨g, o + ck * 3, Option.none⟩ = some (.int .i64 u.t) ∧ wr.cell? ⟨g, o + ck * 3 + 1, Option.none⟩ = some (.int .i64 u.q) ∧ wr.cell? ⟨g, o + ck * 3 + 2, Option.none⟩ = some (.int .i64 u.a)
theorem take_at4 {P : Program} {ops : Array Oper} {Q : Exit → Act → World → Prop} {md : Region.Mode} {S : World → Prop} {fuel : Nat} {listed : Array Bool} {a : Act} {w : World} (i : Nat) (d : Tmp) (oi : Oper) {v : Value} (hi : ops[i]? = some oi) (hd : oi.dst = some d)
    (hs : Region.noSelect ops = true) (hf : Region.free md ops listed i = true) (hr : (Region.ready md ops listed).contains i = true)
    (hQ : ∀ c a w, Q (.panic c) (a.put oi.dst v) w → Q (.panic c) a w) (hy : YieldsIf P ops S oi v a) (hS : S w)
    (h : wpAnyH P md ops Q S fuel (listed.setIfInBounds i true) (a.put (some d) v) w) : wpAnyH P md ops Q S (fuel + 1) listed a w :=
  wpAnyH_take hi hs hf hr hQ hy hS (by rw [hd]; exact h)
set_option maxHeartbeats 16000000 in
theorem merge_law (A0 A1 A2 : Option Addr) (n0 n1 n2 c0 c1 c2 : Nat) (f0 f1 f2 : Nat → Int) (hn0 : n0 ≤ c0) (hc0 : c0 ≤ 9223372036854775807) (hn1 : n1 ≤ c1) (hc1 : c1 ≤ 9223372036854775807) (hn2 : n2 ≤ c2) (hc2 : c2 ≤ 9223372036854775807) (w : World)
    (H0 : Hid (Lies w w.heap.size A0 n0 (fun k => .int .i64 (f0 k)))) (H1 : Hid (Lies w w.heap.size A1 n1 (fun k => .int .i64 (f1 k)))) (H2 : Hid (Lies w w.heap.size A2 n2 (fun k => .int .i64 (f2 k)))) :
    Calls Try.prog 6 #[.slice A0 n0 c0, .slice A1 n1 c1, .slice A2 n2 c2] w fun e w' => e = .returned (.bool true) ∧ Below w.heap.size w w' := by
  go_enter Try.func6, Try.ntmps6
  go_wp2_with fail
  refine (Sq.awake_any _).mono ?_
  rintro e w1 ⟨rfl, hb⟩
  have HB := Lib.hid hb
  clear hb
  go_wp2_with fail
  refine (rising_any A0 n0 c0 f0 hn0 hc0 0 _ (lies_below H0.out HB.out)).mono ?_
  rintro e w2 ⟨vx, ox, rfl, hs, hb⟩
  obtain ⟨nx, hnx⟩ : ∃ n, min n0 12 = n := ⟨_, rfl⟩
  rw [hnx] at hs
  have hx12 : nx ≤ 12 := by omega
  obtain ⟨Ax, cx, rfl, hcx, _⟩ := hs.form
  have HX := Lib.hid (ls_rl hs)
  have HBn := Lib.hid (HB.out.trans (hb.mono HB.out.size))
  clear HB hb hs hnx
  have HB := HBn
  clear HBn
  go_wp2_with fail
  refine (rising_any A1 n1 c1 f1 hn1 hc1 1 _ (lies_below H1.out HB.out)).mono ?_
  rintro e w3 ⟨vy, oy, rfl, hs, hb⟩
  obtain ⟨ny, hny⟩ : ∃ n, min n1 12 = n := ⟨_, rfl⟩
  rw [hny] at hs
  have hy12 : ny ≤ 12 := by omega
  obtain ⟨Ay, cy, rfl, hcy, _⟩ := hs.form
  have HY := Lib.hid (ls_rl hs)
  have HXn := Lib.hid (HX.out.below hb hb.size)
  have HBn := Lib.hid (HB.out.trans (hb.mono HB.out.size))
  clear HB HX hb hs hny
  have HB := HBn
  have HX := HXn
  clear HBn HXn
  go_wp2_with fail
  refine (rising_any A2 n2 c2 f2 hn2 hc2 2 _ (lies_below H2.out HB.out)).mono ?_
  rintro e w4 ⟨vz, oz, rfl, hs, hb⟩
  obtain ⟨nz, hnz⟩ : ∃ n, min n2 12 = n := ⟨_, rfl⟩
  rw [hnz] at hs
  have hz12 : nz ≤ 12 := by omega
  obtain ⟨Az, cz, rfl, hcz, _⟩ := hs.form
  have HZ := Lib.hid (ls_rl hs)
  have HXn := Lib.hid (HX.out.below hb hb.size)
  have HYn := Lib.hid (HY.out.below hb hb.size)
  have HBn := Lib.hid (HB.out.trans (hb.mono HB.out.size))
  clear HB HX HY hb hs hnz
  have HB := HBn
  have HX := HXn
  have HY := HYn
  clear HBn HXn HYn
  obtain ⟨M, hM⟩ : ∃ M, mg (rl f0 0 nx nx) (mg (rl f1 1 ny ny) (rl f2 2 nz nz)) = M := ⟨_, rfl⟩
  have HTH : Hid (Thr (rl f0 0 nx nx) (rl f1 1 ny ny) (rl f2 2 nz nz) M) := Lib.hid (by rw [← hM]; exact thr_mg f0 f1 f2 nx ny nz)
  have HM3 := Lib.hid (merge3 (rl f0 0 nx nx) (rl f1 1 ny ny) (rl f2 2 nz nz) (by rw [rl_len]; omega) (by rw [rl_len]; omega) (by rw [rl_len]; omega))
  rw [hM] at HM3
  clear hM
  go_wp2_with fail
  have hba : Below w4.heap.size w4 (w4.alloc (.cells #[.slice Ax nx cx, .slice Ay ny cy, .slice Az nz cz] 43)) := (Below.refl _ w4).alloc (Nat.le_refl _) _
  have HXn := Lib.hid (HX.out.below hba hba.size)
  have HYn := Lib.hid (HY.out.below hba hba.size)
  have HZn := Lib.hid (HZ.out.below hba hba.size)
  have HLL : Hid (LL (w4.alloc (.cells #[.slice Ax nx cx, .slice Ay ny cy, .slice Az nz cz] 43)) (w4.alloc (.cells #[.slice Ax nx cx, .slice Ay ny cy, .slice Az nz cz] 43)).heap.size (.slice (some ⟨w4.heap.size, 0, none⟩) 3 3) [.slice Ax nx cx, .slice Ay ny cy, .slice Az nz cz]) := Lib.hid
    ⟨_, 3, rfl, by simp, by omega, fun k hk => ⟨_, _, rfl, by simp, by
      rw [Nat.zero_add, (Row.made w4 43 #[.slice Ax nx cx, .slice Ay ny cy, .slice Az nz cz]).cell k]
      simp at hk
      have : k = 0 ∨ k = 1 ∨ k = 2 := by omega
      rcases this with rfl | rfl | rfl <;> rfl⟩⟩
  refine (HM3.out _ _ _ HLL.out rfl (fun k v' L h1 h2 => by
    have hk : k < 3 := by have := (List.getElem?_eq_some_iff.1 h1).1; simpa using this
    have : k = 0 ∨ k = 1 ∨ k = 2 := by omega
    rcases this with rfl | rfl | rfl
    · injection h1 with h1; injection h2 with h2; subst h1 h2; exact HXn.out
    · injection h1 with h1; injection h2 with h2; subst h1 h2; exact HYn.out
    · injection h1 with h1; injection h2 with h2; subst h1 h2; exact HZn.out)).mono ?_
  rintro e w5 ⟨vm, om, rfl, hs, hb⟩
  have hln := HTH.out.ln
  rw [rl_len, rl_len, rl_len] at hln
  obtain ⟨N, hN⟩ : ∃ N, M.length = N := ⟨_, rfl⟩
  have HN := Lib.hid hN
  have hsN := hs
  rw [hN] at hsN hln
  obtain ⟨Am, cm, rfl, hcm, _⟩ := hsN.form
  have HM := Lib.hid (LS.of_seg hs)
  have HXm := Lib.hid (HXn.out.below hb hb.size)
  have HYm := Lib.hid (HYn.out.below hb hb.size)
  have HZm := Lib.hid (HZn.out.below hb hb.size)
  have HBn := Lib.hid (HB.out.trans ((hba.trans (hb.mono hba.size)).mono HB.out.size))
  clear HB HX HY HZ HXn HYn HZn HLL HM3 hb hba hs hsN hN
  have HB := HBn
  clear HBn
  obtain ⟨nxy, hxy⟩ : ∃ n, nx + ny = n := ⟨_, rfl⟩
  have hxyi : (nx : Int) + (ny : Int) = (nxy : Int) := by omega
  have hNi : (nxy : Int) + (nz : Int) = (N : Int) := by omega
  have hN36 : N ≤ 36 := by omega
  have HLN := Lib.hid hln
  clear hxy hln
  go_upto_region 7 with fail
  obtain ⟨Lat, hLat⟩ : ∃ x, w5.heap.size = x := ⟨_, rfl⟩
  rw [hLat]
  obtain ⟨gl, hgl⟩ : ∃ x, Lat + 1 = x := ⟨_, rfl⟩
  rw [hgl]
  obtain ⟨w6, hw6⟩ : ∃ x, (w5.alloc (.cells #[.int .i64 0, .int .i64 0, .int .i64 0] 48)).alloc (.cells #[.slice Ax nx cx, .slice Ay ny cy, .slice Az nz cz] 43) = x := ⟨_, rfl⟩
  have hb56 : Below w5.heap.size w5 w6 := by rw [← hw6]; exact ((Below.refl _ w5).alloc (Nat.le_refl _) _).alloc (by simp) _
  have HR6 : Hid (Row w6 Lat 48 #[.int .i64 0, .int .i64 0, .int .i64 0]) := Lib.hid (by rw [← hw6, ← hLat]; exact (Row.made w5 _ _).alloc _)
  have HL6 : Hid (Row w6 gl 43 #[.slice Ax nx cx, .slice Ay ny cy, .slice Az nz cz]) := Lib.hid (by
    rw [← hw6, ← hgl, ← hLat]
    have := Row.made (w5.alloc (.cells #[.int .i64 0, .int .i64 0, .int .i64 0] 48)) 43 #[.slice Ax nx cx, .slice Ay ny cy, .slice Az nz cz]
    rwa [World.size_alloc] at this)
  rw [hw6]
  have HM6 := Lib.hid (HM.out.below hb56 hb56.size)
  have hwL : w.heap.size ≤ Lat := by have := HB.out.size; omega
  have HB56 := Lib.hid hb56
  clear hw6 hb56
  go_wp2_with (go_at_call 23; refine (rises_any _ M _ HM6.out (by rw [HN.out]; omega)).mono ?_; rintro e w7 ⟨b, rfl, hb1, hbe⟩; obtain rfl : b = true := hb1.2 HTH.out.up; have HB67 := Lib.hid hbe; clear hb1 hbe)
  have HB57 := Lib.hid (HB56.out.trans (HB67.out.mono HB56.out.size))
  have HR7 : Hid (Row w7 Lat 48 #[.int .i64 0, .int .i64 0, .int .i64 0]) := Lib.hid ((HB67.out.block Lat HR6.out.lt).trans HR6.out)
  have HL7 : Hid (Row w7 gl 43 #[.slice Ax nx cx, .slice Ay ny cy, .slice Az nz cz]) := Lib.hid ((HB67.out.block gl HL6.out.lt).trans HL6.out)
  have HX7 : Hid (LS w7 Lat (.slice Ax nx cx) (rl f0 0 nx nx)) := Lib.hid (by rw [← hLat]; exact HXm.out.below HB57.out (Nat.le_refl _))
  have HY7 : Hid (LS w7 Lat (.slice Ay ny cy) (rl f1 1 ny ny)) := Lib.hid (by rw [← hLat]; exact HYm.out.below HB57.out (Nat.le_refl _))
  have HZ7 : Hid (LS w7 Lat (.slice Az nz cz) (rl f2 2 nz nz)) := Lib.hid (by rw [← hLat]; exact HZm.out.below HB57.out (Nat.le_refl _))
  have HM7 : Hid (LS w7 Lat (.slice Am N cm) M) := Lib.hid (by rw [← hLat]; exact HM.out.below HB57.out (Nat.le_refl _))
  have HRD : Hid (Rd w w7 w7 Lat M 0) := Lib.hid ⟨by simpa [cnt] using HR7.out, fun _ _ _ => rfl, HB.out.trans (HB57.out.mono HB.out.size)⟩
  clear HM6 HR6 HL6 HB56 HB67 HXm HYm HZm HM HB HB57 hLat
  go_loopw [13] (fun s wr => ∃ i : Nat, i ≤ N ∧ s = .int .i64 i ∧ Hid (Rd w w7 wr Lat M i)) (fun s _ => N - (intOf s).toNat)
  case atStart => exact ⟨0, by omega, rfl, HRD⟩
  case round =>
    clear HRD
    obtain ⟨i, hiN, rfl, hrd⟩ := hrel
    by_cases hlt : i < N
    · have hiz : (i : Int) < (N : Int) := by omega
      obtain ⟨u, hu⟩ : ∃ u, M[i]? = some u := ⟨M[i]'(by rw [HN.out]; exact hlt), List.getElem?_eq_getElem _⟩
      obtain ⟨huq, hk⟩ := HTH.out.ka i u hu
      obtain ⟨gm, om', e, hgm, m0, m1, m2⟩ := HM7.out.at hu
      subst e
      obtain ⟨ut, uq, ua⟩ := u
      obtain rfl : uq = 0 := huq
      have HU := Lib.hid hu
      have hgmL : gm ≠ Lat := by omega
      have hglL : gl ≠ Lat := by omega
      have q0 := (hrd.out.oth gm (om' + i * 3) hgmL).trans m0
      have q1 := (hrd.out.oth gm (om' + i * 3 + 1) hgmL).trans m1
      have q2 := (hrd.out.oth gm (om' + i * 3 + 2) hgmL).trans m2
      have l0 : wr.cell? ⟨gl, 0, none⟩ = some (.slice Ax nx cx) := (hrd.out.oth gl 0 hglL).trans ((HL7.out.cell 0).trans rfl)
      have l1 : wr.cell? ⟨gl, 1, none⟩ = some (.slice Ay ny cy) := (hrd.out.oth gl 1 hglL).trans ((HL7.out.cell 1).trans rfl)
      have l2 : wr.cell? ⟨gl, 2, none⟩ = some (.slice Az nz cz) := (hrd.out.oth gl 2 hglL).trans ((HL7.out.cell 2).trans rfl)
      obtain ⟨k0, hk0⟩ : ∃ c, cnt M 0 i = c := ⟨_, rfl⟩
      obtain ⟨k1, hk1⟩ : ∃ c, cnt M 1 i = c := ⟨_, rfl⟩
      obtain ⟨k2, hk2⟩ : ∃ c, cnt M 2 i = c := ⟨_, rfl⟩
      have hrow := hrd.out.row
      rw [hk0, hk1, hk2] at hrow hk
      have r0 : wr.cell? ⟨Lat, 0, none⟩ = some (.int .i64 k0) := (hrow.cell 0).trans rfl
      have r1 : wr.cell? ⟨Lat, 1, none⟩ = some (.int .i64 k1) := (hrow.cell 1).trans rfl
      have r2 : wr.cell? ⟨Lat, 2, none⟩ = some (.int .i64 k2) := (hrow.cell 2).trans rfl
      have hRK : ∃ k ck n A c, Rk wr Lat gl M i k ck n A c ⟨ut, 0, ua⟩ ∧ ua = (k : Int) := by
        rcases hk with ⟨ha, hx⟩ | ⟨ha, hx⟩ | ⟨ha, hx⟩
        · have hkn : k0 < nx := by have h := (List.getElem?_eq_some_iff.1 hx).1; rwa [rl_len] at h
          obtain ⟨gk, ok, e, hgk, x0, x1, x2⟩ := HX7.out.at hx
          have hne : gk ≠ Lat := by omega
          exact ⟨0, k0, nx, Ax, cx, ⟨by omega, r0, hk0, l0, hcx, hx12, hkn, gk, ok, e, (hrd.out.oth gk _ hne).trans x0, (hrd.out.oth gk _ hne).trans x1, (hrd.out.oth gk _ hne).trans x2⟩, ha⟩
        · have hkn : k1 < ny := by have h := (List.getElem?_eq_some_iff.1 hx).1; rwa [rl_len] at h
          obtain ⟨gk, ok, e, hgk, x0, x1, x2⟩ := HY7.out.at hx
          have hne : gk ≠ Lat := by omega
          exact ⟨1, k1, ny, Ay, cy, ⟨by omega, r1, hk1, l1, hcy, hy12, hkn, gk, ok, e, (hrd.out.oth gk _ hne).trans x0, (hrd.out.oth gk _ hne).trans x1, (hrd.out.oth gk _ hne).trans x2⟩, ha⟩
        · have hkn : k2 < nz := by have h := (List.getElem?_eq_some_iff.1 hx).1; rwa [rl_len] at h
          obtain ⟨gk, ok, e, hgk, x0, x1, x2⟩ := HZ7.out.at hx
          have hne : gk ≠ Lat := by omega
          exact ⟨2, k2, nz, Az, cz, ⟨by omega, r2, hk2, l2, hcz, hz12, hkn, gk, ok, e, (hrd.out.oth gk _ hne).trans x0, (hrd.out.oth gk _ hne).trans x1, (hrd.out.oth gk _ hne).trans x2⟩, ha⟩
      obtain ⟨k, ck, nk, Ak, cck, hrk, rfl⟩ := hRK
      have HNX : Hid (Rd w w7 (wr.setCell ⟨Lat, k, none⟩ (.int .i64 (wrap64 ((ck : Int) + 1)))).drew Lat M (i + 1)) := Lib.hid (by
        have h := hrd.out.next hwL k hrk.k3 _ HU.out rfl
        rw [hrk.ct] at h
        have e : wrap64 ((ck : Int) + 1) = (ck : Int) + 1 := by have h1 := hrk.lt; have h2 := hrk.n12; unfold wrap64; omega
        rw [e]
        exact ⟨h.row, h.oth, h.be.drew⟩)
      have t0 := hrk.ar
      have t1 := hrk.ls
      have tz := hrow.free k
      have hk3 : k < 3 := hrk.k3
      have hkz : (k : Int) < 3 := by omega
      have hk0' : ¬ (k : Int) < 0 := by omega
      have hk2' : ¬ (2 : Int) < (k : Int) := by omega
      have hcn : ck < nk := hrk.lt
      have hcz' : (ck : Int) < (nk : Int) := by omega
      have hcz2 : ¬ (nk : Int) ≤ (ck : Int) := by omega
      have hnk : nk ≤ cck := hrk.nc
      obtain ⟨gk, ok, e, y0, y1, y2⟩ := hrk.el
      subst e
      have HRD2 := Lib.hid (hrd.out.drewN 1)
      have HRD1 := hrd
      clear hu hrow hk0 hk1 hk2 m0 m1 m2 hk hrk r0 r1 r2 l0 l1 l2
      by_cases hi0 : i = 0
      · have hip : ¬ (0 : Int) < (i : Int) := by omega
        have hipn : ¬ 0 < i := by omega
        have hd1 : decide ((0 : Int) < (i : Int)) = false := decide_eq_false hip
        have hd2 : decide (0 < i) = false := decide_eq_false hipn
        clear hi0
        go_upto_region 13 with fail
        refine wp_region_noPanic ?_
        refine wp_region_held_drew (S := (fun X => X.cell? ⟨gm, om' + i * 3, none⟩ = some (.int .i64 ut) ∧ X.cell? ⟨gm, om' + i * 3 + 1, none⟩ = some (.int .i64 0) ∧ X.cell? ⟨gm, om' + i * 3 + 2, none⟩ = some (.int .i64 (k : Int)) ∧ X.cell? ⟨Lat, k, none⟩ = some (.int .i64 ck) ∧ X.cell? ⟨gl, k, none⟩ = some (.slice (some ⟨gk, ok, none⟩) nk cck) ∧ X.cell? ⟨gk, ok + ck * 3, none⟩ = some (.int .i64 ut) ∧ X.cell? ⟨gk, ok + ck * 3 + 1, none⟩ = some (.int .i64 0) ∧ X.cell? ⟨gk, ok + ck * 3 + 2, none⟩ = some (.int .i64 (k : Int)))) (by kernel_rfl) ?_ (fun hHeld => ?_)
        · exact ⟨q0, q1, q2, t0, t1, y0, y1, y2⟩
        refine take_at4 0 61 _ (v := ?v100) rfl rfl (by kernel_rfl) (by kernel_rfl) (by kernel_rfl) (fun _ _ _ h => h) (Or.inl ⟨by rfl, ?hy100⟩) (by assumption) ?rest100
        case hy100 =>
          intro wX hSw
          try dsimp only at hSw
          go_simp
          first
          | done
          | (with_reducible rfl)
        try simp only [Act.put, List.setIfInBounds_toArray, List.set_cons_zero, List.set_cons_succ]
        refine take_at4 1 62 _ (v := ?v101) rfl rfl (by kernel_rfl) (by kernel_rfl) (by kernel_rfl) (fun _ _ _ h => h) (Or.inl ⟨by rfl, ?hy101⟩) (by assumption) ?rest101
        case hy101 =>
          intro wX hSw
          try dsimp only at hSw
          go_simp
          first
          | done
          | (with_reducible rfl)
        try simp only [Act.put, List.setIfInBounds_toArray, List.set_cons_zero, List.set_cons_succ]
        refine take_at4 2 63 _ (v := ?v102) rfl rfl (by kernel_rfl) (by kernel_rfl) (by kernel_rfl) (fun _ _ _ h => h) (Or.inl ⟨by rfl, ?hy102⟩) (by assumption) ?rest102
        case hy102 =>
          intro wX hSw
          try dsimp only at hSw
          go_simp
          first
          | done
          | (with_reducible rfl)
        try simp only [Act.put, List.setIfInBounds_toArray, List.set_cons_zero, List.set_cons_succ]
        refine take_at4 3 64 _ (v := ?v103) rfl rfl (by kernel_rfl) (by kernel_rfl) (by kernel_rfl) (fun _ _ _ h => h) (Or.inl ⟨by rfl, ?hy103⟩) (by assumption) ?rest103
        case hy103 =>
          intro wX hSw
          try dsimp only at hSw
          go_simp
          first
          | done
          | (with_reducible rfl)
        try simp only [Act.put, List.setIfInBounds_toArray, List.set_cons_zero, List.set_cons_succ]
        refine take_at4 4 65 _ (v := ?v104) rfl rfl (by kernel_rfl) (by kernel_rfl) (by kernel_rfl) (fun _ _ _ h => h) (Or.inl ⟨by rfl, ?hy104⟩) (by assumption) ?rest104
        case hy104 =>
          intro wX hSw
          try dsimp only at hSw
          go_simp
          first
          | done
          | (with_reducible rfl)
        try simp only [Act.put, List.setIfInBounds_toArray, List.set_cons_zero, List.set_cons_succ]
        refine take_at4 5 66 _ (v := ?v105) rfl rfl (by kernel_rfl) (by kernel_rfl) (by kernel_rfl) (fun _ _ _ h => h) (Or.inl ⟨by rfl, ?hy105⟩) (by assumption) ?rest105
        case hy105 =>
          intro wX hSw
          try dsimp only at hSw
          go_simp
          first
          | done
          | (with_reducible rfl)
        try simp only [Act.put, List.setIfInBounds_toArray, List.set_cons_zero, List.set_cons_succ]
        refine take_at4 6 67 _ (v := ?v106) rfl rfl (by kernel_rfl) (by kernel_rfl) (by kernel_rfl) (fun _ _ _ h => h) (Or.inl ⟨by rfl, ?hy106⟩) (by assumption) ?rest106
        case hy106 =>
          intro wX hSw
          try dsimp only at hSw
          go_simp
          first
          | done
          | (with_reducible rfl)
        try simp only [Act.put, List.setIfInBounds_toArray, List.set_cons_zero, List.set_cons_succ]
        refine take_at4 7 68 _ (v := ?v107) rfl rfl (by kernel_rfl) (by kernel_rfl) (by kernel_rfl) (fun _ _ _ h => h) (Or.inl ⟨by rfl, ?hy107⟩) (by assumption) ?rest107
        case hy107 =>
          intro wX hSw
          try dsimp only at hSw
          go_simp
          first
          | done
          | (with_reducible rfl)
        try simp only [Act.put, List.setIfInBounds_toArray, List.set_cons_zero, List.set_cons_succ]
        refine take_at4 8 69 _ (v := ?v108) rfl rfl (by kernel_rfl) (by kernel_rfl) (by kernel_rfl) (fun _ _ _ h => h) (Or.inl ⟨by rfl, ?hy108⟩) (by assumption) ?rest108
        case hy108 =>
          intro wX hSw
          try dsimp only at hSw
          go_simp
          first
          | done
          | (with_reducible rfl)
        try simp only [Act.put, List.setIfInBounds_toArray, List.set_cons_zero, List.set_cons_succ]
        refine take_at4 9 70 _ (v := ?v109) rfl rfl (by kernel_rfl) (by kernel_rfl) (by kernel_rfl) (fun _ _ _ h => h) (Or.inl ⟨by rfl, ?hy109⟩) (by assumption) ?rest109
        case hy109 =>
          intro wX hSw
          try dsimp only at hSw
          go_simp
          first
          | done
          | (with_reducible rfl)
        try simp only [Act.put, List.setIfInBounds_toArray, List.set_cons_zero, List.set_cons_succ]
        refine take_at4 10 71 _ (v := ?v1010) rfl rfl (by kernel_rfl) (by kernel_rfl) (by kernel_rfl) (fun _ _ _ h => h) (Or.inl ⟨by rfl, ?hy1010⟩) (by assumption) ?rest1010
        case hy1010 =>
          intro wX hSw
          try dsimp only at hSw
          go_simp
          first
          | done
          | (with_reducible rfl)
        try simp only [Act.put, List.setIfInBounds_toArray, List.set_cons_zero, List.set_cons_succ]
        refine take_at4 11 72 _ (v := ?v1011) rfl rfl (by kernel_rfl) (by kernel_rfl) (by kernel_rfl) (fun _ _ _ h => h) (Or.inl ⟨by rfl, ?hy1011⟩) (by assumption) ?rest1011
        case hy1011 =>
          intro wX hSw
          try dsimp only at hSw
          go_simp
          first
          | done
          | (with_reducible rfl)
        try simp only [Act.put, List.setIfInBounds_toArray, List.set_cons_zero, List.set_cons_succ]
        refine take_at4 12 73 _ (v := ?v1012) rfl rfl (by kernel_rfl) (by kernel_rfl) (by kernel_rfl) (fun _ _ _ h => h) (Or.inl ⟨by rfl, ?hy1012⟩) (by assumption) ?rest1012
        case hy1012 =>
          intro wX hSw
          try dsimp only at hSw
          go_simp
          first
          | done
          | (with_reducible rfl)
        try simp only [Act.put, List.setIfInBounds_toArray, List.set_cons_zero, List.set_cons_succ]
        refine take_at4 13 74 _ (v := ?v1013) rfl rfl (by kernel_rfl) (by kernel_rfl) (by kernel_rfl) (fun _ _ _ h => h) (Or.inl ⟨by rfl, ?hy1013⟩) (by assumption) ?rest1013
        case hy1013 =>
          intro wX hSw
          try dsimp only at hSw
          go_simp
          first
          | done
          | (with_reducible rfl)
        try simp only [Act.put, List.setIfInBounds_toArray, List.set_cons_zero, List.set_cons_succ]
        refine take_at4 14 75 _ (v := ?v1014) rfl rfl (by kernel_rfl) (by kernel_rfl) (by kernel_rfl) (fun _ _ _ h => h) (Or.inl ⟨by rfl, ?hy1014⟩) (by assumption) ?rest1014
        case hy1014 =>
          intro wX hSw
          try dsimp only at hSw
          go_simp
          first
          | done
          | (with_reducible rfl)
        try simp only [Act.put, List.setIfInBounds_toArray, List.set_cons_zero, List.set_cons_succ]
        refine take_at4 15 76 _ (v := ?v1015) rfl rfl (by kernel_rfl) (by kernel_rfl) (by kernel_rfl) (fun _ _ _ h => h) (Or.inl ⟨by rfl, ?hy1015⟩) (by assumption) ?rest1015
        case hy1015 =>
          intro wX hSw
          try dsimp only at hSw
          go_simp
          first
          | done
          | (with_reducible rfl)
        try simp only [Act.put, List.setIfInBounds_toArray, List.set_cons_zero, List.set_cons_succ]
        refine take_at4 16 77 _ (v := ?v1016) rfl rfl (by kernel_rfl) (by kernel_rfl) (by kernel_rfl) (fun _ _ _ h => h) (Or.inl ⟨by rfl, ?hy1016⟩) (by assumption) ?rest1016
        case hy1016 =>
          intro wX hSw
          try dsimp only at hSw
          go_simp
          first
          | done
          | (with_reducible rfl)
        try simp only [Act.put, List.setIfInBounds_toArray, List.set_cons_zero, List.set_cons_succ]
        refine take_at4 17 78 _ (v := ?v1017) rfl rfl (by kernel_rfl) (by kernel_rfl) (by kernel_rfl) (fun _ _ _ h => h) (Or.inl ⟨by rfl, ?hy1017⟩) (by assumption) ?rest1017
        case hy1017 =>
          intro wX hSw
          try dsimp only at hSw
          go_simp
          first
          | done
          | (with_reducible rfl)
        try simp only [Act.put, List.setIfInBounds_toArray, List.set_cons_zero, List.set_cons_succ]
        refine take_at4 18 79 _ (v := ?v1018) rfl rfl (by kernel_rfl) (by kernel_rfl) (by kernel_rfl) (fun _ _ _ h => h) (Or.inl ⟨by rfl, ?hy1018⟩) (by assumption) ?rest1018
        case hy1018 =>
          intro wX hSw
          try dsimp only at hSw
          go_simp
          first
          | done
          | (with_reducible rfl)
        try simp only [Act.put, List.setIfInBounds_toArray, List.set_cons_zero, List.set_cons_succ]
        refine take_at4 19 80 _ (v := ?v1019) rfl rfl (by kernel_rfl) (by kernel_rfl) (by kernel_rfl) (fun _ _ _ h => h) (Or.inl ⟨by rfl, ?hy1019⟩) (by assumption) ?rest1019
        case hy1019 =>
          intro wX hSw
          try dsimp only at hSw
          go_simp
          first
          | done
          | (with_reducible rfl)
        try simp only [Act.put, List.setIfInBounds_toArray, List.set_cons_zero, List.set_cons_succ]
        refine take_at4 20 81 _ (v := ?v1020) rfl rfl (by kernel_rfl) (by kernel_rfl) (by kernel_rfl) (fun _ _ _ h => h) (Or.inl ⟨by rfl, ?hy1020⟩) (by assumption) ?rest1020
        case hy1020 =>
          intro wX hSw
          try dsimp only at hSw
          go_simp
          first
          | done
          | (with_reducible rfl)
        try simp only [Act.put, List.setIfInBounds_toArray, List.set_cons_zero, List.set_cons_succ]
        refine take_at4 21 82 _ (v := ?v1021) rfl rfl (by kernel_rfl) (by kernel_rfl) (by kernel_rfl) (fun _ _ _ h => h) (Or.inl ⟨by rfl, ?hy1021⟩) (by assumption) ?rest1021
        case hy1021 =>
          intro wX hSw
          try dsimp only at hSw
          go_simp
          first
          | done
          | (with_reducible rfl)
        try simp only [Act.put, List.setIfInBounds_toArray, List.set_cons_zero, List.set_cons_succ]
        refine take_at4 22 83 _ (v := ?v1022) rfl rfl (by kernel_rfl) (by kernel_rfl) (by kernel_rfl) (fun _ _ _ h => h) (Or.inl ⟨by rfl, ?hy1022⟩) (by assumption) ?rest1022
        case hy1022 =>
          intro wX hSw
          try dsimp only at hSw
          go_simp
          first
          | done
          | (with_reducible rfl)
        try simp only [Act.put, List.setIfInBounds_toArray, List.set_cons_zero, List.set_cons_succ]
        refine take_at4 23 84 _ (v := ?v1023) rfl rfl (by kernel_rfl) (by kernel_rfl) (by kernel_rfl) (fun _ _ _ h => h) (Or.inl ⟨by rfl, ?hy1023⟩) (by assumption) ?rest1023
        case hy1023 =>
          intro wX hSw
          try dsimp only at hSw
          go_simp
          first
          | done
          | (with_reducible rfl)
        try simp only [Act.put, List.setIfInBounds_toArray, List.set_cons_zero, List.set_cons_succ]
        refine take_at4 24 85 _ (v := ?v1024) rfl rfl (by kernel_rfl) (by kernel_rfl) (by kernel_rfl) (fun _ _ _ h => h) (Or.inl ⟨by rfl, ?hy1024⟩) (by assumption) ?rest1024
        case hy1024 =>
          intro wX hSw
          try dsimp only at hSw
          go_simp
          first
          | done
          | (with_reducible rfl)
        try simp only [Act.put, List.setIfInBounds_toArray, List.set_cons_zero, List.set_cons_succ]
        refine take_at4 25 86 _ (v := ?v1025) rfl rfl (by kernel_rfl) (by kernel_rfl) (by kernel_rfl) (fun _ _ _ h => h) (Or.inl ⟨by rfl, ?hy1025⟩) (by assumption) ?rest1025
        case hy1025 =>
          intro wX hSw
          try dsimp only at hSw
          go_simp
          first
          | done
          | (with_reducible rfl)
        try simp only [Act.put, List.setIfInBounds_toArray, List.set_cons_zero, List.set_cons_succ]
        refine take_at4 26 87 _ (v := ?v1026) rfl rfl (by kernel_rfl) (by kernel_rfl) (by kernel_rfl) (fun _ _ _ h => h) (Or.inl ⟨by rfl, ?hy1026⟩) (by assumption) ?rest1026
        case hy1026 =>
          intro wX hSw
          try dsimp only at hSw
          go_simp
          first
          | done
          | (with_reducible rfl)
        try simp only [Act.put, List.setIfInBounds_toArray, List.set_cons_zero, List.set_cons_succ]
        refine take_at4 27 88 _ (v := ?v1027) rfl rfl (by kernel_rfl) (by kernel_rfl) (by kernel_rfl) (fun _ _ _ h => h) (Or.inl ⟨by rfl, ?hy1027⟩) (by assumption) ?rest1027
        case hy1027 =>
          intro wX hSw
          try dsimp only at hSw
          go_simp
          first
          | done
          | (with_reducible rfl)
        try simp only [Act.put, List.setIfInBounds_toArray, List.set_cons_zero, List.set_cons_succ]
        refine take_at4 28 89 _ (v := ?v1028) rfl rfl (by kernel_rfl) (by kernel_rfl) (by kernel_rfl) (fun _ _ _ h => h) (Or.inl ⟨by rfl, ?hy1028⟩) (by assumption) ?rest1028
        case hy1028 =>
          intro wX hSw
          try dsimp only at hSw
          go_simp
          first
          | done
          | (with_reducible rfl)
        try simp only [Act.put, List.setIfInBounds_toArray, List.set_cons_zero, List.set_cons_succ]
        refine take_at4 29 90 _ (v := ?v1029) rfl rfl (by kernel_rfl) (by kernel_rfl) (by kernel_rfl) (fun _ _ _ h => h) (Or.inl ⟨by rfl, ?hy1029⟩) (by assumption) ?rest1029
        case hy1029 =>
          intro wX hSw
          try dsimp only at hSw
          go_simp
          first
          | done
          | (with_reducible rfl)
        try simp only [Act.put, List.setIfInBounds_toArray, List.set_cons_zero, List.set_cons_succ]
        refine take_at4 30 91 _ (v := ?v1030) rfl rfl (by kernel_rfl) (by kernel_rfl) (by kernel_rfl) (fun _ _ _ h => h) (Or.inl ⟨by rfl, ?hy1030⟩) (by assumption) ?rest1030
        case hy1030 =>
          intro wX hSw
          try dsimp only at hSw
          go_simp
          first
          | done
          | (with_reducible rfl)
        try simp only [Act.put, List.setIfInBounds_toArray, List.set_cons_zero, List.set_cons_succ]
        refine take_at4 31 92 _ (v := ?v1031) rfl rfl (by kernel_rfl) (by kernel_rfl) (by kernel_rfl) (fun _ _ _ h => h) (Or.inl ⟨by rfl, ?hy1031⟩) (by assumption) ?rest1031
        case hy1031 =>
          intro wX hSw
          try dsimp only at hSw
          go_simp
          first
          | done
          | (with_reducible rfl)
        try simp only [Act.put, List.setIfInBounds_toArray, List.set_cons_zero, List.set_cons_succ]
        refine take_at4 32 93 _ (v := ?v1032) rfl rfl (by kernel_rfl) (by kernel_rfl) (by kernel_rfl) (fun _ _ _ h => h) (Or.inl ⟨by rfl, ?hy1032⟩) (by assumption) ?rest1032
        case hy1032 =>
          intro wX hSw
          try dsimp only at hSw
          go_simp
          first
          | done
          | (with_reducible rfl)
        try simp only [Act.put, List.setIfInBounds_toArray, List.set_cons_zero, List.set_cons_succ]
        refine take_at4 33 94 _ (v := ?v1033) rfl rfl (by kernel_rfl) (by kernel_rfl) (by kernel_rfl) (fun _ _ _ h => h) (Or.inl ⟨by rfl, ?hy1033⟩) (by assumption) ?rest1033
        case hy1033 =>
          intro wX hSw
          try dsimp only at hSw
          go_simp
          first
          | done
          | (with_reducible rfl)
        try simp only [Act.put, List.setIfInBounds_toArray, List.set_cons_zero, List.set_cons_succ]
        refine take_at4 34 95 _ (v := ?v1034) rfl rfl (by kernel_rfl) (by kernel_rfl) (by kernel_rfl) (fun _ _ _ h => h) (Or.inl ⟨by rfl, ?hy1034⟩) (by assumption) ?rest1034
        case hy1034 =>
          intro wX hSw
          try dsimp only at hSw
          go_simp
          first
          | done
          | (with_reducible rfl)
        try simp only [Act.put, List.setIfInBounds_toArray, List.set_cons_zero, List.set_cons_succ]
        refine take_at4 35 96 _ (v := ?v1035) rfl rfl (by kernel_rfl) (by kernel_rfl) (by kernel_rfl) (fun _ _ _ h => h) (Or.inl ⟨by rfl, ?hy1035⟩) (by assumption) ?rest1035
        case hy1035 =>
          intro wX hSw
          try dsimp only at hSw
          go_simp
          first
          | done
          | (with_reducible rfl)
        try simp only [Act.put, List.setIfInBounds_toArray, List.set_cons_zero, List.set_cons_succ]
        refine take_at4 36 97 _ (v := ?v1036) rfl rfl (by kernel_rfl) (by kernel_rfl) (by kernel_rfl) (fun _ _ _ h => h) (Or.inl ⟨by rfl, ?hy1036⟩) (by assumption) ?rest1036
        case hy1036 =>
          intro wX hSw
          try dsimp only at hSw
          go_simp
          first
          | done
          | (with_reducible rfl)
        try simp only [Act.put, List.setIfInBounds_toArray, List.set_cons_zero, List.set_cons_succ]
        refine take_at4 37 98 _ (v := undef) rfl rfl (by kernel_rfl) (by kernel_rfl) (by kernel_rfl) (fun _ _ _ h => h) (Or.inr ⟨by rfl, rfl⟩) (by assumption) ?_
        try simp only [Act.put, List.setIfInBounds_toArray, List.set_cons_zero, List.set_cons_succ]
        refine take_at4 38 99 _ (v := undef) rfl rfl (by kernel_rfl) (by kernel_rfl) (by kernel_rfl) (fun _ _ _ h => h) (Or.inr ⟨by rfl, rfl⟩) (by assumption) ?_
        try simp only [Act.put, List.setIfInBounds_toArray, List.set_cons_zero, List.set_cons_succ]
        refine take_at4 39 100 _ (v := undef) rfl rfl (by kernel_rfl) (by kernel_rfl) (by kernel_rfl) (fun _ _ _ h => h) (Or.inr ⟨by rfl, rfl⟩) (by assumption) ?_
        try simp only [Act.put, List.setIfInBounds_toArray, List.set_cons_zero, List.set_cons_succ]
        refine take_at4 40 101 _ (v := undef) rfl rfl (by kernel_rfl) (by kernel_rfl) (by kernel_rfl) (fun _ _ _ h => h) (Or.inr ⟨by rfl, rfl⟩) (by assumption) ?_
        try simp only [Act.put, List.setIfInBounds_toArray, List.set_cons_zero, List.set_cons_succ]
        refine take_at4 41 102 _ (v := undef) rfl rfl (by kernel_rfl) (by kernel_rfl) (by kernel_rfl) (fun _ _ _ h => h) (Or.inr ⟨by rfl, rfl⟩) (by assumption) ?_
        try simp only [Act.put, List.setIfInBounds_toArray, List.set_cons_zero, List.set_cons_succ]
        refine take_at4 42 103 _ (v := undef) rfl rfl (by kernel_rfl) (by kernel_rfl) (by kernel_rfl) (fun _ _ _ h => h) (Or.inr ⟨by rfl, rfl⟩) (by assumption) ?_
        try simp only [Act.put, List.setIfInBounds_toArray, List.set_cons_zero, List.set_cons_succ]
        refine take_at4 43 104 _ (v := undef) rfl rfl (by kernel_rfl) (by kernel_rfl) (by kernel_rfl) (fun _ _ _ h => h) (Or.inr ⟨by rfl, rfl⟩) (by assumption) ?_
        try simp only [Act.put, List.setIfInBounds_toArray, List.set_cons_zero, List.set_cons_succ]
        refine take_at4 44 105 _ (v := undef) rfl rfl (by kernel_rfl) (by kernel_rfl) (by kernel_rfl) (fun _ _ _ h => h) (Or.inr ⟨by rfl, rfl⟩) (by assumption) ?_
        try simp only [Act.put, List.setIfInBounds_toArray, List.set_cons_zero, List.set_cons_succ]
        refine take_at4 45 106 _ (v := undef) rfl rfl (by kernel_rfl) (by kernel_rfl) (by kernel_rfl) (fun _ _ _ h => h) (Or.inr ⟨by rfl, rfl⟩) (by assumption) ?_
        try simp only [Act.put, List.setIfInBounds_toArray, List.set_cons_zero, List.set_cons_succ]
        refine take_at4 46 107 _ (v := undef) rfl rfl (by kernel_rfl) (by kernel_rfl) (by kernel_rfl) (fun _ _ _ h => h) (Or.inr ⟨by rfl, rfl⟩) (by assumption) ?_
        try simp only [Act.put, List.setIfInBounds_toArray, List.set_cons_zero, List.set_cons_succ]
        refine take_at4 47 108 _ (v := undef) rfl rfl (by kernel_rfl) (by kernel_rfl) (by kernel_rfl) (fun _ _ _ h => h) (Or.inr ⟨by rfl, rfl⟩) (by assumption) ?_
        try simp only [Act.put, List.setIfInBounds_toArray, List.set_cons_zero, List.set_cons_succ]
        refine take_at4 48 109 _ (v := undef) rfl rfl (by kernel_rfl) (by kernel_rfl) (by kernel_rfl) (fun _ _ _ h => h) (Or.inr ⟨by rfl, rfl⟩) (by assumption) ?_
        try simp only [Act.put, List.setIfInBounds_toArray, List.set_cons_zero, List.set_cons_succ]
        refine take_at4 49 110 _ (v := undef) rfl rfl (by kernel_rfl) (by kernel_rfl) (by kernel_rfl) (fun _ _ _ h => h) (Or.inr ⟨by rfl, rfl⟩) (by assumption) ?_
        try simp only [Act.put, List.setIfInBounds_toArray, List.set_cons_zero, List.set_cons_succ]
        refine take_at4 50 111 _ (v := undef) rfl rfl (by kernel_rfl) (by kernel_rfl) (by kernel_rfl) (fun _ _ _ h => h) (Or.inr ⟨by rfl, rfl⟩) (by assumption) ?_
        try simp only [Act.put, List.setIfInBounds_toArray, List.set_cons_zero, List.set_cons_succ]
        refine take_at4 51 112 _ (v := undef) rfl rfl (by kernel_rfl) (by kernel_rfl) (by kernel_rfl) (fun _ _ _ h => h) (Or.inr ⟨by rfl, rfl⟩) (by assumption) ?_
        try simp only [Act.put, List.setIfInBounds_toArray, List.set_cons_zero, List.set_cons_succ]
        refine take_at4 52 113 _ (v := undef) rfl rfl (by kernel_rfl) (by kernel_rfl) (by kernel_rfl) (fun _ _ _ h => h) (Or.inr ⟨by rfl, rfl⟩) (by assumption) ?_
        try simp only [Act.put, List.setIfInBounds_toArray, List.set_cons_zero, List.set_cons_succ]
        refine take_at4 53 114 _ (v := undef) rfl rfl (by kernel_rfl) (by kernel_rfl) (by kernel_rfl) (fun _ _ _ h => h) (Or.inr ⟨by rfl, rfl⟩) (by assumption) ?_
        try simp only [Act.put, List.setIfInBounds_toArray, List.set_cons_zero, List.set_cons_succ]
        refine take_at4 54 115 _ (v := undef) rfl rfl (by kernel_rfl) (by kernel_rfl) (by kernel_rfl) (fun _ _ _ h => h) (Or.inr ⟨by rfl, rfl⟩) (by assumption) ?_
        try simp only [Act.put, List.setIfInBounds_toArray, List.set_cons_zero, List.set_cons_succ]
        refine take_at4 55 116 _ (v := undef) rfl rfl (by kernel_rfl) (by kernel_rfl) (by kernel_rfl) (fun _ _ _ h => h) (Or.inr ⟨by rfl, rfl⟩) (by assumption) ?_
        try simp only [Act.put, List.setIfInBounds_toArray, List.set_cons_zero, List.set_cons_succ]
        refine take_at4 56 117 _ (v := undef) rfl rfl (by kernel_rfl) (by kernel_rfl) (by kernel_rfl) (fun _ _ _ h => h) (Or.inr ⟨by rfl, rfl⟩) (by assumption) ?_
        try simp only [Act.put, List.setIfInBounds_toArray, List.set_cons_zero, List.set_cons_succ]
        refine take_at4 57 118 _ (v := undef) rfl rfl (by kernel_rfl) (by kernel_rfl) (by kernel_rfl) (fun _ _ _ h => h) (Or.inr ⟨by rfl, rfl⟩) (by assumption) ?_
        try simp only [Act.put, List.setIfInBounds_toArray, List.set_cons_zero, List.set_cons_succ]
        refine take_at4 58 119 _ (v := undef) rfl rfl (by kernel_rfl) (by kernel_rfl) (by kernel_rfl) (fun _ _ _ h => h) (Or.inr ⟨by rfl, rfl⟩) (by assumption) ?_
        try simp only [Act.put, List.setIfInBounds_toArray, List.set_cons_zero, List.set_cons_succ]
        refine take_at4 59 120 _ (v := undef) rfl rfl (by kernel_rfl) (by kernel_rfl) (by kernel_rfl) (fun _ _ _ h => h) (Or.inr ⟨by rfl, rfl⟩) (by assumption) ?_
        try simp only [Act.put, List.setIfInBounds_toArray, List.set_cons_zero, List.set_cons_succ]
        refine take_at4 60 121 _ (v := undef) rfl rfl (by kernel_rfl) (by kernel_rfl) (by kernel_rfl) (fun _ _ _ h => h) (Or.inr ⟨by rfl, rfl⟩) (by assumption) ?_
        try simp only [Act.put, List.setIfInBounds_toArray, List.set_cons_zero, List.set_cons_succ]
        refine take_at4 61 122 _ (v := undef) rfl rfl (by kernel_rfl) (by kernel_rfl) (by kernel_rfl) (fun _ _ _ h => h) (Or.inr ⟨by rfl, rfl⟩) (by assumption) ?_
        try simp only [Act.put, List.setIfInBounds_toArray, List.set_cons_zero, List.set_cons_succ]
        refine take_at4 62 123 _ (v := undef) rfl rfl (by kernel_rfl) (by kernel_rfl) (by kernel_rfl) (fun _ _ _ h => h) (Or.inr ⟨by rfl, rfl⟩) (by assumption) ?_
        try simp only [Act.put, List.setIfInBounds_toArray, List.set_cons_zero, List.set_cons_succ]
        refine take_at4 63 124 _ (v := undef) rfl rfl (by kernel_rfl) (by kernel_rfl) (by kernel_rfl) (fun _ _ _ h => h) (Or.inr ⟨by rfl, rfl⟩) (by assumption) ?_
        try simp only [Act.put, List.setIfInBounds_toArray, List.set_cons_zero, List.set_cons_succ]
        refine take_at4 64 125 _ (v := undef) rfl rfl (by kernel_rfl) (by kernel_rfl) (by kernel_rfl) (fun _ _ _ h => h) (Or.inr ⟨by rfl, rfl⟩) (by assumption) ?_
        try simp only [Act.put, List.setIfInBounds_toArray, List.set_cons_zero, List.set_cons_succ]
        refine take_at4 65 126 _ (v := undef) rfl rfl (by kernel_rfl) (by kernel_rfl) (by kernel_rfl) (fun _ _ _ h => h) (Or.inr ⟨by rfl, rfl⟩) (by assumption) ?_
        try simp only [Act.put, List.setIfInBounds_toArray, List.set_cons_zero, List.set_cons_succ]
        refine take_at4 66 127 _ (v := undef) rfl rfl (by kernel_rfl) (by kernel_rfl) (by kernel_rfl) (fun _ _ _ h => h) (Or.inr ⟨by rfl, rfl⟩) (by assumption) ?_
        try simp only [Act.put, List.setIfInBounds_toArray, List.set_cons_zero, List.set_cons_succ]
        refine take_at4 67 128 _ (v := undef) rfl rfl (by kernel_rfl) (by kernel_rfl) (by kernel_rfl) (fun _ _ _ h => h) (Or.inr ⟨by rfl, rfl⟩) (by assumption) ?_
        try simp only [Act.put, List.setIfInBounds_toArray, List.set_cons_zero, List.set_cons_succ]
        refine take_at4 68 129 _ (v := undef) rfl rfl (by kernel_rfl) (by kernel_rfl) (by kernel_rfl) (fun _ _ _ h => h) (Or.inr ⟨by rfl, rfl⟩) (by assumption) ?_
        try simp only [Act.put, List.setIfInBounds_toArray, List.set_cons_zero, List.set_cons_succ]
        refine take_at4 69 130 _ (v := undef) rfl rfl (by kernel_rfl) (by kernel_rfl) (by kernel_rfl) (fun _ _ _ h => h) (Or.inr ⟨by rfl, rfl⟩) (by assumption) ?_
        try simp only [Act.put, List.setIfInBounds_toArray, List.set_cons_zero, List.set_cons_succ]
        refine take_at4 70 131 _ (v := undef) rfl rfl (by kernel_rfl) (by kernel_rfl) (by kernel_rfl) (fun _ _ _ h => h) (Or.inr ⟨by rfl, rfl⟩) (by assumption) ?_
        try simp only [Act.put, List.setIfInBounds_toArray, List.set_cons_zero, List.set_cons_succ]
        refine take_at4 71 132 _ (v := undef) rfl rfl (by kernel_rfl) (by kernel_rfl) (by kernel_rfl) (fun _ _ _ h => h) (Or.inr ⟨by rfl, rfl⟩) (by assumption) ?_
        try simp only [Act.put, List.setIfInBounds_toArray, List.set_cons_zero, List.set_cons_succ]
        refine take_at4 72 133 _ (v := undef) rfl rfl (by kernel_rfl) (by kernel_rfl) (by kernel_rfl) (fun _ _ _ h => h) (Or.inr ⟨by rfl, rfl⟩) (by assumption) ?_
        try simp only [Act.put, List.setIfInBounds_toArray, List.set_cons_zero, List.set_cons_succ]
        refine take_at4 73 134 _ (v := ?v1073) rfl rfl (by kernel_rfl) (by kernel_rfl) (by kernel_rfl) (fun _ _ _ h => h) (Or.inl ⟨by rfl, ?hy1073⟩) (by assumption) ?rest1073
        case hy1073 =>
          intro wX hSw
          try dsimp only at hSw
          go_simp
          first
          | done
          | (with_reducible rfl)
        try simp only [Act.put, List.setIfInBounds_toArray, List.set_cons_zero, List.set_cons_succ]
        refine take_at4 74 135 _ (v := ?v1074) rfl rfl (by kernel_rfl) (by kernel_rfl) (by kernel_rfl) (fun _ _ _ h => h) (Or.inl ⟨by rfl, ?hy1074⟩) (by assumption) ?rest1074
        case hy1074 =>
          intro wX hSw
          try dsimp only at hSw
          go_simp
          first
          | done
          | (with_reducible rfl)
        try simp only [Act.put, List.setIfInBounds_toArray, List.set_cons_zero, List.set_cons_succ]
        refine wpAnyH_done (by kernel_rfl) ?_ _
        refine NoPanic.normal ?_
        go_wp2
        go_roundw
        case rel => exact ⟨i + 1, by omega, by go_num, Lib.hid HNX.out⟩
        case measure => simp [intOf]; omega
      · obtain ⟨p, hp⟩ : ∃ p, p + 1 = i := ⟨i - 1, by omega⟩
        have hip : (0 : Int) < (i : Int) := by omega
        have hipn : 0 < i := by omega
        have hd1 : decide ((0 : Int) < (i : Int)) = true := decide_eq_true hip
        have hd2 : decide (0 < i) = true := decide_eq_true hipn
        have hpi : (i : Int) - 1 = (p : Int) := by omega
        have hpw : IntKind.i64.wrap (p : Int) = (p : Int) := by rw [IntKind.wrap_i64]; omega
        have hpN : p < N := by omega
        have hpz : (p : Int) < (N : Int) := by omega
        obtain ⟨v, hv⟩ : ∃ v, M[p]? = some v := ⟨M[p]'(by rw [HN.out]; exact hpN), List.getElem?_eq_getElem _⟩
        have hup := HTH.out.up p _ v (by rw [hp]; exact HU.out) hv
        have hvq := (HTH.out.ka p v hv).1
        obtain ⟨g', o', e, _, p0, p1, p2⟩ := HM7.out.at hv
        injection e with e
        injection e with e1 e2
        subst e1 e2
        obtain ⟨vt, vq, va⟩ := v
        obtain rfl : vq = 0 := hvq
        have s0 := (hrd.out.oth gm (om' + p * 3) hgmL).trans p0
        have s2 := (hrd.out.oth gm (om' + p * 3 + 2) hgmL).trans p2
        unfold lt at hup
        have hut : ¬ ut < vt := fun h => hup (.inl h)
        by_cases he : ut = vt
        · subst he
          have hka : ¬ (k : Int) < va := fun h => hup (.inr ⟨rfl, .inr ⟨rfl, h⟩⟩)
          clear hup hv p0 p1 p2 hp hi0
          go_upto_region 13 with fail
          refine wp_region_noPanic ?_
          refine wp_region_held_drew (S := (fun X => X.cell? ⟨gm, om' + i * 3, none⟩ = some (.int .i64 ut) ∧ X.cell? ⟨gm, om' + i * 3 + 1, none⟩ = some (.int .i64 0) ∧ X.cell? ⟨gm, om' + i * 3 + 2, none⟩ = some (.int .i64 (k : Int)) ∧ X.cell? ⟨Lat, k, none⟩ = some (.int .i64 ck) ∧ X.cell? ⟨gl, k, none⟩ = some (.slice (some ⟨gk, ok, none⟩) nk cck) ∧ X.cell? ⟨gk, ok + ck * 3, none⟩ = some (.int .i64 ut) ∧ X.cell? ⟨gk, ok + ck * 3 + 1, none⟩ = some (.int .i64 0) ∧ X.cell? ⟨gk, ok + ck * 3 + 2, none⟩ = some (.int .i64 (k : Int)) ∧ X.cell? ⟨gm, om' + p * 3, none⟩ = some (.int .i64 ut) ∧ X.cell? ⟨gm, om' + p * 3 + 2, none⟩ = some (.int .i64 va))) (by kernel_rfl) ?_ (fun hHeld => ?_)
          · exact ⟨q0, q1, q2, t0, t1, y0, y1, y2, s0, s2⟩
          refine take_at4 0 61 _ (v := ?v200) rfl rfl (by kernel_rfl) (by kernel_rfl) (by kernel_rfl) (fun _ _ _ h => h) (Or.inl ⟨by rfl, ?hy200⟩) (by assumption) ?rest200
          case hy200 =>
            intro wX hSw
            try dsimp only at hSw
            go_simp
            first
            | done
            | (with_reducible rfl)
          try simp only [Act.put, List.setIfInBounds_toArray, List.set_cons_zero, List.set_cons_succ]
          refine take_at4 1 62 _ (v := ?v201) rfl rfl (by kernel_rfl) (by kernel_rfl) (by kernel_rfl) (fun _ _ _ h => h) (Or.inl ⟨by rfl, ?hy201⟩) (by assumption) ?rest201
          case hy201 =>
            intro wX hSw
            try dsimp only at hSw
            go_simp
            first
            | done
            | (with_reducible rfl)
          try simp only [Act.put, List.setIfInBounds_toArray, List.set_cons_zero, List.set_cons_succ]
          refine take_at4 2 63 _ (v := ?v202) rfl rfl (by kernel_rfl) (by kernel_rfl) (by kernel_rfl) (fun _ _ _ h => h) (Or.inl ⟨by rfl, ?hy202⟩) (by assumption) ?rest202
          case hy202 =>
            intro wX hSw
            try dsimp only at hSw
            go_simp
            first
            | done
            | (with_reducible rfl)
          try simp only [Act.put, List.setIfInBounds_toArray, List.set_cons_zero, List.set_cons_succ]
          refine take_at4 3 64 _ (v := ?v203) rfl rfl (by kernel_rfl) (by kernel_rfl) (by kernel_rfl) (fun _ _ _ h => h) (Or.inl ⟨by rfl, ?hy203⟩) (by assumption) ?rest203
          case hy203 =>
            intro wX hSw
            try dsimp only at hSw
            go_simp
            first
            | done
            | (with_reducible rfl)
          try simp only [Act.put, List.setIfInBounds_toArray, List.set_cons_zero, List.set_cons_succ]
          refine take_at4 4 65 _ (v := ?v204) rfl rfl (by kernel_rfl) (by kernel_rfl) (by kernel_rfl) (fun _ _ _ h => h) (Or.inl ⟨by rfl, ?hy204⟩) (by assumption) ?rest204
          case hy204 =>
            intro wX hSw
            try dsimp only at hSw
            go_simp
            first
            | done
            | (with_reducible rfl)
          try simp only [Act.put, List.setIfInBounds_toArray, List.set_cons_zero, List.set_cons_succ]
          refine take_at4 5 66 _ (v := ?v205) rfl rfl (by kernel_rfl) (by kernel_rfl) (by kernel_rfl) (fun _ _ _ h => h) (Or.inl ⟨by rfl, ?hy205⟩) (by assumption) ?rest205
          case hy205 =>
            intro wX hSw
            try dsimp only at hSw
            go_simp
            first
            | done
            | (with_reducible rfl)
          try simp only [Act.put, List.setIfInBounds_toArray, List.set_cons_zero, List.set_cons_succ]
          refine take_at4 6 67 _ (v := ?v206) rfl rfl (by kernel_rfl) (by kernel_rfl) (by kernel_rfl) (fun _ _ _ h => h) (Or.inl ⟨by rfl, ?hy206⟩) (by assumption) ?rest206
          case hy206 =>
            intro wX hSw
            try dsimp only at hSw
            go_simp
            first
            | done
            | (with_reducible rfl)
          try simp only [Act.put, List.setIfInBounds_toArray, List.set_cons_zero, List.set_cons_succ]
          refine take_at4 7 68 _ (v := ?v207) rfl rfl (by kernel_rfl) (by kernel_rfl) (by kernel_rfl) (fun _ _ _ h => h) (Or.inl ⟨by rfl, ?hy207⟩) (by assumption) ?rest207
          case hy207 =>
            intro wX hSw
            try dsimp only at hSw
            go_simp
            first
            | done
            | (with_reducible rfl)
          try simp only [Act.put, List.setIfInBounds_toArray, List.set_cons_zero, List.set_cons_succ]
          refine take_at4 8 69 _ (v := ?v208) rfl rfl (by kernel_rfl) (by kernel_rfl) (by kernel_rfl) (fun _ _ _ h => h) (Or.inl ⟨by rfl, ?hy208⟩) (by assumption) ?rest208
          case hy208 =>
            intro wX hSw
            try dsimp only at hSw
            go_simp
            first
            | done
            | (with_reducible rfl)
          try simp only [Act.put, List.setIfInBounds_toArray, List.set_cons_zero, List.set_cons_succ]
          refine take_at4 9 70 _ (v := ?v209) rfl rfl (by kernel_rfl) (by kernel_rfl) (by kernel_rfl) (fun _ _ _ h => h) (Or.inl ⟨by rfl, ?hy209⟩) (by assumption) ?rest209
          case hy209 =>
            intro wX hSw
            try dsimp only at hSw
            go_simp
            first
            | done
            | (with_reducible rfl)
          try simp only [Act.put, List.setIfInBounds_toArray, List.set_cons_zero, List.set_cons_succ]
          refine take_at4 10 71 _ (v := ?v2010) rfl rfl (by kernel_rfl) (by kernel_rfl) (by kernel_rfl) (fun _ _ _ h => h) (Or.inl ⟨by rfl, ?hy2010⟩) (by assumption) ?rest2010
          case hy2010 =>
            intro wX hSw
            try dsimp only at hSw
            go_simp
            first
            | done
            | (with_reducible rfl)
          try simp only [Act.put, List.setIfInBounds_toArray, List.set_cons_zero, List.set_cons_succ]
          refine take_at4 11 72 _ (v := ?v2011) rfl rfl (by kernel_rfl) (by kernel_rfl) (by kernel_rfl) (fun _ _ _ h => h) (Or.inl ⟨by rfl, ?hy2011⟩) (by assumption) ?rest2011
          case hy2011 =>
            intro wX hSw
            try dsimp only at hSw
            go_simp
            first
            | done
            | (with_reducible rfl)
          try simp only [Act.put, List.setIfInBounds_toArray, List.set_cons_zero, List.set_cons_succ]
          refine take_at4 12 73 _ (v := ?v2012) rfl rfl (by kernel_rfl) (by kernel_rfl) (by kernel_rfl) (fun _ _ _ h => h) (Or.inl ⟨by rfl, ?hy2012⟩) (by assumption) ?rest2012
          case hy2012 =>
            intro wX hSw
            try dsimp only at hSw
            go_simp
            first
            | done
            | (with_reducible rfl)
          try simp only [Act.put, List.setIfInBounds_toArray, List.set_cons_zero, List.set_cons_succ]
          refine take_at4 13 74 _ (v := ?v2013) rfl rfl (by kernel_rfl) (by kernel_rfl) (by kernel_rfl) (fun _ _ _ h => h) (Or.inl ⟨by rfl, ?hy2013⟩) (by assumption) ?rest2013
          case hy2013 =>
            intro wX hSw
            try dsimp only at hSw
            go_simp
            first
            | done
            | (with_reducible rfl)
          try simp only [Act.put, List.setIfInBounds_toArray, List.set_cons_zero, List.set_cons_succ]
          refine take_at4 14 75 _ (v := ?v2014) rfl rfl (by kernel_rfl) (by kernel_rfl) (by kernel_rfl) (fun _ _ _ h => h) (Or.inl ⟨by rfl, ?hy2014⟩) (by assumption) ?rest2014
          case hy2014 =>
            intro wX hSw
            try dsimp only at hSw
            go_simp
            first
            | done
            | (with_reducible rfl)
          try simp only [Act.put, List.setIfInBounds_toArray, List.set_cons_zero, List.set_cons_succ]
          refine take_at4 15 76 _ (v := ?v2015) rfl rfl (by kernel_rfl) (by kernel_rfl) (by kernel_rfl) (fun _ _ _ h => h) (Or.inl ⟨by rfl, ?hy2015⟩) (by assumption) ?rest2015
          case hy2015 =>
            intro wX hSw
            try dsimp only at hSw
            go_simp
            first
            | done
            | (with_reducible rfl)
          try simp only [Act.put, List.setIfInBounds_toArray, List.set_cons_zero, List.set_cons_succ]
          refine take_at4 16 77 _ (v := ?v2016) rfl rfl (by kernel_rfl) (by kernel_rfl) (by kernel_rfl) (fun _ _ _ h => h) (Or.inl ⟨by rfl, ?hy2016⟩) (by assumption) ?rest2016
          case hy2016 =>
            intro wX hSw
            try dsimp only at hSw
            go_simp
            first
            | done
            | (with_reducible rfl)
          try simp only [Act.put, List.setIfInBounds_toArray, List.set_cons_zero, List.set_cons_succ]
          refine take_at4 17 78 _ (v := ?v2017) rfl rfl (by kernel_rfl) (by kernel_rfl) (by kernel_rfl) (fun _ _ _ h => h) (Or.inl ⟨by rfl, ?hy2017⟩) (by assumption) ?rest2017
          case hy2017 =>
            intro wX hSw
            try dsimp only at hSw
            go_simp
            first
            | done
            | (with_reducible rfl)
          try simp only [Act.put, List.setIfInBounds_toArray, List.set_cons_zero, List.set_cons_succ]
          refine take_at4 18 79 _ (v := ?v2018) rfl rfl (by kernel_rfl) (by kernel_rfl) (by kernel_rfl) (fun _ _ _ h => h) (Or.inl ⟨by rfl, ?hy2018⟩) (by assumption) ?rest2018
          case hy2018 =>
            intro wX hSw
            try dsimp only at hSw
            go_simp
            first
            | done
            | (with_reducible rfl)
          try simp only [Act.put, List.setIfInBounds_toArray, List.set_cons_zero, List.set_cons_succ]
          refine take_at4 19 80 _ (v := ?v2019) rfl rfl (by kernel_rfl) (by kernel_rfl) (by kernel_rfl) (fun _ _ _ h => h) (Or.inl ⟨by rfl, ?hy2019⟩) (by assumption) ?rest2019
          case hy2019 =>
            intro wX hSw
            try dsimp only at hSw
            go_simp
            first
            | done
            | (with_reducible rfl)
          try simp only [Act.put, List.setIfInBounds_toArray, List.set_cons_zero, List.set_cons_succ]
          refine take_at4 20 81 _ (v := ?v2020) rfl rfl (by kernel_rfl) (by kernel_rfl) (by kernel_rfl) (fun _ _ _ h => h) (Or.inl ⟨by rfl, ?hy2020⟩) (by assumption) ?rest2020
          case hy2020 =>
            intro wX hSw
            try dsimp only at hSw
            go_simp
            first
            | done
            | (with_reducible rfl)
          try simp only [Act.put, List.setIfInBounds_toArray, List.set_cons_zero, List.set_cons_succ]
          refine take_at4 21 82 _ (v := ?v2021) rfl rfl (by kernel_rfl) (by kernel_rfl) (by kernel_rfl) (fun _ _ _ h => h) (Or.inl ⟨by rfl, ?hy2021⟩) (by assumption) ?rest2021
          case hy2021 =>
            intro wX hSw
            try dsimp only at hSw
            go_simp
            first
            | done
            | (with_reducible rfl)
          try simp only [Act.put, List.setIfInBounds_toArray, List.set_cons_zero, List.set_cons_succ]
          refine take_at4 22 83 _ (v := ?v2022) rfl rfl (by kernel_rfl) (by kernel_rfl) (by kernel_rfl) (fun _ _ _ h => h) (Or.inl ⟨by rfl, ?hy2022⟩) (by assumption) ?rest2022
          case hy2022 =>
            intro wX hSw
            try dsimp only at hSw
            go_simp
            first
            | done
            | (with_reducible rfl)
          try simp only [Act.put, List.setIfInBounds_toArray, List.set_cons_zero, List.set_cons_succ]
          refine take_at4 23 84 _ (v := ?v2023) rfl rfl (by kernel_rfl) (by kernel_rfl) (by kernel_rfl) (fun _ _ _ h => h) (Or.inl ⟨by rfl, ?hy2023⟩) (by assumption) ?rest2023
          case hy2023 =>
            intro wX hSw
            try dsimp only at hSw
            go_simp
            first
            | done
            | (with_reducible rfl)
          try simp only [Act.put, List.setIfInBounds_toArray, List.set_cons_zero, List.set_cons_succ]
          refine take_at4 24 85 _ (v := ?v2024) rfl rfl (by kernel_rfl) (by kernel_rfl) (by kernel_rfl) (fun _ _ _ h => h) (Or.inl ⟨by rfl, ?hy2024⟩) (by assumption) ?rest2024
          case hy2024 =>
            intro wX hSw
            try dsimp only at hSw
            go_simp
            first
            | done
            | (with_reducible rfl)
          try simp only [Act.put, List.setIfInBounds_toArray, List.set_cons_zero, List.set_cons_succ]
          refine take_at4 25 86 _ (v := ?v2025) rfl rfl (by kernel_rfl) (by kernel_rfl) (by kernel_rfl) (fun _ _ _ h => h) (Or.inl ⟨by rfl, ?hy2025⟩) (by assumption) ?rest2025
          case hy2025 =>
            intro wX hSw
            try dsimp only at hSw
            go_simp
            first
            | done
            | (with_reducible rfl)
          try simp only [Act.put, List.setIfInBounds_toArray, List.set_cons_zero, List.set_cons_succ]
          refine take_at4 26 87 _ (v := ?v2026) rfl rfl (by kernel_rfl) (by kernel_rfl) (by kernel_rfl) (fun _ _ _ h => h) (Or.inl ⟨by rfl, ?hy2026⟩) (by assumption) ?rest2026
          case hy2026 =>
            intro wX hSw
            try dsimp only at hSw
            go_simp
            first
            | done
            | (with_reducible rfl)
          try simp only [Act.put, List.setIfInBounds_toArray, List.set_cons_zero, List.set_cons_succ]
          refine take_at4 27 88 _ (v := ?v2027) rfl rfl (by kernel_rfl) (by kernel_rfl) (by kernel_rfl) (fun _ _ _ h => h) (Or.inl ⟨by rfl, ?hy2027⟩) (by assumption) ?rest2027
          case hy2027 =>
            intro wX hSw
            try dsimp only at hSw
            go_simp
            first
            | done
            | (with_reducible rfl)
          try simp only [Act.put, List.setIfInBounds_toArray, List.set_cons_zero, List.set_cons_succ]
          refine take_at4 28 89 _ (v := ?v2028) rfl rfl (by kernel_rfl) (by kernel_rfl) (by kernel_rfl) (fun _ _ _ h => h) (Or.inl ⟨by rfl, ?hy2028⟩) (by assumption) ?rest2028
          case hy2028 =>
            intro wX hSw
            try dsimp only at hSw
            go_simp
            first
            | done
            | (with_reducible rfl)
          try simp only [Act.put, List.setIfInBounds_toArray, List.set_cons_zero, List.set_cons_succ]
          refine take_at4 29 90 _ (v := ?v2029) rfl rfl (by kernel_rfl) (by kernel_rfl) (by kernel_rfl) (fun _ _ _ h => h) (Or.inl ⟨by rfl, ?hy2029⟩) (by assumption) ?rest2029
          case hy2029 =>
            intro wX hSw
            try dsimp only at hSw
            go_simp
            first
            | done
            | (with_reducible rfl)
          try simp only [Act.put, List.setIfInBounds_toArray, List.set_cons_zero, List.set_cons_succ]
          refine take_at4 30 91 _ (v := ?v2030) rfl rfl (by kernel_rfl) (by kernel_rfl) (by kernel_rfl) (fun _ _ _ h => h) (Or.inl ⟨by rfl, ?hy2030⟩) (by assumption) ?rest2030
          case hy2030 =>
            intro wX hSw
            try dsimp only at hSw
            go_simp
            first
            | done
            | (with_reducible rfl)
          try simp only [Act.put, List.setIfInBounds_toArray, List.set_cons_zero, List.set_cons_succ]
          refine take_at4 31 92 _ (v := ?v2031) rfl rfl (by kernel_rfl) (by kernel_rfl) (by kernel_rfl) (fun _ _ _ h => h) (Or.inl ⟨by rfl, ?hy2031⟩) (by assumption) ?rest2031
          case hy2031 =>
            intro wX hSw
            try dsimp only at hSw
            go_simp
            first
            | done
            | (with_reducible rfl)
          try simp only [Act.put, List.setIfInBounds_toArray, List.set_cons_zero, List.set_cons_succ]
          refine take_at4 32 93 _ (v := ?v2032) rfl rfl (by kernel_rfl) (by kernel_rfl) (by kernel_rfl) (fun _ _ _ h => h) (Or.inl ⟨by rfl, ?hy2032⟩) (by assumption) ?rest2032
          case hy2032 =>
            intro wX hSw
            try dsimp only at hSw
            go_simp
            first
            | done
            | (with_reducible rfl)
          try simp only [Act.put, List.setIfInBounds_toArray, List.set_cons_zero, List.set_cons_succ]
          refine take_at4 33 94 _ (v := ?v2033) rfl rfl (by kernel_rfl) (by kernel_rfl) (by kernel_rfl) (fun _ _ _ h => h) (Or.inl ⟨by rfl, ?hy2033⟩) (by assumption) ?rest2033
          case hy2033 =>
            intro wX hSw
            try dsimp only at hSw
            go_simp
            first
            | done
            | (with_reducible rfl)
          try simp only [Act.put, List.setIfInBounds_toArray, List.set_cons_zero, List.set_cons_succ]
          refine take_at4 34 95 _ (v := ?v2034) rfl rfl (by kernel_rfl) (by kernel_rfl) (by kernel_rfl) (fun _ _ _ h => h) (Or.inl ⟨by rfl, ?hy2034⟩) (by assumption) ?rest2034
          case hy2034 =>
            intro wX hSw
            try dsimp only at hSw
            go_simp
            first
            | done
            | (with_reducible rfl)
          try simp only [Act.put, List.setIfInBounds_toArray, List.set_cons_zero, List.set_cons_succ]
          refine take_at4 35 96 _ (v := ?v2035) rfl rfl (by kernel_rfl) (by kernel_rfl) (by kernel_rfl) (fun _ _ _ h => h) (Or.inl ⟨by rfl, ?hy2035⟩) (by assumption) ?rest2035
          case hy2035 =>
            intro wX hSw
            try dsimp only at hSw
            go_simp
            first
            | done
            | (with_reducible rfl)
          try simp only [Act.put, List.setIfInBounds_toArray, List.set_cons_zero, List.set_cons_succ]
          refine take_at4 36 97 _ (v := ?v2036) rfl rfl (by kernel_rfl) (by kernel_rfl) (by kernel_rfl) (fun _ _ _ h => h) (Or.inl ⟨by rfl, ?hy2036⟩) (by assumption) ?rest2036
          case hy2036 =>
            intro wX hSw
            try dsimp only at hSw
            go_simp
            first
            | done
            | (with_reducible rfl)
          try simp only [Act.put, List.setIfInBounds_toArray, List.set_cons_zero, List.set_cons_succ]
          refine take_at4 37 98 _ (v := ?v2037) rfl rfl (by kernel_rfl) (by kernel_rfl) (by kernel_rfl) (fun _ _ _ h => h) (Or.inl ⟨by rfl, ?hy2037⟩) (by assumption) ?rest2037
          case hy2037 =>
            intro wX hSw
            try dsimp only at hSw
            go_simp
            first
            | done
            | (with_reducible rfl)
          try simp only [Act.put, List.setIfInBounds_toArray, List.set_cons_zero, List.set_cons_succ]
          refine take_at4 38 99 _ (v := ?v2038) rfl rfl (by kernel_rfl) (by kernel_rfl) (by kernel_rfl) (fun _ _ _ h => h) (Or.inl ⟨by rfl, ?hy2038⟩) (by assumption) ?rest2038
          case hy2038 =>
            intro wX hSw
            try dsimp only at hSw
            go_simp
            first
            | done
            | (with_reducible rfl)
          try simp only [Act.put, List.setIfInBounds_toArray, List.set_cons_zero, List.set_cons_succ]
          refine take_at4 39 100 _ (v := ?v2039) rfl rfl (by kernel_rfl) (by kernel_rfl) (by kernel_rfl) (fun _ _ _ h => h) (Or.inl ⟨by rfl, ?hy2039⟩) (by assumption) ?rest2039
          case hy2039 =>
            intro wX hSw
            try dsimp only at hSw
            go_simp
            first
            | done
            | (with_reducible rfl)
          try simp only [Act.put, List.setIfInBounds_toArray, List.set_cons_zero, List.set_cons_succ]
          refine take_at4 40 101 _ (v := ?v2040) rfl rfl (by kernel_rfl) (by kernel_rfl) (by kernel_rfl) (fun _ _ _ h => h) (Or.inl ⟨by rfl, ?hy2040⟩) (by assumption) ?rest2040
          case hy2040 =>
            intro wX hSw
            try dsimp only at hSw
            go_simp
            first
            | done
            | (with_reducible rfl)
          try simp only [Act.put, List.setIfInBounds_toArray, List.set_cons_zero, List.set_cons_succ]
          refine take_at4 41 102 _ (v := ?v2041) rfl rfl (by kernel_rfl) (by kernel_rfl) (by kernel_rfl) (fun _ _ _ h => h) (Or.inl ⟨by rfl, ?hy2041⟩) (by assumption) ?rest2041
          case hy2041 =>
            intro wX hSw
            try dsimp only at hSw
            go_simp
            first
            | done
            | (with_reducible rfl)
          try simp only [Act.put, List.setIfInBounds_toArray, List.set_cons_zero, List.set_cons_succ]
          refine take_at4 42 103 _ (v := ?v2042) rfl rfl (by kernel_rfl) (by kernel_rfl) (by kernel_rfl) (fun _ _ _ h => h) (Or.inl ⟨by rfl, ?hy2042⟩) (by assumption) ?rest2042
          case hy2042 =>
            intro wX hSw
            try dsimp only at hSw
            go_simp
            first
            | done
            | (with_reducible rfl)
          try simp only [Act.put, List.setIfInBounds_toArray, List.set_cons_zero, List.set_cons_succ]
          refine take_at4 43 104 _ (v := ?v2043) rfl rfl (by kernel_rfl) (by kernel_rfl) (by kernel_rfl) (fun _ _ _ h => h) (Or.inl ⟨by rfl, ?hy2043⟩) (by assumption) ?rest2043
          case hy2043 =>
            intro wX hSw
            try dsimp only at hSw
            go_simp
            first
            | done
            | (with_reducible rfl)
          try simp only [Act.put, List.setIfInBounds_toArray, List.set_cons_zero, List.set_cons_succ]
          refine take_at4 44 105 _ (v := ?v2044) rfl rfl (by kernel_rfl) (by kernel_rfl) (by kernel_rfl) (fun _ _ _ h => h) (Or.inl ⟨by rfl, ?hy2044⟩) (by assumption) ?rest2044
          case hy2044 =>
            intro wX hSw
            try dsimp only at hSw
            go_simp
            first
            | done
            | (with_reducible rfl)
          try simp only [Act.put, List.setIfInBounds_toArray, List.set_cons_zero, List.set_cons_succ]
          refine take_at4 45 106 _ (v := ?v2045) rfl rfl (by kernel_rfl) (by kernel_rfl) (by kernel_rfl) (fun _ _ _ h => h) (Or.inl ⟨by rfl, ?hy2045⟩) (by assumption) ?rest2045
          case hy2045 =>
            intro wX hSw
            try dsimp only at hSw
            go_simp
            first
            | done
            | (with_reducible rfl)
          try simp only [Act.put, List.setIfInBounds_toArray, List.set_cons_zero, List.set_cons_succ]
          refine take_at4 46 107 _ (v := ?v2046) rfl rfl (by kernel_rfl) (by kernel_rfl) (by kernel_rfl) (fun _ _ _ h => h) (Or.inl ⟨by rfl, ?hy2046⟩) (by assumption) ?rest2046
          case hy2046 =>
            intro wX hSw
            try dsimp only at hSw
            go_simp
            first
            | done
            | (with_reducible rfl)
          try simp only [Act.put, List.setIfInBounds_toArray, List.set_cons_zero, List.set_cons_succ]
          refine take_at4 47 108 _ (v := ?v2047) rfl rfl (by kernel_rfl) (by kernel_rfl) (by kernel_rfl) (fun _ _ _ h => h) (Or.inl ⟨by rfl, ?hy2047⟩) (by assumption) ?rest2047
          case hy2047 =>
            intro wX hSw
            try dsimp only at hSw
            go_simp
            first
            | done
            | (with_reducible rfl)
          try simp only [Act.put, List.setIfInBounds_toArray, List.set_cons_zero, List.set_cons_succ]
          refine take_at4 48 109 _ (v := ?v2048) rfl rfl (by kernel_rfl) (by kernel_rfl) (by kernel_rfl) (fun _ _ _ h => h) (Or.inl ⟨by rfl, ?hy2048⟩) (by assumption) ?rest2048
          case hy2048 =>
            intro wX hSw
            try dsimp only at hSw
            go_simp
            first
            | done
            | (with_reducible rfl)
          try simp only [Act.put, List.setIfInBounds_toArray, List.set_cons_zero, List.set_cons_succ]
          refine take_at4 49 110 _ (v := ?v2049) rfl rfl (by kernel_rfl) (by kernel_rfl) (by kernel_rfl) (fun _ _ _ h => h) (Or.inl ⟨by rfl, ?hy2049⟩) (by assumption) ?rest2049
          case hy2049 =>
            intro wX hSw
            try dsimp only at hSw
            go_simp
            first
            | done
            | (with_reducible rfl)
          try simp only [Act.put, List.setIfInBounds_toArray, List.set_cons_zero, List.set_cons_succ]
          refine take_at4 50 111 _ (v := ?v2050) rfl rfl (by kernel_rfl) (by kernel_rfl) (by kernel_rfl) (fun _ _ _ h => h) (Or.inl ⟨by rfl, ?hy2050⟩) (by assumption) ?rest2050
          case hy2050 =>
            intro wX hSw
            try dsimp only at hSw
            go_simp
            first
            | done
            | (with_reducible rfl)
          try simp only [Act.put, List.setIfInBounds_toArray, List.set_cons_zero, List.set_cons_succ]
          refine take_at4 51 112 _ (v := ?v2051) rfl rfl (by kernel_rfl) (by kernel_rfl) (by kernel_rfl) (fun _ _ _ h => h) (Or.inl ⟨by rfl, ?hy2051⟩) (by assumption) ?rest2051
          case hy2051 =>
            intro wX hSw
            try dsimp only at hSw
            go_simp
            first
            | done
            | (with_reducible rfl)
          try simp only [Act.put, List.setIfInBounds_toArray, List.set_cons_zero, List.set_cons_succ]
          refine take_at4 52 113 _ (v := ?v2052) rfl rfl (by kernel_rfl) (by kernel_rfl) (by kernel_rfl) (fun _ _ _ h => h) (Or.inl ⟨by rfl, ?hy2052⟩) (by assumption) ?rest2052
          case hy2052 =>
            intro wX hSw
            try dsimp only at hSw
            go_simp
            first
            | done
            | (with_reducible rfl)
          try simp only [Act.put, List.setIfInBounds_toArray, List.set_cons_zero, List.set_cons_succ]
          refine take_at4 53 114 _ (v := ?v2053) rfl rfl (by kernel_rfl) (by kernel_rfl) (by kernel_rfl) (fun _ _ _ h => h) (Or.inl ⟨by rfl, ?hy2053⟩) (by assumption) ?rest2053
          case hy2053 =>
            intro wX hSw
            try dsimp only at hSw
            go_simp
            first
            | done
            | (with_reducible rfl)
          try simp only [Act.put, List.setIfInBounds_toArray, List.set_cons_zero, List.set_cons_succ]
          refine take_at4 54 115 _ (v := ?v2054) rfl rfl (by kernel_rfl) (by kernel_rfl) (by kernel_rfl) (fun _ _ _ h => h) (Or.inl ⟨by rfl, ?hy2054⟩) (by assumption) ?rest2054
          case hy2054 =>
            intro wX hSw
            try dsimp only at hSw
            go_simp
            first
            | done
            | (with_reducible rfl)
          try simp only [Act.put, List.setIfInBounds_toArray, List.set_cons_zero, List.set_cons_succ]
          refine take_at4 55 116 _ (v := ?v2055) rfl rfl (by kernel_rfl) (by kernel_rfl) (by kernel_rfl) (fun _ _ _ h => h) (Or.inl ⟨by rfl, ?hy2055⟩) (by assumption) ?rest2055
          case hy2055 =>
            intro wX hSw
            try dsimp only at hSw
            go_simp
            first
            | done
            | (with_reducible rfl)
          try simp only [Act.put, List.setIfInBounds_toArray, List.set_cons_zero, List.set_cons_succ]
          refine take_at4 56 117 _ (v := ?v2056) rfl rfl (by kernel_rfl) (by kernel_rfl) (by kernel_rfl) (fun _ _ _ h => h) (Or.inl ⟨by rfl, ?hy2056⟩) (by assumption) ?rest2056
          case hy2056 =>
            intro wX hSw
            try dsimp only at hSw
            go_simp
            first
            | done
            | (with_reducible rfl)
          try simp only [Act.put, List.setIfInBounds_toArray, List.set_cons_zero, List.set_cons_succ]
          refine take_at4 57 118 _ (v := ?v2057) rfl rfl (by kernel_rfl) (by kernel_rfl) (by kernel_rfl) (fun _ _ _ h => h) (Or.inl ⟨by rfl, ?hy2057⟩) (by assumption) ?rest2057
          case hy2057 =>
            intro wX hSw
            try dsimp only at hSw
            go_simp
            first
            | done
            | (with_reducible rfl)
          try simp only [Act.put, List.setIfInBounds_toArray, List.set_cons_zero, List.set_cons_succ]
          refine take_at4 58 119 _ (v := ?v2058) rfl rfl (by kernel_rfl) (by kernel_rfl) (by kernel_rfl) (fun _ _ _ h => h) (Or.inl ⟨by rfl, ?hy2058⟩) (by assumption) ?rest2058
          case hy2058 =>
            intro wX hSw
            try dsimp only at hSw
            go_simp
            first
            | done
            | (with_reducible rfl)
          try simp only [Act.put, List.setIfInBounds_toArray, List.set_cons_zero, List.set_cons_succ]
          refine take_at4 59 120 _ (v := ?v2059) rfl rfl (by kernel_rfl) (by kernel_rfl) (by kernel_rfl) (fun _ _ _ h => h) (Or.inl ⟨by rfl, ?hy2059⟩) (by assumption) ?rest2059
          case hy2059 =>
            intro wX hSw
            try dsimp only at hSw
            go_simp
            first
            | done
            | (with_reducible rfl)
          try simp only [Act.put, List.setIfInBounds_toArray, List.set_cons_zero, List.set_cons_succ]
          refine take_at4 60 121 _ (v := ?v2060) rfl rfl (by kernel_rfl) (by kernel_rfl) (by kernel_rfl) (fun _ _ _ h => h) (Or.inl ⟨by rfl, ?hy2060⟩) (by assumption) ?rest2060
          case hy2060 =>
            intro wX hSw
            try dsimp only at hSw
            go_simp
            first
            | done
            | (with_reducible rfl)
          try simp only [Act.put, List.setIfInBounds_toArray, List.set_cons_zero, List.set_cons_succ]
          refine take_at4 61 122 _ (v := ?v2061) rfl rfl (by kernel_rfl) (by kernel_rfl) (by kernel_rfl) (fun _ _ _ h => h) (Or.inl ⟨by rfl, ?hy2061⟩) (by assumption) ?rest2061
          case hy2061 =>
            intro wX hSw
            try dsimp only at hSw
            go_simp
            first
            | done
            | (with_reducible rfl)
          try simp only [Act.put, List.setIfInBounds_toArray, List.set_cons_zero, List.set_cons_succ]
          refine take_at4 62 123 _ (v := ?v2062) rfl rfl (by kernel_rfl) (by kernel_rfl) (by kernel_rfl) (fun _ _ _ h => h) (Or.inl ⟨by rfl, ?hy2062⟩) (by assumption) ?rest2062
          case hy2062 =>
            intro wX hSw
            try dsimp only at hSw
            go_simp
            first
            | done
            | (with_reducible rfl)
          try simp only [Act.put, List.setIfInBounds_toArray, List.set_cons_zero, List.set_cons_succ]
          refine take_at4 63 124 _ (v := ?v2063) rfl rfl (by kernel_rfl) (by kernel_rfl) (by kernel_rfl) (fun _ _ _ h => h) (Or.inl ⟨by rfl, ?hy2063⟩) (by assumption) ?rest2063
          case hy2063 =>
            intro wX hSw
            try dsimp only at hSw
            go_simp
            first
            | done
            | (with_reducible rfl)
          try simp only [Act.put, List.setIfInBounds_toArray, List.set_cons_zero, List.set_cons_succ]
          refine take_at4 64 125 _ (v := ?v2064) rfl rfl (by kernel_rfl) (by kernel_rfl) (by kernel_rfl) (fun _ _ _ h => h) (Or.inl ⟨by rfl, ?hy2064⟩) (by assumption) ?rest2064
          case hy2064 =>
            intro wX hSw
            try dsimp only at hSw
            go_simp
            first
            | done
            | (with_reducible rfl)
          try simp only [Act.put, List.setIfInBounds_toArray, List.set_cons_zero, List.set_cons_succ]
          refine take_at4 65 126 _ (v := ?v2065) rfl rfl (by kernel_rfl) (by kernel_rfl) (by kernel_rfl) (fun _ _ _ h => h) (Or.inl ⟨by rfl, ?hy2065⟩) (by assumption) ?rest2065
          case hy2065 =>
            intro wX hSw
            try dsimp only at hSw
            go_simp
            first
            | done
            | (with_reducible rfl)
          try simp only [Act.put, List.setIfInBounds_toArray, List.set_cons_zero, List.set_cons_succ]
          refine take_at4 66 127 _ (v := ?v2066) rfl rfl (by kernel_rfl) (by kernel_rfl) (by kernel_rfl) (fun _ _ _ h => h) (Or.inl ⟨by rfl, ?hy2066⟩) (by assumption) ?rest2066
          case hy2066 =>
            intro wX hSw
            try dsimp only at hSw
            go_simp
            first
            | done
            | (with_reducible rfl)
          try simp only [Act.put, List.setIfInBounds_toArray, List.set_cons_zero, List.set_cons_succ]
          refine take_at4 67 128 _ (v := ?v2067) rfl rfl (by kernel_rfl) (by kernel_rfl) (by kernel_rfl) (fun _ _ _ h => h) (Or.inl ⟨by rfl, ?hy2067⟩) (by assumption) ?rest2067
          case hy2067 =>
            intro wX hSw
            try dsimp only at hSw
            go_simp
            first
            | done
            | (with_reducible rfl)
          try simp only [Act.put, List.setIfInBounds_toArray, List.set_cons_zero, List.set_cons_succ]
          refine take_at4 68 129 _ (v := ?v2068) rfl rfl (by kernel_rfl) (by kernel_rfl) (by kernel_rfl) (fun _ _ _ h => h) (Or.inl ⟨by rfl, ?hy2068⟩) (by assumption) ?rest2068
          case hy2068 =>
            intro wX hSw
            try dsimp only at hSw
            go_simp
            first
            | done
            | (with_reducible rfl)
          try simp only [Act.put, List.setIfInBounds_toArray, List.set_cons_zero, List.set_cons_succ]
          refine take_at4 69 130 _ (v := ?v2069) rfl rfl (by kernel_rfl) (by kernel_rfl) (by kernel_rfl) (fun _ _ _ h => h) (Or.inl ⟨by rfl, ?hy2069⟩) (by assumption) ?rest2069
          case hy2069 =>
            intro wX hSw
            try dsimp only at hSw
            go_simp
            first
            | done
            | (with_reducible rfl)
          try simp only [Act.put, List.setIfInBounds_toArray, List.set_cons_zero, List.set_cons_succ]
          refine take_at4 70 131 _ (v := ?v2070) rfl rfl (by kernel_rfl) (by kernel_rfl) (by kernel_rfl) (fun _ _ _ h => h) (Or.inl ⟨by rfl, ?hy2070⟩) (by assumption) ?rest2070
          case hy2070 =>
            intro wX hSw
            try dsimp only at hSw
            go_simp
            first
            | done
            | (with_reducible rfl)
          try simp only [Act.put, List.setIfInBounds_toArray, List.set_cons_zero, List.set_cons_succ]
          refine take_at4 71 132 _ (v := ?v2071) rfl rfl (by kernel_rfl) (by kernel_rfl) (by kernel_rfl) (fun _ _ _ h => h) (Or.inl ⟨by rfl, ?hy2071⟩) (by assumption) ?rest2071
          case hy2071 =>
            intro wX hSw
            try dsimp only at hSw
            go_simp
            first
            | done
            | (with_reducible rfl)
          try simp only [Act.put, List.setIfInBounds_toArray, List.set_cons_zero, List.set_cons_succ]
          refine take_at4 72 133 _ (v := ?v2072) rfl rfl (by kernel_rfl) (by kernel_rfl) (by kernel_rfl) (fun _ _ _ h => h) (Or.inl ⟨by rfl, ?hy2072⟩) (by assumption) ?rest2072
          case hy2072 =>
            intro wX hSw
            try dsimp only at hSw
            go_simp
            first
            | done
            | (with_reducible rfl)
          try simp only [Act.put, List.setIfInBounds_toArray, List.set_cons_zero, List.set_cons_succ]
          refine take_at4 73 134 _ (v := ?v2073) rfl rfl (by kernel_rfl) (by kernel_rfl) (by kernel_rfl) (fun _ _ _ h => h) (Or.inl ⟨by rfl, ?hy2073⟩) (by assumption) ?rest2073
          case hy2073 =>
            intro wX hSw
            try dsimp only at hSw
            go_simp
            first
            | done
            | (with_reducible rfl)
          try simp only [Act.put, List.setIfInBounds_toArray, List.set_cons_zero, List.set_cons_succ]
          refine take_at4 74 135 _ (v := ?v2074) rfl rfl (by kernel_rfl) (by kernel_rfl) (by kernel_rfl) (fun _ _ _ h => h) (Or.inl ⟨by rfl, ?hy2074⟩) (by assumption) ?rest2074
          case hy2074 =>
            intro wX hSw
            try dsimp only at hSw
            go_simp
            first
            | done
            | (with_reducible rfl)
          try simp only [Act.put, List.setIfInBounds_toArray, List.set_cons_zero, List.set_cons_succ]
          refine wpAnyH_done (by kernel_rfl) ?_ _
          refine NoPanic.normal ?_
          go_wp2
          go_roundw
          case rel => exact ⟨i + 1, by omega, by go_num, Lib.hid HNX.out⟩
          case measure => simp [intOf]; omega
        · have hne : (ut == vt) = false := by simpa using he
          clear hup hv p0 p1 p2 hp hi0 he
          go_upto_region 13 with fail
          refine wp_region_noPanic ?_
          refine wp_region_held_drew (S := (fun X => X.cell? ⟨gm, om' + i * 3, none⟩ = some (.int .i64 ut) ∧ X.cell? ⟨gm, om' + i * 3 + 1, none⟩ = some (.int .i64 0) ∧ X.cell? ⟨gm, om' + i * 3 + 2, none⟩ = some (.int .i64 (k : Int)) ∧ X.cell? ⟨Lat, k, none⟩ = some (.int .i64 ck) ∧ X.cell? ⟨gl, k, none⟩ = some (.slice (some ⟨gk, ok, none⟩) nk cck) ∧ X.cell? ⟨gk, ok + ck * 3, none⟩ = some (.int .i64 ut) ∧ X.cell? ⟨gk, ok + ck * 3 + 1, none⟩ = some (.int .i64 0) ∧ X.cell? ⟨gk, ok + ck * 3 + 2, none⟩ = some (.int .i64 (k : Int)) ∧ X.cell? ⟨gm, om' + p * 3, none⟩ = some (.int .i64 vt) ∧ X.cell? ⟨gm, om' + p * 3 + 2, none⟩ = some (.int .i64 va))) (by kernel_rfl) ?_ (fun hHeld => ?_)
          · exact ⟨q0, q1, q2, t0, t1, y0, y1, y2, s0, s2⟩
          refine take_at4 0 61 _ (v := ?v300) rfl rfl (by kernel_rfl) (by kernel_rfl) (by kernel_rfl) (fun _ _ _ h => h) (Or.inl ⟨by rfl, ?hy300⟩) (by assumption) ?rest300
          case hy300 =>
            intro wX hSw
            try dsimp only at hSw
            go_simp
            first
            | done
            | (with_reducible rfl)
          try simp only [Act.put, List.setIfInBounds_toArray, List.set_cons_zero, List.set_cons_succ]
          refine take_at4 1 62 _ (v := ?v301) rfl rfl (by kernel_rfl) (by kernel_rfl) (by kernel_rfl) (fun _ _ _ h => h) (Or.inl ⟨by rfl, ?hy301⟩) (by assumption) ?rest301
          case hy301 =>
            intro wX hSw
            try dsimp only at hSw
            go_simp
            first
            | done
            | (with_reducible rfl)
          try simp only [Act.put, List.setIfInBounds_toArray, List.set_cons_zero, List.set_cons_succ]
          refine take_at4 2 63 _ (v := ?v302) rfl rfl (by kernel_rfl) (by kernel_rfl) (by kernel_rfl) (fun _ _ _ h => h) (Or.inl ⟨by rfl, ?hy302⟩) (by assumption) ?rest302
          case hy302 =>
            intro wX hSw
            try dsimp only at hSw
            go_simp
            first
            | done
            | (with_reducible rfl)
          try simp only [Act.put, List.setIfInBounds_toArray, List.set_cons_zero, List.set_cons_succ]
          refine take_at4 3 64 _ (v := ?v303) rfl rfl (by kernel_rfl) (by kernel_rfl) (by kernel_rfl) (fun _ _ _ h => h) (Or.inl ⟨by rfl, ?hy303⟩) (by assumption) ?rest303
          case hy303 =>
            intro wX hSw
            try dsimp only at hSw
            go_simp
            first
            | done
            | (with_reducible rfl)
          try simp only [Act.put, List.setIfInBounds_toArray, List.set_cons_zero, List.set_cons_succ]
          refine take_at4 4 65 _ (v := ?v304) rfl rfl (by kernel_rfl) (by kernel_rfl) (by kernel_rfl) (fun _ _ _ h => h) (Or.inl ⟨by rfl, ?hy304⟩) (by assumption) ?rest304
          case hy304 =>
            intro wX hSw
            try dsimp only at hSw
            go_simp
            first
            | done
            | (with_reducible rfl)
          try simp only [Act.put, List.setIfInBounds_toArray, List.set_cons_zero, List.set_cons_succ]
          refine take_at4 5 66 _ (v := ?v305) rfl rfl (by kernel_rfl) (by kernel_rfl) (by kernel_rfl) (fun _ _ _ h => h) (Or.inl ⟨by rfl, ?hy305⟩) (by assumption) ?rest305
          case hy305 =>
            intro wX hSw
            try dsimp only at hSw
            go_simp
            first
            | done
            | (with_reducible rfl)
          try simp only [Act.put, List.setIfInBounds_toArray, List.set_cons_zero, List.set_cons_succ]
          refine take_at4 6 67 _ (v := ?v306) rfl rfl (by kernel_rfl) (by kernel_rfl) (by kernel_rfl) (fun _ _ _ h => h) (Or.inl ⟨by rfl, ?hy306⟩) (by assumption) ?rest306
          case hy306 =>
            intro wX hSw
            try dsimp only at hSw
            go_simp
            first
            | done
            | (with_reducible rfl)
          try simp only [Act.put, List.setIfInBounds_toArray, List.set_cons_zero, List.set_cons_succ]
          refine take_at4 7 68 _ (v := ?v307) rfl rfl (by kernel_rfl) (by kernel_rfl) (by kernel_rfl) (fun _ _ _ h => h) (Or.inl ⟨by rfl, ?hy307⟩) (by assumption) ?rest307
          case hy307 =>
            intro wX hSw
            try dsimp only at hSw
            go_simp
            first
            | done
            | (with_reducible rfl)
          try simp only [Act.put, List.setIfInBounds_toArray, List.set_cons_zero, List.set_cons_succ]
          refine take_at4 8 69 _ (v := ?v308) rfl rfl (by kernel_rfl) (by kernel_rfl) (by kernel_rfl) (fun _ _ _ h => h) (Or.inl ⟨by rfl, ?hy308⟩) (by assumption) ?rest308
          case hy308 =>
            intro wX hSw
            try dsimp only at hSw
            go_simp
            first
            | done
            | (with_reducible rfl)
          try simp only [Act.put, List.setIfInBounds_toArray, List.set_cons_zero, List.set_cons_succ]
          refine take_at4 9 70 _ (v := ?v309) rfl rfl (by kernel_rfl) (by kernel_rfl) (by kernel_rfl) (fun _ _ _ h => h) (Or.inl ⟨by rfl, ?hy309⟩) (by assumption) ?rest309
          case hy309 =>
            intro wX hSw
            try dsimp only at hSw
            go_simp
            first
            | done
            | (with_reducible rfl)
          try simp only [Act.put, List.setIfInBounds_toArray, List.set_cons_zero, List.set_cons_succ]
          refine take_at4 10 71 _ (v := ?v3010) rfl rfl (by kernel_rfl) (by kernel_rfl) (by kernel_rfl) (fun _ _ _ h => h) (Or.inl ⟨by rfl, ?hy3010⟩) (by assumption) ?rest3010
          case hy3010 =>
            intro wX hSw
            try dsimp only at hSw
            go_simp
            first
            | done
            | (with_reducible rfl)
          try simp only [Act.put, List.setIfInBounds_toArray, List.set_cons_zero, List.set_cons_succ]
          refine take_at4 11 72 _ (v := ?v3011) rfl rfl (by kernel_rfl) (by kernel_rfl) (by kernel_rfl) (fun _ _ _ h => h) (Or.inl ⟨by rfl, ?hy3011⟩) (by assumption) ?rest3011
          case hy3011 =>
            intro wX hSw
            try dsimp only at hSw
            go_simp
            first
            | done
            | (with_reducible rfl)
          try simp only [Act.put, List.setIfInBounds_toArray, List.set_cons_zero, List.set_cons_succ]
          refine take_at4 12 73 _ (v := ?v3012) rfl rfl (by kernel_rfl) (by kernel_rfl) (by kernel_rfl) (fun _ _ _ h => h) (Or.inl ⟨by rfl, ?hy3012⟩) (by assumption) ?rest3012
          case hy3012 =>
            intro wX hSw
            try dsimp only at hSw
            go_simp
            first
            | done
            | (with_reducible rfl)
          try simp only [Act.put, List.setIfInBounds_toArray, List.set_cons_zero, List.set_cons_succ]
          refine take_at4 13 74 _ (v := ?v3013) rfl rfl (by kernel_rfl) (by kernel_rfl) (by kernel_rfl) (fun _ _ _ h => h) (Or.inl ⟨by rfl, ?hy3013⟩) (by assumption) ?rest3013
          case hy3013 =>
            intro wX hSw
            try dsimp only at hSw
            go_simp
            first
            | done
            | (with_reducible rfl)
          try simp only [Act.put, List.setIfInBounds_toArray, List.set_cons_zero, List.set_cons_succ]
          refine take_at4 14 75 _ (v := ?v3014) rfl rfl (by kernel_rfl) (by kernel_rfl) (by kernel_rfl) (fun _ _ _ h => h) (Or.inl ⟨by rfl, ?hy3014⟩) (by assumption) ?rest3014
          case hy3014 =>
            intro wX hSw
            try dsimp only at hSw
            go_simp
            first
            | done
            | (with_reducible rfl)
          try simp only [Act.put, List.setIfInBounds_toArray, List.set_cons_zero, List.set_cons_succ]
          refine take_at4 15 76 _ (v := ?v3015) rfl rfl (by kernel_rfl) (by kernel_rfl) (by kernel_rfl) (fun _ _ _ h => h) (Or.inl ⟨by rfl, ?hy3015⟩) (by assumption) ?rest3015
          case hy3015 =>
            intro wX hSw
            try dsimp only at hSw
            go_simp
            first
            | done
            | (with_reducible rfl)
          try simp only [Act.put, List.setIfInBounds_toArray, List.set_cons_zero, List.set_cons_succ]
          refine take_at4 16 77 _ (v := ?v3016) rfl rfl (by kernel_rfl) (by kernel_rfl) (by kernel_rfl) (fun _ _ _ h => h) (Or.inl ⟨by rfl, ?hy3016⟩) (by assumption) ?rest3016
          case hy3016 =>
            intro wX hSw
            try dsimp only at hSw
            go_simp
            first
            | done
            | (with_reducible rfl)
          try simp only [Act.put, List.setIfInBounds_toArray, List.set_cons_zero, List.set_cons_succ]
          refine take_at4 17 78 _ (v := ?v3017) rfl rfl (by kernel_rfl) (by kernel_rfl) (by kernel_rfl) (fun _ _ _ h => h) (Or.inl ⟨by rfl, ?hy3017⟩) (by assumption) ?rest3017
          case hy3017 =>
            intro wX hSw
            try dsimp only at hSw
            go_simp
            first
            | done
            | (with_reducible rfl)
          try simp only [Act.put, List.setIfInBounds_toArray, List.set_cons_zero, List.set_cons_succ]
          refine take_at4 18 79 _ (v := ?v3018) rfl rfl (by kernel_rfl) (by kernel_rfl) (by kernel_rfl) (fun _ _ _ h => h) (Or.inl ⟨by rfl, ?hy3018⟩) (by assumption) ?rest3018
          case hy3018 =>
            intro wX hSw
            try dsimp only at hSw
            go_simp
            first
            | done
            | (with_reducible rfl)
          try simp only [Act.put, List.setIfInBounds_toArray, List.set_cons_zero, List.set_cons_succ]
          refine take_at4 19 80 _ (v := ?v3019) rfl rfl (by kernel_rfl) (by kernel_rfl) (by kernel_rfl) (fun _ _ _ h => h) (Or.inl ⟨by rfl, ?hy3019⟩) (by assumption) ?rest3019
          case hy3019 =>
            intro wX hSw
            try dsimp only at hSw
            go_simp
            first
            | done
            | (with_reducible rfl)
          try simp only [Act.put, List.setIfInBounds_toArray, List.set_cons_zero, List.set_cons_succ]
          refine take_at4 20 81 _ (v := ?v3020) rfl rfl (by kernel_rfl) (by kernel_rfl) (by kernel_rfl) (fun _ _ _ h => h) (Or.inl ⟨by rfl, ?hy3020⟩) (by assumption) ?rest3020
          case hy3020 =>
            intro wX hSw
            try dsimp only at hSw
            go_simp
            first
            | done
            | (with_reducible rfl)
          try simp only [Act.put, List.setIfInBounds_toArray, List.set_cons_zero, List.set_cons_succ]
          refine take_at4 21 82 _ (v := ?v3021) rfl rfl (by kernel_rfl) (by kernel_rfl) (by kernel_rfl) (fun _ _ _ h => h) (Or.inl ⟨by rfl, ?hy3021⟩) (by assumption) ?rest3021
          case hy3021 =>
            intro wX hSw
            try dsimp only at hSw
            go_simp
            first
            | done
            | (with_reducible rfl)
          try simp only [Act.put, List.setIfInBounds_toArray, List.set_cons_zero, List.set_cons_succ]
          refine take_at4 22 83 _ (v := ?v3022) rfl rfl (by kernel_rfl) (by kernel_rfl) (by kernel_rfl) (fun _ _ _ h => h) (Or.inl ⟨by rfl, ?hy3022⟩) (by assumption) ?rest3022
          case hy3022 =>
            intro wX hSw
            try dsimp only at hSw
            go_simp
            first
            | done
            | (with_reducible rfl)
          try simp only [Act.put, List.setIfInBounds_toArray, List.set_cons_zero, List.set_cons_succ]
          refine take_at4 23 84 _ (v := ?v3023) rfl rfl (by kernel_rfl) (by kernel_rfl) (by kernel_rfl) (fun _ _ _ h => h) (Or.inl ⟨by rfl, ?hy3023⟩) (by assumption) ?rest3023
          case hy3023 =>
            intro wX hSw
            try dsimp only at hSw
            go_simp
            first
            | done
            | (with_reducible rfl)
          try simp only [Act.put, List.setIfInBounds_toArray, List.set_cons_zero, List.set_cons_succ]
          refine take_at4 24 85 _ (v := ?v3024) rfl rfl (by kernel_rfl) (by kernel_rfl) (by kernel_rfl) (fun _ _ _ h => h) (Or.inl ⟨by rfl, ?hy3024⟩) (by assumption) ?rest3024
          case hy3024 =>
            intro wX hSw
            try dsimp only at hSw
            go_simp
            first
            | done
            | (with_reducible rfl)
          try simp only [Act.put, List.setIfInBounds_toArray, List.set_cons_zero, List.set_cons_succ]
          refine take_at4 25 86 _ (v := ?v3025) rfl rfl (by kernel_rfl) (by kernel_rfl) (by kernel_rfl) (fun _ _ _ h => h) (Or.inl ⟨by rfl, ?hy3025⟩) (by assumption) ?rest3025
          case hy3025 =>
            intro wX hSw
            try dsimp only at hSw
            go_simp
            first
            | done
            | (with_reducible rfl)
          try simp only [Act.put, List.setIfInBounds_toArray, List.set_cons_zero, List.set_cons_succ]
          refine take_at4 26 87 _ (v := ?v3026) rfl rfl (by kernel_rfl) (by kernel_rfl) (by kernel_rfl) (fun _ _ _ h => h) (Or.inl ⟨by rfl, ?hy3026⟩) (by assumption) ?rest3026
          case hy3026 =>
            intro wX hSw
            try dsimp only at hSw
            go_simp
            first
            | done
            | (with_reducible rfl)
          try simp only [Act.put, List.setIfInBounds_toArray, List.set_cons_zero, List.set_cons_succ]
          refine take_at4 27 88 _ (v := ?v3027) rfl rfl (by kernel_rfl) (by kernel_rfl) (by kernel_rfl) (fun _ _ _ h => h) (Or.inl ⟨by rfl, ?hy3027⟩) (by assumption) ?rest3027
          case hy3027 =>
            intro wX hSw
            try dsimp only at hSw
            go_simp
            first
            | done
            | (with_reducible rfl)
          try simp only [Act.put, List.setIfInBounds_toArray, List.set_cons_zero, List.set_cons_succ]
          refine take_at4 28 89 _ (v := ?v3028) rfl rfl (by kernel_rfl) (by kernel_rfl) (by kernel_rfl) (fun _ _ _ h => h) (Or.inl ⟨by rfl, ?hy3028⟩) (by assumption) ?rest3028
          case hy3028 =>
            intro wX hSw
            try dsimp only at hSw
            go_simp
            first
            | done
            | (with_reducible rfl)
          try simp only [Act.put, List.setIfInBounds_toArray, List.set_cons_zero, List.set_cons_succ]
          refine take_at4 29 90 _ (v := ?v3029) rfl rfl (by kernel_rfl) (by kernel_rfl) (by kernel_rfl) (fun _ _ _ h => h) (Or.inl ⟨by rfl, ?hy3029⟩) (by assumption) ?rest3029
          case hy3029 =>
            intro wX hSw
            try dsimp only at hSw
            go_simp
            first
            | done
            | (with_reducible rfl)
          try simp only [Act.put, List.setIfInBounds_toArray, List.set_cons_zero, List.set_cons_succ]
          refine take_at4 30 91 _ (v := ?v3030) rfl rfl (by kernel_rfl) (by kernel_rfl) (by kernel_rfl) (fun _ _ _ h => h) (Or.inl ⟨by rfl, ?hy3030⟩) (by assumption) ?rest3030
          case hy3030 =>
            intro wX hSw
            try dsimp only at hSw
            go_simp
            first
            | done
            | (with_reducible rfl)
          try simp only [Act.put, List.setIfInBounds_toArray, List.set_cons_zero, List.set_cons_succ]
          refine take_at4 31 92 _ (v := ?v3031) rfl rfl (by kernel_rfl) (by kernel_rfl) (by kernel_rfl) (fun _ _ _ h => h) (Or.inl ⟨by rfl, ?hy3031⟩) (by assumption) ?rest3031
          case hy3031 =>
            intro wX hSw
            try dsimp only at hSw
            go_simp
            first
            | done
            | (with_reducible rfl)
          try simp only [Act.put, List.setIfInBounds_toArray, List.set_cons_zero, List.set_cons_succ]
          refine take_at4 32 93 _ (v := ?v3032) rfl rfl (by kernel_rfl) (by kernel_rfl) (by kernel_rfl) (fun _ _ _ h => h) (Or.inl ⟨by rfl, ?hy3032⟩) (by assumption) ?rest3032
          case hy3032 =>
            intro wX hSw
            try dsimp only at hSw
            go_simp
            first
            | done
            | (with_reducible rfl)
          try simp only [Act.put, List.setIfInBounds_toArray, List.set_cons_zero, List.set_cons_succ]
          refine take_at4 33 94 _ (v := ?v3033) rfl rfl (by kernel_rfl) (by kernel_rfl) (by kernel_rfl) (fun _ _ _ h => h) (Or.inl ⟨by rfl, ?hy3033⟩) (by assumption) ?rest3033
          case hy3033 =>
            intro wX hSw
            try dsimp only at hSw
            go_simp
            first
            | done
            | (with_reducible rfl)
          try simp only [Act.put, List.setIfInBounds_toArray, List.set_cons_zero, List.set_cons_succ]
          refine take_at4 34 95 _ (v := ?v3034) rfl rfl (by kernel_rfl) (by kernel_rfl) (by kernel_rfl) (fun _ _ _ h => h) (Or.inl ⟨by rfl, ?hy3034⟩) (by assumption) ?rest3034
          case hy3034 =>
            intro wX hSw
            try dsimp only at hSw
            go_simp
            first
            | done
            | (with_reducible rfl)
          try simp only [Act.put, List.setIfInBounds_toArray, List.set_cons_zero, List.set_cons_succ]
          refine take_at4 35 96 _ (v := ?v3035) rfl rfl (by kernel_rfl) (by kernel_rfl) (by kernel_rfl) (fun _ _ _ h => h) (Or.inl ⟨by rfl, ?hy3035⟩) (by assumption) ?rest3035
          case hy3035 =>
            intro wX hSw
            try dsimp only at hSw
            go_simp
            first
            | done
            | (with_reducible rfl)
          try simp only [Act.put, List.setIfInBounds_toArray, List.set_cons_zero, List.set_cons_succ]
          refine take_at4 36 97 _ (v := ?v3036) rfl rfl (by kernel_rfl) (by kernel_rfl) (by kernel_rfl) (fun _ _ _ h => h) (Or.inl ⟨by rfl, ?hy3036⟩) (by assumption) ?rest3036
          case hy3036 =>
            intro wX hSw
            try dsimp only at hSw
            go_simp
            first
            | done
            | (with_reducible rfl)
          try simp only [Act.put, List.setIfInBounds_toArray, List.set_cons_zero, List.set_cons_succ]
          refine take_at4 37 98 _ (v := ?v3037) rfl rfl (by kernel_rfl) (by kernel_rfl) (by kernel_rfl) (fun _ _ _ h => h) (Or.inl ⟨by rfl, ?hy3037⟩) (by assumption) ?rest3037
          case hy3037 =>
            intro wX hSw
            try dsimp only at hSw
            go_simp
            first
            | done
            | (with_reducible rfl)
          try simp only [Act.put, List.setIfInBounds_toArray, List.set_cons_zero, List.set_cons_succ]
          refine take_at4 38 99 _ (v := ?v3038) rfl rfl (by kernel_rfl) (by kernel_rfl) (by kernel_rfl) (fun _ _ _ h => h) (Or.inl ⟨by rfl, ?hy3038⟩) (by assumption) ?rest3038
          case hy3038 =>
            intro wX hSw
            try dsimp only at hSw
            go_simp
            first
            | done
            | (with_reducible rfl)
          try simp only [Act.put, List.setIfInBounds_toArray, List.set_cons_zero, List.set_cons_succ]
          refine take_at4 39 100 _ (v := ?v3039) rfl rfl (by kernel_rfl) (by kernel_rfl) (by kernel_rfl) (fun _ _ _ h => h) (Or.inl ⟨by rfl, ?hy3039⟩) (by assumption) ?rest3039
          case hy3039 =>
            intro wX hSw
            try dsimp only at hSw
            go_simp
            first
            | done
            | (with_reducible rfl)
          try simp only [Act.put, List.setIfInBounds_toArray, List.set_cons_zero, List.set_cons_succ]
          refine take_at4 40 101 _ (v := ?v3040) rfl rfl (by kernel_rfl) (by kernel_rfl) (by kernel_rfl) (fun _ _ _ h => h) (Or.inl ⟨by rfl, ?hy3040⟩) (by assumption) ?rest3040
          case hy3040 =>
            intro wX hSw
            try dsimp only at hSw
            go_simp
            first
            | done
            | (with_reducible rfl)
          try simp only [Act.put, List.setIfInBounds_toArray, List.set_cons_zero, List.set_cons_succ]
          refine take_at4 41 102 _ (v := ?v3041) rfl rfl (by kernel_rfl) (by kernel_rfl) (by kernel_rfl) (fun _ _ _ h => h) (Or.inl ⟨by rfl, ?hy3041⟩) (by assumption) ?rest3041
          case hy3041 =>
            intro wX hSw
            try dsimp only at hSw
            go_simp
            first
            | done
            | (with_reducible rfl)
          try simp only [Act.put, List.setIfInBounds_toArray, List.set_cons_zero, List.set_cons_succ]
          refine take_at4 42 103 _ (v := ?v3042) rfl rfl (by kernel_rfl) (by kernel_rfl) (by kernel_rfl) (fun _ _ _ h => h) (Or.inl ⟨by rfl, ?hy3042⟩) (by assumption) ?rest3042
          case hy3042 =>
            intro wX hSw
            try dsimp only at hSw
            go_simp
            first
            | done
            | (with_reducible rfl)
          try simp only [Act.put, List.setIfInBounds_toArray, List.set_cons_zero, List.set_cons_succ]
          refine take_at4 43 104 _ (v := ?v3043) rfl rfl (by kernel_rfl) (by kernel_rfl) (by kernel_rfl) (fun _ _ _ h => h) (Or.inl ⟨by rfl, ?hy3043⟩) (by assumption) ?rest3043
          case hy3043 =>
            intro wX hSw
            try dsimp only at hSw
            go_simp
            first
            | done
            | (with_reducible rfl)
          try simp only [Act.put, List.setIfInBounds_toArray, List.set_cons_zero, List.set_cons_succ]
          refine take_at4 44 105 _ (v := ?v3044) rfl rfl (by kernel_rfl) (by kernel_rfl) (by kernel_rfl) (fun _ _ _ h => h) (Or.inl ⟨by rfl, ?hy3044⟩) (by assumption) ?rest3044
          case hy3044 =>
            intro wX hSw
            try dsimp only at hSw
            go_simp
            first
            | done
            | (with_reducible rfl)
          try simp only [Act.put, List.setIfInBounds_toArray, List.set_cons_zero, List.set_cons_succ]
          refine take_at4 45 106 _ (v := ?v3045) rfl rfl (by kernel_rfl) (by kernel_rfl) (by kernel_rfl) (fun _ _ _ h => h) (Or.inl ⟨by rfl, ?hy3045⟩) (by assumption) ?rest3045
          case hy3045 =>
            intro wX hSw
            try dsimp only at hSw
            go_simp
            first
            | done
            | (with_reducible rfl)
          try simp only [Act.put, List.setIfInBounds_toArray, List.set_cons_zero, List.set_cons_succ]
          refine take_at4 46 107 _ (v := ?v3046) rfl rfl (by kernel_rfl) (by kernel_rfl) (by kernel_rfl) (fun _ _ _ h => h) (Or.inl ⟨by rfl, ?hy3046⟩) (by assumption) ?rest3046
          case hy3046 =>
            intro wX hSw
            try dsimp only at hSw
            go_simp
            first
            | done
            | (with_reducible rfl)
          try simp only [Act.put, List.setIfInBounds_toArray, List.set_cons_zero, List.set_cons_succ]
          refine take_at4 47 108 _ (v := ?v3047) rfl rfl (by kernel_rfl) (by kernel_rfl) (by kernel_rfl) (fun _ _ _ h => h) (Or.inl ⟨by rfl, ?hy3047⟩) (by assumption) ?rest3047
          case hy3047 =>
            intro wX hSw
            try dsimp only at hSw
            go_simp
            first
            | done
            | (with_reducible rfl)
          try simp only [Act.put, List.setIfInBounds_toArray, List.set_cons_zero, List.set_cons_succ]
          refine take_at4 48 109 _ (v := ?v3048) rfl rfl (by kernel_rfl) (by kernel_rfl) (by kernel_rfl) (fun _ _ _ h => h) (Or.inl ⟨by rfl, ?hy3048⟩) (by assumption) ?rest3048
          case hy3048 =>
            intro wX hSw
            try dsimp only at hSw
            go_simp
            first
            | done
            | (with_reducible rfl)
          try simp only [Act.put, List.setIfInBounds_toArray, List.set_cons_zero, List.set_cons_succ]
          refine take_at4 49 110 _ (v := ?v3049) rfl rfl (by kernel_rfl) (by kernel_rfl) (by kernel_rfl) (fun _ _ _ h => h) (Or.inl ⟨by rfl, ?hy3049⟩) (by assumption) ?rest3049
          case hy3049 =>
            intro wX hSw
            try dsimp only at hSw
            go_simp
            first
            | done
            | (with_reducible rfl)
          try simp only [Act.put, List.setIfInBounds_toArray, List.set_cons_zero, List.set_cons_succ]
          refine take_at4 50 111 _ (v := ?v3050) rfl rfl (by kernel_rfl) (by kernel_rfl) (by kernel_rfl) (fun _ _ _ h => h) (Or.inl ⟨by rfl, ?hy3050⟩) (by assumption) ?rest3050
          case hy3050 =>
            intro wX hSw
            try dsimp only at hSw
            go_simp
            first
            | done
            | (with_reducible rfl)
          try simp only [Act.put, List.setIfInBounds_toArray, List.set_cons_zero, List.set_cons_succ]
          refine take_at4 51 112 _ (v := ?v3051) rfl rfl (by kernel_rfl) (by kernel_rfl) (by kernel_rfl) (fun _ _ _ h => h) (Or.inl ⟨by rfl, ?hy3051⟩) (by assumption) ?rest3051
          case hy3051 =>
            intro wX hSw
            try dsimp only at hSw
            go_simp
            first
            | done
            | (with_reducible rfl)
          try simp only [Act.put, List.setIfInBounds_toArray, List.set_cons_zero, List.set_cons_succ]
          refine take_at4 52 113 _ (v := ?v3052) rfl rfl (by kernel_rfl) (by kernel_rfl) (by kernel_rfl) (fun _ _ _ h => h) (Or.inl ⟨by rfl, ?hy3052⟩) (by assumption) ?rest3052
          case hy3052 =>
            intro wX hSw
            try dsimp only at hSw
            go_simp
            first
            | done
            | (with_reducible rfl)
          try simp only [Act.put, List.setIfInBounds_toArray, List.set_cons_zero, List.set_cons_succ]
          refine take_at4 53 114 _ (v := ?v3053) rfl rfl (by kernel_rfl) (by kernel_rfl) (by kernel_rfl) (fun _ _ _ h => h) (Or.inl ⟨by rfl, ?hy3053⟩) (by assumption) ?rest3053
          case hy3053 =>
            intro wX hSw
            try dsimp only at hSw
            go_simp
            first
            | done
            | (with_reducible rfl)
          try simp only [Act.put, List.setIfInBounds_toArray, List.set_cons_zero, List.set_cons_succ]
          refine take_at4 54 115 _ (v := ?v3054) rfl rfl (by kernel_rfl) (by kernel_rfl) (by kernel_rfl) (fun _ _ _ h => h) (Or.inl ⟨by rfl, ?hy3054⟩) (by assumption) ?rest3054
          case hy3054 =>
            intro wX hSw
            try dsimp only at hSw
            go_simp
            first
            | done
            | (with_reducible rfl)
          try simp only [Act.put, List.setIfInBounds_toArray, List.set_cons_zero, List.set_cons_succ]
          refine take_at4 55 116 _ (v := ?v3055) rfl rfl (by kernel_rfl) (by kernel_rfl) (by kernel_rfl) (fun _ _ _ h => h) (Or.inl ⟨by rfl, ?hy3055⟩) (by assumption) ?rest3055
          case hy3055 =>
            intro wX hSw
            try dsimp only at hSw
            go_simp
            first
            | done
            | (with_reducible rfl)
          try simp only [Act.put, List.setIfInBounds_toArray, List.set_cons_zero, List.set_cons_succ]
          refine take_at4 56 117 _ (v := ?v3056) rfl rfl (by kernel_rfl) (by kernel_rfl) (by kernel_rfl) (fun _ _ _ h => h) (Or.inl ⟨by rfl, ?hy3056⟩) (by assumption) ?rest3056
          case hy3056 =>
            intro wX hSw
            try dsimp only at hSw
            go_simp
            first
            | done
            | (with_reducible rfl)
          try simp only [Act.put, List.setIfInBounds_toArray, List.set_cons_zero, List.set_cons_succ]
          refine take_at4 57 118 _ (v := ?v3057) rfl rfl (by kernel_rfl) (by kernel_rfl) (by kernel_rfl) (fun _ _ _ h => h) (Or.inl ⟨by rfl, ?hy3057⟩) (by assumption) ?rest3057
          case hy3057 =>
            intro wX hSw
            try dsimp only at hSw
            go_simp
            first
            | done
            | (with_reducible rfl)
          try simp only [Act.put, List.setIfInBounds_toArray, List.set_cons_zero, List.set_cons_succ]
          refine take_at4 58 119 _ (v := ?v3058) rfl rfl (by kernel_rfl) (by kernel_rfl) (by kernel_rfl) (fun _ _ _ h => h) (Or.inl ⟨by rfl, ?hy3058⟩) (by assumption) ?rest3058
          case hy3058 =>
            intro wX hSw
            try dsimp only at hSw
            go_simp
            first
            | done
            | (with_reducible rfl)
          try simp only [Act.put, List.setIfInBounds_toArray, List.set_cons_zero, List.set_cons_succ]
          refine take_at4 59 120 _ (v := ?v3059) rfl rfl (by kernel_rfl) (by kernel_rfl) (by kernel_rfl) (fun _ _ _ h => h) (Or.inl ⟨by rfl, ?hy3059⟩) (by assumption) ?rest3059
          case hy3059 =>
            intro wX hSw
            try dsimp only at hSw
            go_simp
            first
            | done
            | (with_reducible rfl)
          try simp only [Act.put, List.setIfInBounds_toArray, List.set_cons_zero, List.set_cons_succ]
          refine take_at4 60 121 _ (v := ?v3060) rfl rfl (by kernel_rfl) (by kernel_rfl) (by kernel_rfl) (fun _ _ _ h => h) (Or.inl ⟨by rfl, ?hy3060⟩) (by assumption) ?rest3060
          case hy3060 =>
            intro wX hSw
            try dsimp only at hSw
            go_simp
            first
            | done
            | (with_reducible rfl)
          try simp only [Act.put, List.setIfInBounds_toArray, List.set_cons_zero, List.set_cons_succ]
          refine take_at4 61 122 _ (v := ?v3061) rfl rfl (by kernel_rfl) (by kernel_rfl) (by kernel_rfl) (fun _ _ _ h => h) (Or.inl ⟨by rfl, ?hy3061⟩) (by assumption) ?rest3061
          case hy3061 =>
            intro wX hSw
            try dsimp only at hSw
            go_simp
            first
            | done
            | (with_reducible rfl)
          try simp only [Act.put, List.setIfInBounds_toArray, List.set_cons_zero, List.set_cons_succ]
          refine take_at4 62 123 _ (v := ?v3062) rfl rfl (by kernel_rfl) (by kernel_rfl) (by kernel_rfl) (fun _ _ _ h => h) (Or.inl ⟨by rfl, ?hy3062⟩) (by assumption) ?rest3062
          case hy3062 =>
            intro wX hSw
            try dsimp only at hSw
            go_simp
            first
            | done
            | (with_reducible rfl)
          try simp only [Act.put, List.setIfInBounds_toArray, List.set_cons_zero, List.set_cons_succ]
          refine take_at4 63 124 _ (v := undef) rfl rfl (by kernel_rfl) (by kernel_rfl) (by kernel_rfl) (fun _ _ _ h => h) (Or.inr ⟨by rfl, rfl⟩) (by assumption) ?_
          try simp only [Act.put, List.setIfInBounds_toArray, List.set_cons_zero, List.set_cons_succ]
          refine take_at4 64 125 _ (v := undef) rfl rfl (by kernel_rfl) (by kernel_rfl) (by kernel_rfl) (fun _ _ _ h => h) (Or.inr ⟨by rfl, rfl⟩) (by assumption) ?_
          try simp only [Act.put, List.setIfInBounds_toArray, List.set_cons_zero, List.set_cons_succ]
          refine take_at4 65 126 _ (v := undef) rfl rfl (by kernel_rfl) (by kernel_rfl) (by kernel_rfl) (fun _ _ _ h => h) (Or.inr ⟨by rfl, rfl⟩) (by assumption) ?_
          try simp only [Act.put, List.setIfInBounds_toArray, List.set_cons_zero, List.set_cons_succ]
          refine take_at4 66 127 _ (v := undef) rfl rfl (by kernel_rfl) (by kernel_rfl) (by kernel_rfl) (fun _ _ _ h => h) (Or.inr ⟨by rfl, rfl⟩) (by assumption) ?_
          try simp only [Act.put, List.setIfInBounds_toArray, List.set_cons_zero, List.set_cons_succ]
          refine take_at4 67 128 _ (v := undef) rfl rfl (by kernel_rfl) (by kernel_rfl) (by kernel_rfl) (fun _ _ _ h => h) (Or.inr ⟨by rfl, rfl⟩) (by assumption) ?_
          try simp only [Act.put, List.setIfInBounds_toArray, List.set_cons_zero, List.set_cons_succ]
          refine take_at4 68 129 _ (v := undef) rfl rfl (by kernel_rfl) (by kernel_rfl) (by kernel_rfl) (fun _ _ _ h => h) (Or.inr ⟨by rfl, rfl⟩) (by assumption) ?_
          try simp only [Act.put, List.setIfInBounds_toArray, List.set_cons_zero, List.set_cons_succ]
          refine take_at4 69 130 _ (v := undef) rfl rfl (by kernel_rfl) (by kernel_rfl) (by kernel_rfl) (fun _ _ _ h => h) (Or.inr ⟨by rfl, rfl⟩) (by assumption) ?_
          try simp only [Act.put, List.setIfInBounds_toArray, List.set_cons_zero, List.set_cons_succ]
          refine take_at4 70 131 _ (v := undef) rfl rfl (by kernel_rfl) (by kernel_rfl) (by kernel_rfl) (fun _ _ _ h => h) (Or.inr ⟨by rfl, rfl⟩) (by assumption) ?_
          try simp only [Act.put, List.setIfInBounds_toArray, List.set_cons_zero, List.set_cons_succ]
          refine take_at4 71 132 _ (v := ?v3071) rfl rfl (by kernel_rfl) (by kernel_rfl) (by kernel_rfl) (fun _ _ _ h => h) (Or.inl ⟨by rfl, ?hy3071⟩) (by assumption) ?rest3071
          case hy3071 =>
            intro wX hSw
            try dsimp only at hSw
            go_simp
            first
            | done
            | (with_reducible rfl)
          try simp only [Act.put, List.setIfInBounds_toArray, List.set_cons_zero, List.set_cons_succ]
          refine take_at4 72 133 _ (v := ?v3072) rfl rfl (by kernel_rfl) (by kernel_rfl) (by kernel_rfl) (fun _ _ _ h => h) (Or.inl ⟨by rfl, ?hy3072⟩) (by assumption) ?rest3072
          case hy3072 =>
            intro wX hSw
            try dsimp only at hSw
            go_simp
            first
            | done
            | (with_reducible rfl)
          try simp only [Act.put, List.setIfInBounds_toArray, List.set_cons_zero, List.set_cons_succ]
          refine take_at4 73 134 _ (v := ?v3073) rfl rfl (by kernel_rfl) (by kernel_rfl) (by kernel_rfl) (fun _ _ _ h => h) (Or.inl ⟨by rfl, ?hy3073⟩) (by assumption) ?rest3073
          case hy3073 =>
            intro wX hSw
            try dsimp only at hSw
            go_simp
            first
            | done
            | (with_reducible rfl)
          try simp only [Act.put, List.setIfInBounds_toArray, List.set_cons_zero, List.set_cons_succ]
          refine take_at4 74 135 _ (v := ?v3074) rfl rfl (by kernel_rfl) (by kernel_rfl) (by kernel_rfl) (fun _ _ _ h => h) (Or.inl ⟨by rfl, ?hy3074⟩) (by assumption) ?rest3074
          case hy3074 =>
            intro wX hSw
            try dsimp only at hSw
            go_simp
            first
            | done
            | (with_reducible rfl)
          try simp only [Act.put, List.setIfInBounds_toArray, List.set_cons_zero, List.set_cons_succ]
          refine wpAnyH_done (by kernel_rfl) ?_ _
          refine NoPanic.normal ?_
          go_wp2
          go_roundw
          case rel => exact ⟨i + 1, by omega, by go_num, Lib.hid HNX.out⟩
          case measure => simp [intOf]; omega
    · obtain rfl : i = N := by omega
      have HBE := Lib.hid hrd.out.be
      clear hlt
      go_upto_region 17 with fail
      obtain ⟨w8, hw8⟩ : ∃ x, wr.alloc (.cells #[.int .i64 2, .int .i64 0, .int .i64 0, .int .i64 1, .int .i64 0, .int .i64 0] 47) = x := ⟨_, rfl⟩
      have HLD : Hid (LS w8 w8.heap.size (.slice (some ⟨wr.heap.size, 0, none⟩) 2 2) [⟨2, 0, 0⟩, ⟨1, 0, 0⟩]) := Lib.hid (by
        rw [← hw8]
        have r := Row.made wr 47 #[.int .i64 2, .int .i64 0, .int .i64 0, .int .i64 1, .int .i64 0, .int .i64 0]
        refine ⟨_, 2, rfl, Nat.le_refl _, by omega, fun k hk => ?_⟩
        have hk2 : k < 2 := hk
        have : k = 0 ∨ k = 1 := by omega
        rcases this with rfl | rfl
        · exact ⟨_, _, rfl, by simp, (r.cell 0).trans rfl, (r.cell 1).trans rfl, (r.cell 2).trans rfl⟩
        · exact ⟨_, _, rfl, by simp, (r.cell 3).trans rfl, (r.cell 4).trans rfl, (r.cell 5).trans rfl⟩)
      have HB8 : Hid (Below w.heap.size w w8) := Lib.hid (by rw [← hw8]; exact HBE.out.alloc HBE.out.size _)
      rw [hw8]
      clear hw8
      go_wp2_with fail
      refine (Sq.awake_any _).mono ?_
      rintro e w9 ⟨rfl, hb⟩
      have HLD9 := Lib.hid (HLD.out.below hb hb.size)
      have HB9 := Lib.hid (HB8.out.trans (hb.mono HB8.out.size))
      clear hb
      go_wp2_with fail
      refine (rises_any _ [⟨2, 0, 0⟩, ⟨1, 0, 0⟩] _ HLD9.out (by decide)).mono ?_
      rintro e w10 ⟨b, rfl, hb1, hb⟩
      obtain rfl : b = false := by
        cases b with
        | false => rfl
        | true => exact absurd (show lt ⟨1, 0, 0⟩ ⟨2, 0, 0⟩ from .inl (by decide)) (hb1.1 rfl 0 ⟨1, 0, 0⟩ ⟨2, 0, 0⟩ rfl rfl)
      have HB10 := Lib.hid (HB9.out.trans (hb.mono HB9.out.size))
      clear hb hb1
      go_wp2_with fail
      refine (merge0 _).mono ?_
      rintro e w11 ⟨rfl, hb⟩
      have HB11 := Lib.hid (HB10.out.trans (hb.mono HB10.out.size))
      clear hb
      go_wp2
      go_ret
      exact ⟨rfl, HB11.out⟩
end Go.Proofs.Ytbhbjblliegliaa.Sm
