/- Texts put together: CkX, CkY, CkZ0, CkZ, CkBad. -/
import Derived.Test.YtopbildpeojgoaaCkW
section
namespace Go.Proofs.Ytopbildpeojgoaa.Ck
open Go.RowKit Go.Proofs.Ytopbildpeojgoaa Go.Proofs.Ytopbildpeojgoaa.Sch Go.Proofs.Ytopbildpeojgoaa.Ty
set_option linter.unusedVariables false
set_option maxRecDepth 100000
set_option maxHeartbeats 8000000 in
theorem bad_law0 (A : Option Addr) (n c : Nat) (f : Nat → Int) (ln : n ≤ c) (lc : c ≤ 9223372036854775807) (lb : ∀ k, -9223372036854775808 ≤ f k ∧ f k ≤ 9223372036854775807) {w : World} (ll : Lies w w.heap.size A n (fun k => .int .i64 (f k))) (kind N : Int) (z : Int) (hz : bits .and .i64 kind 31 = z) (hzc : z.tmod 15 = 0) (y : Int) (hy : bits .and .i64 N 255 = y) (y0 : 0 ≤ y) (y1 : y ≤ 255) :
    Calls Try.prog 7 #[.slice A n c, .int .i64 kind, .int .i64 N] w fun e w' => e = .returned (.bool true) ∧ Below w.heap.size w w' := by
  have HL := Lib.hid ll
  have HLB := Lib.hid lb
  clear ll lb
  go_enter Try.func7, Try.ntmps7
  go_wp2_with fail
  refine (types_any _).mono ?_
  rintro e w1 ⟨v1, rfl, ht1, hb1⟩
  have HT1 := Lib.hid ht1
  clear ht1
  go_wp2_with fail
  refine (new_any _ typesL _ _ HT1.out (Nat.le_refl _)).mono ?_
  rintro e w2 ⟨p, cc, rfl, hr, hsc, _, hb2⟩
  obtain rfl := typesL_ok hr
  have HS2 := Lib.hid (hsc rfl)
  have HB2 := Lib.hid (hb1.trans (hb2.mono hb1.size))
  clear hb1 hb2 hr hsc
  have hqy := Pq.query_any A n c f ln lc HLB.out w2 (lies_mono (HL.out.below HB2.out) HB2.out.size)
  go_wp2_with fail
  refine hqy.mono ?_
  unfold Pq.Made
  rintro e w3 ⟨v, win, cap, es, rfl, hqi, hg, l1, l4, w1', w16, hcap⟩
  obtain ⟨g, o, c', rfl, hc1, hc2, hqp, hgw, hroom⟩ := qp_qi hqi (by omega)
  obtain ⟨m, hm⟩ : ∃ m, es.length = m := ⟨_, rfl⟩
  obtain ⟨k, hk, hkm⟩ : ∃ k : Nat, y.tmod (m : Int) = (k : Int) ∧ k < m := ⟨(y.tmod (m : Int)).toNat, by
    rw [Int.tmod_eq_emod_of_nonneg y0]
    have := Int.emod_nonneg y (show (m : Int) ≠ 0 by omega)
    omega, by
    rw [Int.tmod_eq_emod_of_nonneg y0]
    have := Int.emod_lt_of_pos y (show (0 : Int) < m by omega)
    have := Int.emod_nonneg y (show (m : Int) ≠ 0 by omega)
    omega⟩
  obtain ⟨ke, hke⟩ : ∃ e, es[k]? = some e := ⟨_, List.getElem?_eq_getElem (show k < es.length by omega)⟩
  have HBAD : Hid (Bad w2 (w3.alloc (.cells #[.slice (some ⟨g, o, none⟩) m c', .int .i64 win, .int .i64 cap] 67)) p w3.heap.size g o m c' k win cap es ke) := Lib.hid
    { sc := HS2.out
      be := hqi.be.alloc hqi.be.size _
      row := Row.made _ _ _
      qp := hqp.call ((Below.refl _ _).alloc (Nat.le_refl _) _)
      ne := by obtain ⟨cs, hr, _⟩ := hqp; have := hr.lt; omega
      gg := hg
      len := hm
      l1 := by omega
      l4 := by omega
      mc := by omega
      cm := hc2
      wn := ⟨w1', w16⟩
      cp := by omega
      km := hkm
      ek := hke
      past := fun i u => by rw [World.setCell_alloc_new]; exact hqp.call ((Below.refl _ _).alloc (Nat.le_refl _) _)
      room := by obtain ⟨cs, h1, h2⟩ := hroom; exact ⟨cs, h1.alloc _, h2⟩
      bg := hgw
      bb := hqi.be.size }
  rw [hm]
  have hmz : ((m : Int) == 0) = false := by simp; omega
  have hmz2 : ¬ (m : Int) = 0 := by omega
  have hkmi : (k : Int) < (m : Int) := by omega
  have hm4 : m ≤ 4 := by omega
  clear hqy hqi hg l1 l4 w1' w16 hcap hc1 hc2 hqp hgw hroom hke HT1 HS2 HL HLB hm
  go_upto_region 6 with fail
  generalize hW : w3.alloc (.cells #[.slice (some ⟨g, o, none⟩) m c', .int .i64 win, .int .i64 cap] 67) = W at HBAD ⊢
  generalize w3.heap.size = bq at HBAD ⊢
  clear hW
  obtain ⟨fz, tv, pv, c0, c1, c2, c3, c4, c5⟩ := HBAD.out.qp.facts (k := k) HBAD.out.kl
  rw [HBAD.out.at] at c0 c2 c3 c4
  have d0 : W.cell? ⟨bq, 0, none⟩ = some (.slice (some ⟨g, o, none⟩) m c') := (HBAD.out.row.cell 0).trans rfl
  have d1 : W.cell? ⟨bq, 1, none⟩ = some (.int .i64 win) := (HBAD.out.row.cell 1).trans rfl
  have d2 : W.cell? ⟨bq, 2, none⟩ = some (.int .i64 cap) := (HBAD.out.row.cell 2).trans rfl
  have fq : ∀ i, W.frozen? ⟨bq, i, none⟩ = false := fun i => HBAD.out.row.free i
  have ne1 := HBAD.out.ne
  have ne2 : g ≠ bq := fun e => HBAD.out.ne e.symm
  have gl : g < W.heap.size := HBAD.out.lt
  have bl : bq < W.heap.size := HBAD.out.row.lt
  obtain ⟨kv, kt, kts, kn, ka, kb, kp, kl⟩ := ke
  dsimp only [toQ] at c0 c2 c3 c4
  go_wp2_with fail
  refine ((HBAD.out.fin (q := (es.map toQ).set k { toQ ⟨kv, kt, kts, kn, ka, kb, kp, kl⟩ with ts := [⟨#[68]⟩] }) (by
    have hal : Below W.heap.size W (W.alloc (.cells #[.string ⟨#[68]⟩] 9)) := (Below.refl _ _).alloc (Nat.le_refl _) _
    have h := (HBAD.out.qp.call hal).putT HBAD.out.kl (.slice (some ⟨W.heap.size, 0, none⟩) 1 1) [⟨#[68]⟩] (slp_new (Row.made W _ _) rfl (by have := gl; omega))
    rw [World.setCell_alloc_past _ _ _ _ HBAD.out.lt, HBAD.out.at] at h
    exact h) (HBAD.out.len' _) ((HBAD.out.putb _ _).alloc (HBAD.out.putb _ _).size _) win cap 10 (bad_0 HBAD.out.gg HBAD.out.l1' HBAD.out.l4' HBAD.out.ek win cap))).mono ?_
  rintro e w4 ⟨rfl, hb4⟩
  have HB4 := Lib.hid (HB2.out.trans (hb4.mono HB2.out.size))
  clear hb4 c0 c1 c2 c3 c4 c5 d0 d1 d2 fz fq ne1 ne2 gl bl HBAD hkmi hm4 hmz hmz2
  go_wp2_with fail
  refine (awake_any w4).mono ?_
  rintro e w5 ⟨rfl, hb5⟩
  have HB5 := Lib.hid (HB4.out.trans (hb5.mono HB4.out.size))
  clear hb5
  go_wp2
  go_ret
  exact ⟨rfl, HB5.out⟩
set_option maxHeartbeats 8000000 in
theorem bad_law1 (A : Option Addr) (n c : Nat) (f : Nat → Int) (ln : n ≤ c) (lc : c ≤ 9223372036854775807) (lb : ∀ k, -9223372036854775808 ≤ f k ∧ f k ≤ 9223372036854775807) {w : World} (ll : Lies w w.heap.size A n (fun k => .int .i64 (f k))) (kind N : Int) (z : Int) (hz : bits .and .i64 kind 31 = z) (hzc : z.tmod 15 = 1) (y : Int) (hy : bits .and .i64 N 255 = y) (y0 : 0 ≤ y) (y1 : y ≤ 255) :
    Calls Try.prog 7 #[.slice A n c, .int .i64 kind, .int .i64 N] w fun e w' => e = .returned (.bool true) ∧ Below w.heap.size w w' := by
  have HL := Lib.hid ll
  have HLB := Lib.hid lb
  clear ll lb
  go_enter Try.func7, Try.ntmps7
  go_wp2_with fail
  refine (types_any _).mono ?_
  rintro e w1 ⟨v1, rfl, ht1, hb1⟩
  have HT1 := Lib.hid ht1
  clear ht1
  go_wp2_with fail
  refine (new_any _ typesL _ _ HT1.out (Nat.le_refl _)).mono ?_
  rintro e w2 ⟨p, cc, rfl, hr, hsc, _, hb2⟩
  obtain rfl := typesL_ok hr
  have HS2 := Lib.hid (hsc rfl)
  have HB2 := Lib.hid (hb1.trans (hb2.mono hb1.size))
  clear hb1 hb2 hr hsc
  have hqy := Pq.query_any A n c f ln lc HLB.out w2 (lies_mono (HL.out.below HB2.out) HB2.out.size)
  go_wp2_with fail
  refine hqy.mono ?_
  unfold Pq.Made
  rintro e w3 ⟨v, win, cap, es, rfl, hqi, hg, l1, l4, w1', w16, hcap⟩
  obtain ⟨g, o, c', rfl, hc1, hc2, hqp, hgw, hroom⟩ := qp_qi hqi (by omega)
  obtain ⟨m, hm⟩ : ∃ m, es.length = m := ⟨_, rfl⟩
  obtain ⟨k, hk, hkm⟩ : ∃ k : Nat, y.tmod (m : Int) = (k : Int) ∧ k < m := ⟨(y.tmod (m : Int)).toNat, by
    rw [Int.tmod_eq_emod_of_nonneg y0]
    have := Int.emod_nonneg y (show (m : Int) ≠ 0 by omega)
    omega, by
    rw [Int.tmod_eq_emod_of_nonneg y0]
    have := Int.emod_lt_of_pos y (show (0 : Int) < m by omega)
    have := Int.emod_nonneg y (show (m : Int) ≠ 0 by omega)
    omega⟩
  obtain ⟨ke, hke⟩ : ∃ e, es[k]? = some e := ⟨_, List.getElem?_eq_getElem (show k < es.length by omega)⟩
  have HBAD : Hid (Bad w2 (w3.alloc (.cells #[.slice (some ⟨g, o, none⟩) m c', .int .i64 win, .int .i64 cap] 67)) p w3.heap.size g o m c' k win cap es ke) := Lib.hid
    { sc := HS2.out
      be := hqi.be.alloc hqi.be.size _
      row := Row.made _ _ _
      qp := hqp.call ((Below.refl _ _).alloc (Nat.le_refl _) _)
      ne := by obtain ⟨cs, hr, _⟩ := hqp; have := hr.lt; omega
      gg := hg
      len := hm
      l1 := by omega
      l4 := by omega
      mc := by omega
      cm := hc2
      wn := ⟨w1', w16⟩
      cp := by omega
      km := hkm
      ek := hke
      past := fun i u => by rw [World.setCell_alloc_new]; exact hqp.call ((Below.refl _ _).alloc (Nat.le_refl _) _)
      room := by obtain ⟨cs, h1, h2⟩ := hroom; exact ⟨cs, h1.alloc _, h2⟩
      bg := hgw
      bb := hqi.be.size }
  rw [hm]
  have hmz : ((m : Int) == 0) = false := by simp; omega
  have hmz2 : ¬ (m : Int) = 0 := by omega
  have hkmi : (k : Int) < (m : Int) := by omega
  have hm4 : m ≤ 4 := by omega
  clear hqy hqi hg l1 l4 w1' w16 hcap hc1 hc2 hqp hgw hroom hke HT1 HS2 HL HLB hm
  go_upto_region 6 with fail
  generalize hW : w3.alloc (.cells #[.slice (some ⟨g, o, none⟩) m c', .int .i64 win, .int .i64 cap] 67) = W at HBAD ⊢
  generalize w3.heap.size = bq at HBAD ⊢
  clear hW
  obtain ⟨fz, tv, pv, c0, c1, c2, c3, c4, c5⟩ := HBAD.out.qp.facts (k := k) HBAD.out.kl
  rw [HBAD.out.at] at c0 c2 c3 c4
  have d0 : W.cell? ⟨bq, 0, none⟩ = some (.slice (some ⟨g, o, none⟩) m c') := (HBAD.out.row.cell 0).trans rfl
  have d1 : W.cell? ⟨bq, 1, none⟩ = some (.int .i64 win) := (HBAD.out.row.cell 1).trans rfl
  have d2 : W.cell? ⟨bq, 2, none⟩ = some (.int .i64 cap) := (HBAD.out.row.cell 2).trans rfl
  have fq : ∀ i, W.frozen? ⟨bq, i, none⟩ = false := fun i => HBAD.out.row.free i
  have ne1 := HBAD.out.ne
  have ne2 : g ≠ bq := fun e => HBAD.out.ne e.symm
  have gl : g < W.heap.size := HBAD.out.lt
  have bl : bq < W.heap.size := HBAD.out.row.lt
  obtain ⟨kv, kt, kts, kn, ka, kb, kp, kl⟩ := ke
  dsimp only [toQ] at c0 c2 c3 c4
  go_wp2_with fail
  refine ((HBAD.out.fin (q := (es.map toQ).set k { toQ ⟨kv, kt, kts, kn, ka, kb, kp, kl⟩ with ts := [⟨#[65]⟩, ⟨#[65]⟩] }) (by
    have hal : Below W.heap.size W (W.alloc (.cells #[.string ⟨#[65]⟩, .string ⟨#[65]⟩] 9)) := (Below.refl _ _).alloc (Nat.le_refl _) _
    have h := (HBAD.out.qp.call hal).putT HBAD.out.kl (.slice (some ⟨W.heap.size, 0, none⟩) 2 2) [⟨#[65]⟩, ⟨#[65]⟩] (slp_new (Row.made W _ _) rfl (by have := gl; omega))
    rw [World.setCell_alloc_past _ _ _ _ HBAD.out.lt, HBAD.out.at] at h
    exact h) (HBAD.out.len' _) ((HBAD.out.putb _ _).alloc (HBAD.out.putb _ _).size _) win cap 4 (bad_1 HBAD.out.gg HBAD.out.l1' HBAD.out.l4' HBAD.out.ek win cap))).mono ?_
  rintro e w4 ⟨rfl, hb4⟩
  have HB4 := Lib.hid (HB2.out.trans (hb4.mono HB2.out.size))
  clear hb4 c0 c1 c2 c3 c4 c5 d0 d1 d2 fz fq ne1 ne2 gl bl HBAD hkmi hm4 hmz hmz2
  go_wp2_with fail
  refine (awake_any w4).mono ?_
  rintro e w5 ⟨rfl, hb5⟩
  have HB5 := Lib.hid (HB4.out.trans (hb5.mono HB4.out.size))
  clear hb5
  go_wp2
  go_ret
  exact ⟨rfl, HB5.out⟩
set_option maxHeartbeats 8000000 in
theorem bad_law2 (A : Option Addr) (n c : Nat) (f : Nat → Int) (ln : n ≤ c) (lc : c ≤ 9223372036854775807) (lb : ∀ k, -9223372036854775808 ≤ f k ∧ f k ≤ 9223372036854775807) {w : World} (ll : Lies w w.heap.size A n (fun k => .int .i64 (f k))) (kind N : Int) (z : Int) (hz : bits .and .i64 kind 31 = z) (hzc : z.tmod 15 = 2) (y : Int) (hy : bits .and .i64 N 255 = y) (y0 : 0 ≤ y) (y1 : y ≤ 255) :
    Calls Try.prog 7 #[.slice A n c, .int .i64 kind, .int .i64 N] w fun e w' => e = .returned (.bool true) ∧ Below w.heap.size w w' := by
  have HL := Lib.hid ll
  have HLB := Lib.hid lb
  clear ll lb
  go_enter Try.func7, Try.ntmps7
  go_wp2_with fail
  refine (types_any _).mono ?_
  rintro e w1 ⟨v1, rfl, ht1, hb1⟩
  have HT1 := Lib.hid ht1
  clear ht1
  go_wp2_with fail
  refine (new_any _ typesL _ _ HT1.out (Nat.le_refl _)).mono ?_
  rintro e w2 ⟨p, cc, rfl, hr, hsc, _, hb2⟩
  obtain rfl := typesL_ok hr
  have HS2 := Lib.hid (hsc rfl)
  have HB2 := Lib.hid (hb1.trans (hb2.mono hb1.size))
  clear hb1 hb2 hr hsc
  have hqy := Pq.query_any A n c f ln lc HLB.out w2 (lies_mono (HL.out.below HB2.out) HB2.out.size)
  go_wp2_with fail
  refine hqy.mono ?_
  unfold Pq.Made
  rintro e w3 ⟨v, win, cap, es, rfl, hqi, hg, l1, l4, w1', w16, hcap⟩
  obtain ⟨g, o, c', rfl, hc1, hc2, hqp, hgw, hroom⟩ := qp_qi hqi (by omega)
  obtain ⟨m, hm⟩ : ∃ m, es.length = m := ⟨_, rfl⟩
  obtain ⟨k, hk, hkm⟩ : ∃ k : Nat, y.tmod (m : Int) = (k : Int) ∧ k < m := ⟨(y.tmod (m : Int)).toNat, by
    rw [Int.tmod_eq_emod_of_nonneg y0]
    have := Int.emod_nonneg y (show (m : Int) ≠ 0 by omega)
    omega, by
    rw [Int.tmod_eq_emod_of_nonneg y0]
    have := Int.emod_lt_of_pos y (show (0 : Int) < m by omega)
    have := Int.emod_nonneg y (show (m : Int) ≠ 0 by omega)
    omega⟩
  obtain ⟨ke, hke⟩ : ∃ e, es[k]? = some e := ⟨_, List.getElem?_eq_getElem (show k < es.length by omega)⟩
  have HBAD : Hid (Bad w2 (w3.alloc (.cells #[.slice (some ⟨g, o, none⟩) m c', .int .i64 win, .int .i64 cap] 67)) p w3.heap.size g o m c' k win cap es ke) := Lib.hid
    { sc := HS2.out
      be := hqi.be.alloc hqi.be.size _
      row := Row.made _ _ _
      qp := hqp.call ((Below.refl _ _).alloc (Nat.le_refl _) _)
      ne := by obtain ⟨cs, hr, _⟩ := hqp; have := hr.lt; omega
      gg := hg
      len := hm
      l1 := by omega
      l4 := by omega
      mc := by omega
      cm := hc2
      wn := ⟨w1', w16⟩
      cp := by omega
      km := hkm
      ek := hke
      past := fun i u => by rw [World.setCell_alloc_new]; exact hqp.call ((Below.refl _ _).alloc (Nat.le_refl _) _)
      room := by obtain ⟨cs, h1, h2⟩ := hroom; exact ⟨cs, h1.alloc _, h2⟩
      bg := hgw
      bb := hqi.be.size }
  rw [hm]
  have hmz : ((m : Int) == 0) = false := by simp; omega
  have hmz2 : ¬ (m : Int) = 0 := by omega
  have hkmi : (k : Int) < (m : Int) := by omega
  have hm4 : m ≤ 4 := by omega
  clear hqy hqi hg l1 l4 w1' w16 hcap hc1 hc2 hqp hgw hroom hke HT1 HS2 HL HLB hm
  go_upto_region 6 with fail
  generalize hW : w3.alloc (.cells #[.slice (some ⟨g, o, none⟩) m c', .int .i64 win, .int .i64 cap] 67) = W at HBAD ⊢
  generalize w3.heap.size = bq at HBAD ⊢
  clear hW
  obtain ⟨fz, tv, pv, c0, c1, c2, c3, c4, c5⟩ := HBAD.out.qp.facts (k := k) HBAD.out.kl
  rw [HBAD.out.at] at c0 c2 c3 c4
  have d0 : W.cell? ⟨bq, 0, none⟩ = some (.slice (some ⟨g, o, none⟩) m c') := (HBAD.out.row.cell 0).trans rfl
  have d1 : W.cell? ⟨bq, 1, none⟩ = some (.int .i64 win) := (HBAD.out.row.cell 1).trans rfl
  have d2 : W.cell? ⟨bq, 2, none⟩ = some (.int .i64 cap) := (HBAD.out.row.cell 2).trans rfl
  have fq : ∀ i, W.frozen? ⟨bq, i, none⟩ = false := fun i => HBAD.out.row.free i
  have ne1 := HBAD.out.ne
  have ne2 : g ≠ bq := fun e => HBAD.out.ne e.symm
  have gl : g < W.heap.size := HBAD.out.lt
  have bl : bq < W.heap.size := HBAD.out.row.lt
  obtain ⟨kv, kt, kts, kn, ka, kb, kp, kl⟩ := ke
  dsimp only [toQ] at c0 c2 c3 c4
  go_wp2_with fail
  refine ((HBAD.out.fin (q := (es.map toQ).set k { toQ ⟨kv, kt, kts, kn, ka, kb, kp, kl⟩ with ts := [] }) (by have h := HBAD.out.qp.putT HBAD.out.kl (.slice none 0 0) [] ⟨none, 0, rfl, by simp, by omega, fun k hk => by simp at hk⟩; rw [HBAD.out.at] at h; exact h) (HBAD.out.len' _) (HBAD.out.putb _ _) win cap 1 (bad_2 HBAD.out.gg HBAD.out.l1' HBAD.out.l4' HBAD.out.ek win cap))).mono ?_
  rintro e w4 ⟨rfl, hb4⟩
  have HB4 := Lib.hid (HB2.out.trans (hb4.mono HB2.out.size))
  clear hb4 c0 c1 c2 c3 c4 c5 d0 d1 d2 fz fq ne1 ne2 gl bl HBAD hkmi hm4 hmz hmz2
  go_wp2_with fail
  refine (awake_any w4).mono ?_
  rintro e w5 ⟨rfl, hb5⟩
  have HB5 := Lib.hid (HB4.out.trans (hb5.mono HB4.out.size))
  clear hb5
  go_wp2
  go_ret
  exact ⟨rfl, HB5.out⟩
set_option maxHeartbeats 8000000 in
theorem bad_law3 (A : Option Addr) (n c : Nat) (f : Nat → Int) (ln : n ≤ c) (lc : c ≤ 9223372036854775807) (lb : ∀ k, -9223372036854775808 ≤ f k ∧ f k ≤ 9223372036854775807) {w : World} (ll : Lies w w.heap.size A n (fun k => .int .i64 (f k))) (kind N : Int) (z : Int) (hz : bits .and .i64 kind 31 = z) (hzc : z.tmod 15 = 3) (y : Int) (hy : bits .and .i64 N 255 = y) (y0 : 0 ≤ y) (y1 : y ≤ 255) :
    Calls Try.prog 7 #[.slice A n c, .int .i64 kind, .int .i64 N] w fun e w' => e = .returned (.bool true) ∧ Below w.heap.size w w' := by
  have HL := Lib.hid ll
  have HLB := Lib.hid lb
  clear ll lb
  go_enter Try.func7, Try.ntmps7
  go_wp2_with fail
  refine (types_any _).mono ?_
  rintro e w1 ⟨v1, rfl, ht1, hb1⟩
  have HT1 := Lib.hid ht1
  clear ht1
  go_wp2_with fail
  refine (new_any _ typesL _ _ HT1.out (Nat.le_refl _)).mono ?_
  rintro e w2 ⟨p, cc, rfl, hr, hsc, _, hb2⟩
  obtain rfl := typesL_ok hr
  have HS2 := Lib.hid (hsc rfl)
  have HB2 := Lib.hid (hb1.trans (hb2.mono hb1.size))
  clear hb1 hb2 hr hsc
  have hqy := Pq.query_any A n c f ln lc HLB.out w2 (lies_mono (HL.out.below HB2.out) HB2.out.size)
  go_wp2_with fail
  refine hqy.mono ?_
  unfold Pq.Made
  rintro e w3 ⟨v, win, cap, es, rfl, hqi, hg, l1, l4, w1', w16, hcap⟩
  obtain ⟨g, o, c', rfl, hc1, hc2, hqp, hgw, hroom⟩ := qp_qi hqi (by omega)
  obtain ⟨m, hm⟩ : ∃ m, es.length = m := ⟨_, rfl⟩
  obtain ⟨k, hk, hkm⟩ : ∃ k : Nat, y.tmod (m : Int) = (k : Int) ∧ k < m := ⟨(y.tmod (m : Int)).toNat, by
    rw [Int.tmod_eq_emod_of_nonneg y0]
    have := Int.emod_nonneg y (show (m : Int) ≠ 0 by omega)
    omega, by
    rw [Int.tmod_eq_emod_of_nonneg y0]
    have := Int.emod_lt_of_pos y (show (0 : Int) < m by omega)
    have := Int.emod_nonneg y (show (m : Int) ≠ 0 by omega)
    omega⟩
  obtain ⟨ke, hke⟩ : ∃ e, es[k]? = some e := ⟨_, List.getElem?_eq_getElem (show k < es.length by omega)⟩
  have HBAD : Hid (Bad w2 (w3.alloc (.cells #[.slice (some ⟨g, o, none⟩) m c', .int .i64 win, .int .i64 cap] 67)) p w3.heap.size g o m c' k win cap es ke) := Lib.hid
    { sc := HS2.out
      be := hqi.be.alloc hqi.be.size _
      row := Row.made _ _ _
      qp := hqp.call ((Below.refl _ _).alloc (Nat.le_refl _) _)
      ne := by obtain ⟨cs, hr, _⟩ := hqp; have := hr.lt; omega
      gg := hg
      len := hm
      l1 := by omega
      l4 := by omega
      mc := by omega
      cm := hc2
      wn := ⟨w1', w16⟩
      cp := by omega
      km := hkm
      ek := hke
      past := fun i u => by rw [World.setCell_alloc_new]; exact hqp.call ((Below.refl _ _).alloc (Nat.le_refl _) _)
      room := by obtain ⟨cs, h1, h2⟩ := hroom; exact ⟨cs, h1.alloc _, h2⟩
      bg := hgw
      bb := hqi.be.size }
  rw [hm]
  have hmz : ((m : Int) == 0) = false := by simp; omega
  have hmz2 : ¬ (m : Int) = 0 := by omega
  have hkmi : (k : Int) < (m : Int) := by omega
  have hm4 : m ≤ 4 := by omega
  clear hqy hqi hg l1 l4 w1' w16 hcap hc1 hc2 hqp hgw hroom hke HT1 HS2 HL HLB hm
  go_upto_region 6 with fail
  generalize hW : w3.alloc (.cells #[.slice (some ⟨g, o, none⟩) m c', .int .i64 win, .int .i64 cap] 67) = W at HBAD ⊢
  generalize w3.heap.size = bq at HBAD ⊢
  clear hW
  obtain ⟨fz, tv, pv, c0, c1, c2, c3, c4, c5⟩ := HBAD.out.qp.facts (k := k) HBAD.out.kl
  rw [HBAD.out.at] at c0 c2 c3 c4
  have d0 : W.cell? ⟨bq, 0, none⟩ = some (.slice (some ⟨g, o, none⟩) m c') := (HBAD.out.row.cell 0).trans rfl
  have d1 : W.cell? ⟨bq, 1, none⟩ = some (.int .i64 win) := (HBAD.out.row.cell 1).trans rfl
  have d2 : W.cell? ⟨bq, 2, none⟩ = some (.int .i64 cap) := (HBAD.out.row.cell 2).trans rfl
  have fq : ∀ i, W.frozen? ⟨bq, i, none⟩ = false := fun i => HBAD.out.row.free i
  have ne1 := HBAD.out.ne
  have ne2 : g ≠ bq := fun e => HBAD.out.ne e.symm
  have gl : g < W.heap.size := HBAD.out.lt
  have bl : bq < W.heap.size := HBAD.out.row.lt
  obtain ⟨kv, kt, kts, kn, ka, kb, kp, kl⟩ := ke
  dsimp only [toQ] at c0 c2 c3 c4
  go_wp2_with fail
  refine ((HBAD.out.fin (q := (es.map toQ).set k { toQ ⟨kv, kt, kts, kn, ka, kb, kp, kl⟩ with v := ⟨#[110, 111, 116]⟩ }) (by have h := HBAD.out.qp.putV HBAD.out.kl ⟨#[110, 111, 116]⟩; rw [HBAD.out.at] at h; exact h) (HBAD.out.len' _) (HBAD.out.putb _ _) win cap 1 (bad_3 HBAD.out.gg HBAD.out.l1' HBAD.out.l4' HBAD.out.ek win cap))).mono ?_
  rintro e w4 ⟨rfl, hb4⟩
  have HB4 := Lib.hid (HB2.out.trans (hb4.mono HB2.out.size))
  clear hb4 c0 c1 c2 c3 c4 c5 d0 d1 d2 fz fq ne1 ne2 gl bl HBAD hkmi hm4 hmz hmz2
  go_wp2_with fail
  refine (awake_any w4).mono ?_
  rintro e w5 ⟨rfl, hb5⟩
  have HB5 := Lib.hid (HB4.out.trans (hb5.mono HB4.out.size))
  clear hb5
  go_wp2
  go_ret
  exact ⟨rfl, HB5.out⟩
set_option maxHeartbeats 8000000 in
theorem bad_law4 (A : Option Addr) (n c : Nat) (f : Nat → Int) (ln : n ≤ c) (lc : c ≤ 9223372036854775807) (lb : ∀ k, -9223372036854775808 ≤ f k ∧ f k ≤ 9223372036854775807) {w : World} (ll : Lies w w.heap.size A n (fun k => .int .i64 (f k))) (kind N : Int) (z : Int) (hz : bits .and .i64 kind 31 = z) (hzc : z.tmod 15 = 4) (y : Int) (hy : bits .and .i64 N 255 = y) (y0 : 0 ≤ y) (y1 : y ≤ 255) :
    Calls Try.prog 7 #[.slice A n c, .int .i64 kind, .int .i64 N] w fun e w' => e = .returned (.bool true) ∧ Below w.heap.size w w' := by
  have HL := Lib.hid ll
  have HLB := Lib.hid lb
  clear ll lb
  go_enter Try.func7, Try.ntmps7
  go_wp2_with fail
  refine (types_any _).mono ?_
  rintro e w1 ⟨v1, rfl, ht1, hb1⟩
  have HT1 := Lib.hid ht1
  clear ht1
  go_wp2_with fail
  refine (new_any _ typesL _ _ HT1.out (Nat.le_refl _)).mono ?_
  rintro e w2 ⟨p, cc, rfl, hr, hsc, _, hb2⟩
  obtain rfl := typesL_ok hr
  have HS2 := Lib.hid (hsc rfl)
  have HB2 := Lib.hid (hb1.trans (hb2.mono hb1.size))
  clear hb1 hb2 hr hsc
  have hqy := Pq.query_any A n c f ln lc HLB.out w2 (lies_mono (HL.out.below HB2.out) HB2.out.size)
  go_wp2_with fail
  refine hqy.mono ?_
  unfold Pq.Made
  rintro e w3 ⟨v, win, cap, es, rfl, hqi, hg, l1, l4, w1', w16, hcap⟩
  obtain ⟨g, o, c', rfl, hc1, hc2, hqp, hgw, hroom⟩ := qp_qi hqi (by omega)
  obtain ⟨m, hm⟩ : ∃ m, es.length = m := ⟨_, rfl⟩
  obtain ⟨k, hk, hkm⟩ : ∃ k : Nat, y.tmod (m : Int) = (k : Int) ∧ k < m := ⟨(y.tmod (m : Int)).toNat, by
    rw [Int.tmod_eq_emod_of_nonneg y0]
    have := Int.emod_nonneg y (show (m : Int) ≠ 0 by omega)
    omega, by
    rw [Int.tmod_eq_emod_of_nonneg y0]
    have := Int.emod_lt_of_pos y (show (0 : Int) < m by omega)
    have := Int.emod_nonneg y (show (m : Int) ≠ 0 by omega)
    omega⟩
  obtain ⟨ke, hke⟩ : ∃ e, es[k]? = some e := ⟨_, List.getElem?_eq_getElem (show k < es.length by omega)⟩
  have HBAD : Hid (Bad w2 (w3.alloc (.cells #[.slice (some ⟨g, o, none⟩) m c', .int .i64 win, .int .i64 cap] 67)) p w3.heap.size g o m c' k win cap es ke) := Lib.hid
    { sc := HS2.out
      be := hqi.be.alloc hqi.be.size _
      row := Row.made _ _ _
      qp := hqp.call ((Below.refl _ _).alloc (Nat.le_refl _) _)
      ne := by obtain ⟨cs, hr, _⟩ := hqp; have := hr.lt; omega
      gg := hg
      len := hm
      l1 := by omega
      l4 := by omega
      mc := by omega
      cm := hc2
      wn := ⟨w1', w16⟩
      cp := by omega
      km := hkm
      ek := hke
      past := fun i u => by rw [World.setCell_alloc_new]; exact hqp.call ((Below.refl _ _).alloc (Nat.le_refl _) _)
      room := by obtain ⟨cs, h1, h2⟩ := hroom; exact ⟨cs, h1.alloc _, h2⟩
      bg := hgw
      bb := hqi.be.size }
  rw [hm]
  have hmz : ((m : Int) == 0) = false := by simp; omega
  have hmz2 : ¬ (m : Int) = 0 := by omega
  have hkmi : (k : Int) < (m : Int) := by omega
  have hm4 : m ≤ 4 := by omega
  clear hqy hqi hg l1 l4 w1' w16 hcap hc1 hc2 hqp hgw hroom hke HT1 HS2 HL HLB hm
  go_upto_region 6 with fail
  generalize hW : w3.alloc (.cells #[.slice (some ⟨g, o, none⟩) m c', .int .i64 win, .int .i64 cap] 67) = W at HBAD ⊢
  generalize w3.heap.size = bq at HBAD ⊢
  clear hW
  obtain ⟨fz, tv, pv, c0, c1, c2, c3, c4, c5⟩ := HBAD.out.qp.facts (k := k) HBAD.out.kl
  rw [HBAD.out.at] at c0 c2 c3 c4
  have d0 : W.cell? ⟨bq, 0, none⟩ = some (.slice (some ⟨g, o, none⟩) m c') := (HBAD.out.row.cell 0).trans rfl
  have d1 : W.cell? ⟨bq, 1, none⟩ = some (.int .i64 win) := (HBAD.out.row.cell 1).trans rfl
  have d2 : W.cell? ⟨bq, 2, none⟩ = some (.int .i64 cap) := (HBAD.out.row.cell 2).trans rfl
  have fq : ∀ i, W.frozen? ⟨bq, i, none⟩ = false := fun i => HBAD.out.row.free i
  have ne1 := HBAD.out.ne
  have ne2 : g ≠ bq := fun e => HBAD.out.ne e.symm
  have gl : g < W.heap.size := HBAD.out.lt
  have bl : bq < W.heap.size := HBAD.out.row.lt
  obtain ⟨kv, kt, kts, kn, ka, kb, kp, kl⟩ := ke
  dsimp only [toQ] at c0 c2 c3 c4
  go_wp2_with fail
  refine ((HBAD.out.fin (q := (es.map toQ).set k { toQ ⟨kv, kt, kts, kn, ka, kb, kp, kl⟩ with mn := 0 }) (by have h := HBAD.out.qp.putMn HBAD.out.kl 0; rw [HBAD.out.at] at h; exact h) (HBAD.out.len' _) (HBAD.out.putb _ _) win cap 1 (bad_4 HBAD.out.gg HBAD.out.l1' HBAD.out.l4' HBAD.out.ek win cap))).mono ?_
  rintro e w4 ⟨rfl, hb4⟩
  have HB4 := Lib.hid (HB2.out.trans (hb4.mono HB2.out.size))
  clear hb4 c0 c1 c2 c3 c4 c5 d0 d1 d2 fz fq ne1 ne2 gl bl HBAD hkmi hm4 hmz hmz2
  go_wp2_with fail
  refine (awake_any w4).mono ?_
  rintro e w5 ⟨rfl, hb5⟩
  have HB5 := Lib.hid (HB4.out.trans (hb5.mono HB4.out.size))
  clear hb5
  go_wp2
  go_ret
  exact ⟨rfl, HB5.out⟩
set_option maxHeartbeats 8000000 in
theorem bad_law5 (A : Option Addr) (n c : Nat) (f : Nat → Int) (ln : n ≤ c) (lc : c ≤ 9223372036854775807) (lb : ∀ k, -9223372036854775808 ≤ f k ∧ f k ≤ 9223372036854775807) {w : World} (ll : Lies w w.heap.size A n (fun k => .int .i64 (f k))) (kind N : Int) (z : Int) (hz : bits .and .i64 kind 31 = z) (hzc : z.tmod 15 = 5) (y : Int) (hy : bits .and .i64 N 255 = y) (y0 : 0 ≤ y) (y1 : y ≤ 255) :
    Calls Try.prog 7 #[.slice A n c, .int .i64 kind, .int .i64 N] w fun e w' => e = .returned (.bool true) ∧ Below w.heap.size w w' := by
  have HL := Lib.hid ll
  have HLB := Lib.hid lb
  clear ll lb
  go_enter Try.func7, Try.ntmps7
  go_wp2_with fail
  refine (types_any _).mono ?_
  rintro e w1 ⟨v1, rfl, ht1, hb1⟩
  have HT1 := Lib.hid ht1
  clear ht1
  go_wp2_with fail
  refine (new_any _ typesL _ _ HT1.out (Nat.le_refl _)).mono ?_
  rintro e w2 ⟨p, cc, rfl, hr, hsc, _, hb2⟩
  obtain rfl := typesL_ok hr
  have HS2 := Lib.hid (hsc rfl)
  have HB2 := Lib.hid (hb1.trans (hb2.mono hb1.size))
  clear hb1 hb2 hr hsc
  have hqy := Pq.query_any A n c f ln lc HLB.out w2 (lies_mono (HL.out.below HB2.out) HB2.out.size)
  go_wp2_with fail
  refine hqy.mono ?_
  unfold Pq.Made
  rintro e w3 ⟨v, win, cap, es, rfl, hqi, hg, l1, l4, w1', w16, hcap⟩
  obtain ⟨g, o, c', rfl, hc1, hc2, hqp, hgw, hroom⟩ := qp_qi hqi (by omega)
  obtain ⟨m, hm⟩ : ∃ m, es.length = m := ⟨_, rfl⟩
  obtain ⟨k, hk, hkm⟩ : ∃ k : Nat, y.tmod (m : Int) = (k : Int) ∧ k < m := ⟨(y.tmod (m : Int)).toNat, by
    rw [Int.tmod_eq_emod_of_nonneg y0]
    have := Int.emod_nonneg y (show (m : Int) ≠ 0 by omega)
    omega, by
    rw [Int.tmod_eq_emod_of_nonneg y0]
    have := Int.emod_lt_of_pos y (show (0 : Int) < m by omega)
    have := Int.emod_nonneg y (show (m : Int) ≠ 0 by omega)
    omega⟩
  obtain ⟨ke, hke⟩ : ∃ e, es[k]? = some e := ⟨_, List.getElem?_eq_getElem (show k < es.length by omega)⟩
  have HBAD : Hid (Bad w2 (w3.alloc (.cells #[.slice (some ⟨g, o, none⟩) m c', .int .i64 win, .int .i64 cap] 67)) p w3.heap.size g o m c' k win cap es ke) := Lib.hid
    { sc := HS2.out
      be := hqi.be.alloc hqi.be.size _
      row := Row.made _ _ _
      qp := hqp.call ((Below.refl _ _).alloc (Nat.le_refl _) _)
      ne := by obtain ⟨cs, hr, _⟩ := hqp; have := hr.lt; omega
      gg := hg
      len := hm
      l1 := by omega
      l4 := by omega
      mc := by omega
      cm := hc2
      wn := ⟨w1', w16⟩
      cp := by omega
      km := hkm
      ek := hke
      past := fun i u => by rw [World.setCell_alloc_new]; exact hqp.call ((Below.refl _ _).alloc (Nat.le_refl _) _)
      room := by obtain ⟨cs, h1, h2⟩ := hroom; exact ⟨cs, h1.alloc _, h2⟩
      bg := hgw
      bb := hqi.be.size }
  rw [hm]
  have hmz : ((m : Int) == 0) = false := by simp; omega
  have hmz2 : ¬ (m : Int) = 0 := by omega
  have hkmi : (k : Int) < (m : Int) := by omega
  have hm4 : m ≤ 4 := by omega
  clear hqy hqi hg l1 l4 w1' w16 hcap hc1 hc2 hqp hgw hroom hke HT1 HS2 HL HLB hm
  go_upto_region 6 with fail
  generalize hW : w3.alloc (.cells #[.slice (some ⟨g, o, none⟩) m c', .int .i64 win, .int .i64 cap] 67) = W at HBAD ⊢
  generalize w3.heap.size = bq at HBAD ⊢
  clear hW
  obtain ⟨fz, tv, pv, c0, c1, c2, c3, c4, c5⟩ := HBAD.out.qp.facts (k := k) HBAD.out.kl
  rw [HBAD.out.at] at c0 c2 c3 c4
  have d0 : W.cell? ⟨bq, 0, none⟩ = some (.slice (some ⟨g, o, none⟩) m c') := (HBAD.out.row.cell 0).trans rfl
  have d1 : W.cell? ⟨bq, 1, none⟩ = some (.int .i64 win) := (HBAD.out.row.cell 1).trans rfl
  have d2 : W.cell? ⟨bq, 2, none⟩ = some (.int .i64 cap) := (HBAD.out.row.cell 2).trans rfl
  have fq : ∀ i, W.frozen? ⟨bq, i, none⟩ = false := fun i => HBAD.out.row.free i
  have ne1 := HBAD.out.ne
  have ne2 : g ≠ bq := fun e => HBAD.out.ne e.symm
  have gl : g < W.heap.size := HBAD.out.lt
  have bl : bq < W.heap.size := HBAD.out.row.lt
  obtain ⟨kv, kt, kts, kn, ka, kb, kp, kl⟩ := ke
  dsimp only [toQ] at c0 c2 c3 c4
  cases kn with
  | false =>
    go_wp2_with fail
    refine ((HBAD.out.fin (q := (es.map toQ).set k { toQ ⟨kv, kt, kts, false, ka, kb, kp, kl⟩ with mx := 5 }) (by have h := HBAD.out.qp.putMx HBAD.out.kl 5; rw [HBAD.out.at] at h; exact h) (HBAD.out.len' _) (HBAD.out.putb _ _) win cap 1 (bad_5p HBAD.out.gg HBAD.out.l1' HBAD.out.l4' HBAD.out.ek win cap rfl))).mono ?_
    rintro e w4 ⟨rfl, hb4⟩
    have HB4 := Lib.hid (HB2.out.trans (hb4.mono HB2.out.size))
    clear hb4 c0 c1 c2 c3 c4 c5 d0 d1 d2 fz fq ne1 ne2 gl bl HBAD hkmi hm4 hmz hmz2
    go_wp2_with fail
    refine (awake_any w4).mono ?_
    rintro e w5 ⟨rfl, hb5⟩
    have HB5 := Lib.hid (HB4.out.trans (hb5.mono HB4.out.size))
    clear hb5
    go_wp2
    go_ret
    exact ⟨rfl, HB5.out⟩
  | true =>
    go_wp2_with fail
    refine ((HBAD.out.fin (q := (es.map toQ).set k { toQ ⟨kv, kt, kts, true, ka, kb, kp, kl⟩ with mx := 2 }) (by have h := (HBAD.out.qp.putMx HBAD.out.kl 5).putMx (k := k) (by rw [List.length_set]; exact HBAD.out.kl) 2; rw [List.getElem_set_self, List.set_set, HBAD.out.at] at h; exact h) (HBAD.out.len' _) ((HBAD.out.putb _ _).setCell (p := ⟨g, _, none⟩) HBAD.out.bg _) win cap 1 (bad_5n HBAD.out.gg HBAD.out.l1' HBAD.out.l4' HBAD.out.ek win cap rfl))).mono ?_
    rintro e w4 ⟨rfl, hb4⟩
    have HB4 := Lib.hid (HB2.out.trans (hb4.mono HB2.out.size))
    clear hb4 c0 c1 c2 c3 c4 c5 d0 d1 d2 fz fq ne1 ne2 gl bl HBAD hkmi hm4 hmz hmz2
    go_wp2_with fail
    refine (awake_any w4).mono ?_
    rintro e w5 ⟨rfl, hb5⟩
    have HB5 := Lib.hid (HB4.out.trans (hb5.mono HB4.out.size))
    clear hb5
    go_wp2
    go_ret
    exact ⟨rfl, HB5.out⟩
set_option maxHeartbeats 8000000 in
theorem bad_law6 (A : Option Addr) (n c : Nat) (f : Nat → Int) (ln : n ≤ c) (lc : c ≤ 9223372036854775807) (lb : ∀ k, -9223372036854775808 ≤ f k ∧ f k ≤ 9223372036854775807) {w : World} (ll : Lies w w.heap.size A n (fun k => .int .i64 (f k))) (kind N : Int) (z : Int) (hz : bits .and .i64 kind 31 = z) (hzc : z.tmod 15 = 6) (y : Int) (hy : bits .and .i64 N 255 = y) (y0 : 0 ≤ y) (y1 : y ≤ 255) :
    Calls Try.prog 7 #[.slice A n c, .int .i64 kind, .int .i64 N] w fun e w' => e = .returned (.bool true) ∧ Below w.heap.size w w' := by
  have HL := Lib.hid ll
  have HLB := Lib.hid lb
  clear ll lb
  go_enter Try.func7, Try.ntmps7
  go_wp2_with fail
  refine (types_any _).mono ?_
  rintro e w1 ⟨v1, rfl, ht1, hb1⟩
  have HT1 := Lib.hid ht1
  clear ht1
  go_wp2_with fail
  refine (new_any _ typesL _ _ HT1.out (Nat.le_refl _)).mono ?_
  rintro e w2 ⟨p, cc, rfl, hr, hsc, _, hb2⟩
  obtain rfl := typesL_ok hr
  have HS2 := Lib.hid (hsc rfl)
  have HB2 := Lib.hid (hb1.trans (hb2.mono hb1.size))
  clear hb1 hb2 hr hsc
  have hqy := Pq.query_any A n c f ln lc HLB.out w2 (lies_mono (HL.out.below HB2.out) HB2.out.size)
  go_wp2_with fail
  refine hqy.mono ?_
  unfold Pq.Made
  rintro e w3 ⟨v, win, cap, es, rfl, hqi, hg, l1, l4, w1', w16, hcap⟩
  obtain ⟨g, o, c', rfl, hc1, hc2, hqp, hgw, hroom⟩ := qp_qi hqi (by omega)
  obtain ⟨m, hm⟩ : ∃ m, es.length = m := ⟨_, rfl⟩
  obtain ⟨k, hk, hkm⟩ : ∃ k : Nat, y.tmod (m : Int) = (k : Int) ∧ k < m := ⟨(y.tmod (m : Int)).toNat, by
    rw [Int.tmod_eq_emod_of_nonneg y0]
    have := Int.emod_nonneg y (show (m : Int) ≠ 0 by omega)
    omega, by
    rw [Int.tmod_eq_emod_of_nonneg y0]
    have := Int.emod_lt_of_pos y (show (0 : Int) < m by omega)
    have := Int.emod_nonneg y (show (m : Int) ≠ 0 by omega)
    omega⟩
  obtain ⟨ke, hke⟩ : ∃ e, es[k]? = some e := ⟨_, List.getElem?_eq_getElem (show k < es.length by omega)⟩
  have HBAD : Hid (Bad w2 (w3.alloc (.cells #[.slice (some ⟨g, o, none⟩) m c', .int .i64 win, .int .i64 cap] 67)) p w3.heap.size g o m c' k win cap es ke) := Lib.hid
    { sc := HS2.out
      be := hqi.be.alloc hqi.be.size _
      row := Row.made _ _ _
      qp := hqp.call ((Below.refl _ _).alloc (Nat.le_refl _) _)
      ne := by obtain ⟨cs, hr, _⟩ := hqp; have := hr.lt; omega
      gg := hg
      len := hm
      l1 := by omega
      l4 := by omega
      mc := by omega
      cm := hc2
      wn := ⟨w1', w16⟩
      cp := by omega
      km := hkm
      ek := hke
      past := fun i u => by rw [World.setCell_alloc_new]; exact hqp.call ((Below.refl _ _).alloc (Nat.le_refl _) _)
      room := by obtain ⟨cs, h1, h2⟩ := hroom; exact ⟨cs, h1.alloc _, h2⟩
      bg := hgw
      bb := hqi.be.size }
  rw [hm]
  have hmz : ((m : Int) == 0) = false := by simp; omega
  have hmz2 : ¬ (m : Int) = 0 := by omega
  have hkmi : (k : Int) < (m : Int) := by omega
  have hm4 : m ≤ 4 := by omega
  clear hqy hqi hg l1 l4 w1' w16 hcap hc1 hc2 hqp hgw hroom hke HT1 HS2 HL HLB hm
  go_upto_region 6 with fail
  generalize hW : w3.alloc (.cells #[.slice (some ⟨g, o, none⟩) m c', .int .i64 win, .int .i64 cap] 67) = W at HBAD ⊢
  generalize w3.heap.size = bq at HBAD ⊢
  clear hW
  obtain ⟨fz, tv, pv, c0, c1, c2, c3, c4, c5⟩ := HBAD.out.qp.facts (k := k) HBAD.out.kl
  rw [HBAD.out.at] at c0 c2 c3 c4
  have d0 : W.cell? ⟨bq, 0, none⟩ = some (.slice (some ⟨g, o, none⟩) m c') := (HBAD.out.row.cell 0).trans rfl
  have d1 : W.cell? ⟨bq, 1, none⟩ = some (.int .i64 win) := (HBAD.out.row.cell 1).trans rfl
  have d2 : W.cell? ⟨bq, 2, none⟩ = some (.int .i64 cap) := (HBAD.out.row.cell 2).trans rfl
  have fq : ∀ i, W.frozen? ⟨bq, i, none⟩ = false := fun i => HBAD.out.row.free i
  have ne1 := HBAD.out.ne
  have ne2 : g ≠ bq := fun e => HBAD.out.ne e.symm
  have gl : g < W.heap.size := HBAD.out.lt
  have bl : bq < W.heap.size := HBAD.out.row.lt
  obtain ⟨kv, kt, kts, kn, ka, kb, kp, kl⟩ := ke
  dsimp only [toQ] at c0 c2 c3 c4
  go_wp2_with fail
  refine ((HBAD.out.fin (q := (es.map toQ).set k { toQ ⟨kv, kt, kts, kn, ka, kb, kp, kl⟩ with mn := 2, mx := 1 }) (by have h := (HBAD.out.qp.putMn HBAD.out.kl 2).putMx (k := k) (by rw [List.length_set]; exact HBAD.out.kl) 1; rw [List.getElem_set_self, List.set_set, HBAD.out.at] at h; exact h) (HBAD.out.len' _) ((HBAD.out.putb _ _).setCell (p := ⟨g, _, none⟩) HBAD.out.bg _) win cap 1 (bad_6 HBAD.out.gg HBAD.out.l1' HBAD.out.l4' HBAD.out.ek win cap))).mono ?_
  rintro e w4 ⟨rfl, hb4⟩
  have HB4 := Lib.hid (HB2.out.trans (hb4.mono HB2.out.size))
  clear hb4 c0 c1 c2 c3 c4 c5 d0 d1 d2 fz fq ne1 ne2 gl bl HBAD hkmi hm4 hmz hmz2
  go_wp2_with fail
  refine (awake_any w4).mono ?_
  rintro e w5 ⟨rfl, hb5⟩
  have HB5 := Lib.hid (HB4.out.trans (hb5.mono HB4.out.size))
  clear hb5
  go_wp2
  go_ret
  exact ⟨rfl, HB5.out⟩
end Go.Proofs.Ytopbildpeojgoaa.Ck
end

section
namespace Go.Proofs.Ytopbildpeojgoaa.Ck
open Go.RowKit Go.Proofs.Ytopbildpeojgoaa Go.Proofs.Ytopbildpeojgoaa.Sch Go.Proofs.Ytopbildpeojgoaa.Ty
set_option linter.unusedVariables false
set_option maxRecDepth 100000
set_option maxHeartbeats 8000000 in
theorem bad_law7 (A : Option Addr) (n c : Nat) (f : Nat → Int) (ln : n ≤ c) (lc : c ≤ 9223372036854775807) (lb : ∀ k, -9223372036854775808 ≤ f k ∧ f k ≤ 9223372036854775807) {w : World} (ll : Lies w w.heap.size A n (fun k => .int .i64 (f k))) (kind N : Int) (z : Int) (hz : bits .and .i64 kind 31 = z) (hzc : z.tmod 15 = 7) (y : Int) (hy : bits .and .i64 N 255 = y) (y0 : 0 ≤ y) (y1 : y ≤ 255) :
    Calls Try.prog 7 #[.slice A n c, .int .i64 kind, .int .i64 N] w fun e w' => e = .returned (.bool true) ∧ Below w.heap.size w w' := by
  have HL := Lib.hid ll
  have HLB := Lib.hid lb
  clear ll lb
  go_enter Try.func7, Try.ntmps7
  go_wp2_with fail
  refine (types_any _).mono ?_
  rintro e w1 ⟨v1, rfl, ht1, hb1⟩
  have HT1 := Lib.hid ht1
  clear ht1
  go_wp2_with fail
  refine (new_any _ typesL _ _ HT1.out (Nat.le_refl _)).mono ?_
  rintro e w2 ⟨p, cc, rfl, hr, hsc, _, hb2⟩
  obtain rfl := typesL_ok hr
  have HS2 := Lib.hid (hsc rfl)
  have HB2 := Lib.hid (hb1.trans (hb2.mono hb1.size))
  clear hb1 hb2 hr hsc
  have hqy := Pq.query_any A n c f ln lc HLB.out w2 (lies_mono (HL.out.below HB2.out) HB2.out.size)
  go_wp2_with fail
  refine hqy.mono ?_
  unfold Pq.Made
  rintro e w3 ⟨v, win, cap, es, rfl, hqi, hg, l1, l4, w1', w16, hcap⟩
  obtain ⟨g, o, c', rfl, hc1, hc2, hqp, hgw, hroom⟩ := qp_qi hqi (by omega)
  obtain ⟨m, hm⟩ : ∃ m, es.length = m := ⟨_, rfl⟩
  obtain ⟨k, hk, hkm⟩ : ∃ k : Nat, y.tmod (m : Int) = (k : Int) ∧ k < m := ⟨(y.tmod (m : Int)).toNat, by
    rw [Int.tmod_eq_emod_of_nonneg y0]
    have := Int.emod_nonneg y (show (m : Int) ≠ 0 by omega)
    omega, by
    rw [Int.tmod_eq_emod_of_nonneg y0]
    have := Int.emod_lt_of_pos y (show (0 : Int) < m by omega)
    have := Int.emod_nonneg y (show (m : Int) ≠ 0 by omega)
    omega⟩
  obtain ⟨ke, hke⟩ : ∃ e, es[k]? = some e := ⟨_, List.getElem?_eq_getElem (show k < es.length by omega)⟩
  have HBAD : Hid (Bad w2 (w3.alloc (.cells #[.slice (some ⟨g, o, none⟩) m c', .int .i64 win, .int .i64 cap] 67)) p w3.heap.size g o m c' k win cap es ke) := Lib.hid
    { sc := HS2.out
      be := hqi.be.alloc hqi.be.size _
      row := Row.made _ _ _
      qp := hqp.call ((Below.refl _ _).alloc (Nat.le_refl _) _)
      ne := by obtain ⟨cs, hr, _⟩ := hqp; have := hr.lt; omega
      gg := hg
      len := hm
      l1 := by omega
      l4 := by omega
      mc := by omega
      cm := hc2
      wn := ⟨w1', w16⟩
      cp := by omega
      km := hkm
      ek := hke
      past := fun i u => by rw [World.setCell_alloc_new]; exact hqp.call ((Below.refl _ _).alloc (Nat.le_refl _) _)
      room := by obtain ⟨cs, h1, h2⟩ := hroom; exact ⟨cs, h1.alloc _, h2⟩
      bg := hgw
      bb := hqi.be.size }
  rw [hm]
  have hmz : ((m : Int) == 0) = false := by simp; omega
  have hmz2 : ¬ (m : Int) = 0 := by omega
  have hkmi : (k : Int) < (m : Int) := by omega
  have hm4 : m ≤ 4 := by omega
  clear hqy hqi hg l1 l4 w1' w16 hcap hc1 hc2 hqp hgw hroom hke HT1 HS2 HL HLB hm
  go_upto_region 6 with fail
  generalize hW : w3.alloc (.cells #[.slice (some ⟨g, o, none⟩) m c', .int .i64 win, .int .i64 cap] 67) = W at HBAD ⊢
  generalize w3.heap.size = bq at HBAD ⊢
  clear hW
  obtain ⟨fz, tv, pv, c0, c1, c2, c3, c4, c5⟩ := HBAD.out.qp.facts (k := k) HBAD.out.kl
  rw [HBAD.out.at] at c0 c2 c3 c4
  have d0 : W.cell? ⟨bq, 0, none⟩ = some (.slice (some ⟨g, o, none⟩) m c') := (HBAD.out.row.cell 0).trans rfl
  have d1 : W.cell? ⟨bq, 1, none⟩ = some (.int .i64 win) := (HBAD.out.row.cell 1).trans rfl
  have d2 : W.cell? ⟨bq, 2, none⟩ = some (.int .i64 cap) := (HBAD.out.row.cell 2).trans rfl
  have fq : ∀ i, W.frozen? ⟨bq, i, none⟩ = false := fun i => HBAD.out.row.free i
  have ne1 := HBAD.out.ne
  have ne2 : g ≠ bq := fun e => HBAD.out.ne e.symm
  have gl : g < W.heap.size := HBAD.out.lt
  have bl : bq < W.heap.size := HBAD.out.row.lt
  obtain ⟨kv, kt, kts, kn, ka, kb, kp, kl⟩ := ke
  dsimp only [toQ] at c0 c2 c3 c4
  have hk0 : 0 < (es.map toQ).length := by have := HBAD.out.kl; omega
  obtain ⟨_, tv0, pv0, a0, a1, a2, a3, a4, a5⟩ := HBAD.out.qp.facts (k := 0) hk0
  rw [Nat.zero_mul, Nat.add_zero] at a2
  have hm0 : (0 : Int) < (m : Int) := by omega
  clear a0 a1 a3 a4 a5
  generalize (es.map toQ)[0].neg = nb at a2
  go_wp2_with fail
  refine ((HBAD.out.fin (q := (es.map toQ).set 0 { (es.map toQ)[0] with neg := true }) (by have h := HBAD.out.qp.putN (k := 0) hk0 true; rw [Nat.zero_mul, Nat.add_zero] at h; exact h) (by rw [List.length_set, List.length_map]; exact HBAD.out.len) (HBAD.out.putb _ _) win cap 1 (bad_7 (by rw [List.length_map]; exact HBAD.out.l1') (by rw [List.length_map]; exact HBAD.out.l4') rfl win cap))).mono ?_
  rintro e w4 ⟨rfl, hb4⟩
  have HB4 := Lib.hid (HB2.out.trans (hb4.mono HB2.out.size))
  clear hb4 a2 c0 c1 c2 c3 c4 c5 d0 d1 d2 fz fq ne1 ne2 gl bl HBAD hkmi hm4 hmz hmz2
  go_wp2_with fail
  refine (awake_any w4).mono ?_
  rintro e w5 ⟨rfl, hb5⟩
  have HB5 := Lib.hid (HB4.out.trans (hb5.mono HB4.out.size))
  clear hb5
  go_wp2
  go_ret
  exact ⟨rfl, HB5.out⟩
set_option maxHeartbeats 8000000 in
theorem bad_law8 (A : Option Addr) (n c : Nat) (f : Nat → Int) (ln : n ≤ c) (lc : c ≤ 9223372036854775807) (lb : ∀ k, -9223372036854775808 ≤ f k ∧ f k ≤ 9223372036854775807) {w : World} (ll : Lies w w.heap.size A n (fun k => .int .i64 (f k))) (kind N : Int) (z : Int) (hz : bits .and .i64 kind 31 = z) (hzc : z.tmod 15 = 8) (y : Int) (hy : bits .and .i64 N 255 = y) (y0 : 0 ≤ y) (y1 : y ≤ 255) :
    Calls Try.prog 7 #[.slice A n c, .int .i64 kind, .int .i64 N] w fun e w' => e = .returned (.bool true) ∧ Below w.heap.size w w' := by
  have HL := Lib.hid ll
  have HLB := Lib.hid lb
  clear ll lb
  go_enter Try.func7, Try.ntmps7
  go_wp2_with fail
  refine (types_any _).mono ?_
  rintro e w1 ⟨v1, rfl, ht1, hb1⟩
  have HT1 := Lib.hid ht1
  clear ht1
  go_wp2_with fail
  refine (new_any _ typesL _ _ HT1.out (Nat.le_refl _)).mono ?_
  rintro e w2 ⟨p, cc, rfl, hr, hsc, _, hb2⟩
  obtain rfl := typesL_ok hr
  have HS2 := Lib.hid (hsc rfl)
  have HB2 := Lib.hid (hb1.trans (hb2.mono hb1.size))
  clear hb1 hb2 hr hsc
  have hqy := Pq.query_any A n c f ln lc HLB.out w2 (lies_mono (HL.out.below HB2.out) HB2.out.size)
  go_wp2_with fail
  refine hqy.mono ?_
  unfold Pq.Made
  rintro e w3 ⟨v, win, cap, es, rfl, hqi, hg, l1, l4, w1', w16, hcap⟩
  obtain ⟨g, o, c', rfl, hc1, hc2, hqp, hgw, hroom⟩ := qp_qi hqi (by omega)
  obtain ⟨m, hm⟩ : ∃ m, es.length = m := ⟨_, rfl⟩
  obtain ⟨k, hk, hkm⟩ : ∃ k : Nat, y.tmod (m : Int) = (k : Int) ∧ k < m := ⟨(y.tmod (m : Int)).toNat, by
    rw [Int.tmod_eq_emod_of_nonneg y0]
    have := Int.emod_nonneg y (show (m : Int) ≠ 0 by omega)
    omega, by
    rw [Int.tmod_eq_emod_of_nonneg y0]
    have := Int.emod_lt_of_pos y (show (0 : Int) < m by omega)
    have := Int.emod_nonneg y (show (m : Int) ≠ 0 by omega)
    omega⟩
  obtain ⟨ke, hke⟩ : ∃ e, es[k]? = some e := ⟨_, List.getElem?_eq_getElem (show k < es.length by omega)⟩
  have HBAD : Hid (Bad w2 (w3.alloc (.cells #[.slice (some ⟨g, o, none⟩) m c', .int .i64 win, .int .i64 cap] 67)) p w3.heap.size g o m c' k win cap es ke) := Lib.hid
    { sc := HS2.out
      be := hqi.be.alloc hqi.be.size _
      row := Row.made _ _ _
      qp := hqp.call ((Below.refl _ _).alloc (Nat.le_refl _) _)
      ne := by obtain ⟨cs, hr, _⟩ := hqp; have := hr.lt; omega
      gg := hg
      len := hm
      l1 := by omega
      l4 := by omega
      mc := by omega
      cm := hc2
      wn := ⟨w1', w16⟩
      cp := by omega
      km := hkm
      ek := hke
      past := fun i u => by rw [World.setCell_alloc_new]; exact hqp.call ((Below.refl _ _).alloc (Nat.le_refl _) _)
      room := by obtain ⟨cs, h1, h2⟩ := hroom; exact ⟨cs, h1.alloc _, h2⟩
      bg := hgw
      bb := hqi.be.size }
  rw [hm]
  have hmz : ((m : Int) == 0) = false := by simp; omega
  have hmz2 : ¬ (m : Int) = 0 := by omega
  have hkmi : (k : Int) < (m : Int) := by omega
  have hm4 : m ≤ 4 := by omega
  clear hqy hqi hg l1 l4 w1' w16 hcap hc1 hc2 hqp hgw hroom hke HT1 HS2 HL HLB hm
  go_upto_region 6 with fail
  generalize hW : w3.alloc (.cells #[.slice (some ⟨g, o, none⟩) m c', .int .i64 win, .int .i64 cap] 67) = W at HBAD ⊢
  generalize w3.heap.size = bq at HBAD ⊢
  clear hW
  obtain ⟨fz, tv, pv, c0, c1, c2, c3, c4, c5⟩ := HBAD.out.qp.facts (k := k) HBAD.out.kl
  rw [HBAD.out.at] at c0 c2 c3 c4
  have d0 : W.cell? ⟨bq, 0, none⟩ = some (.slice (some ⟨g, o, none⟩) m c') := (HBAD.out.row.cell 0).trans rfl
  have d1 : W.cell? ⟨bq, 1, none⟩ = some (.int .i64 win) := (HBAD.out.row.cell 1).trans rfl
  have d2 : W.cell? ⟨bq, 2, none⟩ = some (.int .i64 cap) := (HBAD.out.row.cell 2).trans rfl
  have fq : ∀ i, W.frozen? ⟨bq, i, none⟩ = false := fun i => HBAD.out.row.free i
  have ne1 := HBAD.out.ne
  have ne2 : g ≠ bq := fun e => HBAD.out.ne e.symm
  have gl : g < W.heap.size := HBAD.out.lt
  have bl : bq < W.heap.size := HBAD.out.row.lt
  obtain ⟨kv, kt, kts, kn, ka, kb, kp, kl⟩ := ke
  dsimp only [toQ] at c0 c2 c3 c4
  obtain ⟨m', rfl⟩ : ∃ m', m = m' + 1 := ⟨m - 1, by omega⟩
  have hlm : (es.map toQ).length = m' + 1 := by rw [List.length_map]; exact HBAD.out.len
  have hk0 : m' < (es.map toQ).length := by omega
  obtain ⟨_, tv0, pv0, a0, a1, a2, a3, a4, a5⟩ := HBAD.out.qp.facts (k := m') hk0
  have hwr : IntKind.i64.wrap (((m' + 1 : Nat) : Int) - 1) = (m' : Int) := by rw [IntKind.wrap_i64]; omega
  have hml : (m' : Int) < ((m' + 1 : Nat) : Int) := by omega
  clear a0 a1 a3 a4 a5
  generalize hnb : (es.map toQ)[m'].neg = nb at a2
  have HLM := Lib.hid hlm
  clear hlm hnb
  go_wp2_with fail
  refine ((HBAD.out.fin (q := (es.map toQ).set m' { (es.map toQ)[m'] with neg := true }) (HBAD.out.qp.putN (k := m') hk0 true) (by rw [List.length_set]; exact HLM.out) (HBAD.out.putb _ _) win cap 1 (by have := bad_8 (q := es.map toQ) (e' := { (es.map toQ)[m'] with neg := true }) (by rw [List.length_map]; exact HBAD.out.l1') (by rw [List.length_map]; exact HBAD.out.l4') rfl win cap; rw [HLM.out, Nat.add_sub_cancel] at this; exact this))).mono ?_
  rintro e w4 ⟨rfl, hb4⟩
  have HB4 := Lib.hid (HB2.out.trans (hb4.mono HB2.out.size))
  clear hb4 a2 hwr hml c0 c1 c2 c3 c4 c5 d0 d1 d2 fz fq ne1 ne2 gl bl HBAD hkmi hm4 hmz hmz2
  go_wp2_with fail
  refine (awake_any w4).mono ?_
  rintro e w5 ⟨rfl, hb5⟩
  have HB5 := Lib.hid (HB4.out.trans (hb5.mono HB4.out.size))
  clear hb5
  go_wp2
  go_ret
  exact ⟨rfl, HB5.out⟩
set_option maxHeartbeats 8000000 in
theorem bad_law9 (A : Option Addr) (n c : Nat) (f : Nat → Int) (ln : n ≤ c) (lc : c ≤ 9223372036854775807) (lb : ∀ k, -9223372036854775808 ≤ f k ∧ f k ≤ 9223372036854775807) {w : World} (ll : Lies w w.heap.size A n (fun k => .int .i64 (f k))) (kind N : Int) (z : Int) (hz : bits .and .i64 kind 31 = z) (hzc : z.tmod 15 = 9) (y : Int) (hy : bits .and .i64 N 255 = y) (y0 : 0 ≤ y) (y1 : y ≤ 255) :
    Calls Try.prog 7 #[.slice A n c, .int .i64 kind, .int .i64 N] w fun e w' => e = .returned (.bool true) ∧ Below w.heap.size w w' := by
  have HL := Lib.hid ll
  have HLB := Lib.hid lb
  clear ll lb
  go_enter Try.func7, Try.ntmps7
  go_wp2_with fail
  refine (types_any _).mono ?_
  rintro e w1 ⟨v1, rfl, ht1, hb1⟩
  have HT1 := Lib.hid ht1
  clear ht1
  go_wp2_with fail
  refine (new_any _ typesL _ _ HT1.out (Nat.le_refl _)).mono ?_
  rintro e w2 ⟨p, cc, rfl, hr, hsc, _, hb2⟩
  obtain rfl := typesL_ok hr
  have HS2 := Lib.hid (hsc rfl)
  have HB2 := Lib.hid (hb1.trans (hb2.mono hb1.size))
  clear hb1 hb2 hr hsc
  have hqy := Pq.query_any A n c f ln lc HLB.out w2 (lies_mono (HL.out.below HB2.out) HB2.out.size)
  go_wp2_with fail
  refine hqy.mono ?_
  unfold Pq.Made
  rintro e w3 ⟨v, win, cap, es, rfl, hqi, hg, l1, l4, w1', w16, hcap⟩
  obtain ⟨g, o, c', rfl, hc1, hc2, hqp, hgw, hroom⟩ := qp_qi hqi (by omega)
  obtain ⟨m, hm⟩ : ∃ m, es.length = m := ⟨_, rfl⟩
  obtain ⟨k, hk, hkm⟩ : ∃ k : Nat, y.tmod (m : Int) = (k : Int) ∧ k < m := ⟨(y.tmod (m : Int)).toNat, by
    rw [Int.tmod_eq_emod_of_nonneg y0]
    have := Int.emod_nonneg y (show (m : Int) ≠ 0 by omega)
    omega, by
    rw [Int.tmod_eq_emod_of_nonneg y0]
    have := Int.emod_lt_of_pos y (show (0 : Int) < m by omega)
    have := Int.emod_nonneg y (show (m : Int) ≠ 0 by omega)
    omega⟩
  obtain ⟨ke, hke⟩ : ∃ e, es[k]? = some e := ⟨_, List.getElem?_eq_getElem (show k < es.length by omega)⟩
  have HBAD : Hid (Bad w2 (w3.alloc (.cells #[.slice (some ⟨g, o, none⟩) m c', .int .i64 win, .int .i64 cap] 67)) p w3.heap.size g o m c' k win cap es ke) := Lib.hid
    { sc := HS2.out
      be := hqi.be.alloc hqi.be.size _
      row := Row.made _ _ _
      qp := hqp.call ((Below.refl _ _).alloc (Nat.le_refl _) _)
      ne := by obtain ⟨cs, hr, _⟩ := hqp; have := hr.lt; omega
      gg := hg
      len := hm
      l1 := by omega
      l4 := by omega
      mc := by omega
      cm := hc2
      wn := ⟨w1', w16⟩
      cp := by omega
      km := hkm
      ek := hke
      past := fun i u => by rw [World.setCell_alloc_new]; exact hqp.call ((Below.refl _ _).alloc (Nat.le_refl _) _)
      room := by obtain ⟨cs, h1, h2⟩ := hroom; exact ⟨cs, h1.alloc _, h2⟩
      bg := hgw
      bb := hqi.be.size }
  rw [hm]
  have hmz : ((m : Int) == 0) = false := by simp; omega
  have hmz2 : ¬ (m : Int) = 0 := by omega
  have hkmi : (k : Int) < (m : Int) := by omega
  have hm4 : m ≤ 4 := by omega
  clear hqy hqi hg l1 l4 w1' w16 hcap hc1 hc2 hqp hgw hroom hke HT1 HS2 HL HLB hm
  go_upto_region 6 with fail
  generalize hW : w3.alloc (.cells #[.slice (some ⟨g, o, none⟩) m c', .int .i64 win, .int .i64 cap] 67) = W at HBAD ⊢
  generalize w3.heap.size = bq at HBAD ⊢
  clear hW
  obtain ⟨fz, tv, pv, c0, c1, c2, c3, c4, c5⟩ := HBAD.out.qp.facts (k := k) HBAD.out.kl
  rw [HBAD.out.at] at c0 c2 c3 c4
  have d0 : W.cell? ⟨bq, 0, none⟩ = some (.slice (some ⟨g, o, none⟩) m c') := (HBAD.out.row.cell 0).trans rfl
  have d1 : W.cell? ⟨bq, 1, none⟩ = some (.int .i64 win) := (HBAD.out.row.cell 1).trans rfl
  have d2 : W.cell? ⟨bq, 2, none⟩ = some (.int .i64 cap) := (HBAD.out.row.cell 2).trans rfl
  have fq : ∀ i, W.frozen? ⟨bq, i, none⟩ = false := fun i => HBAD.out.row.free i
  have ne1 := HBAD.out.ne
  have ne2 : g ≠ bq := fun e => HBAD.out.ne e.symm
  have gl : g < W.heap.size := HBAD.out.lt
  have bl : bq < W.heap.size := HBAD.out.row.lt
  obtain ⟨kv, kt, kts, kn, ka, kb, kp, kl⟩ := ke
  dsimp only [toQ] at c0 c2 c3 c4
  have hwr : IntKind.i64.wrap (-y) = -y := by rw [IntKind.wrap_i64]; omega
  go_wp2_with fail
  refine ((HBAD.out.fin (q := es.map toQ) (HBAD.out.past _ _) (by rw [List.length_map]; exact HBAD.out.len) (HBAD.out.be.setCell (p := ⟨bq, 1, none⟩) HBAD.out.bb _) (-y) cap 13 (by rw [bad_tail HBAD.out.gg HBAD.out.l1' HBAD.out.l4']; have := HBAD.out.wn; have := HBAD.out.cp; exact if_pos (by omega)))).mono ?_
  rintro e w4 ⟨rfl, hb4⟩
  have HB4 := Lib.hid (HB2.out.trans (hb4.mono HB2.out.size))
  clear hb4 c0 c1 c2 c3 c4 c5 d0 d1 d2 fz fq ne1 ne2 gl bl HBAD hkmi hm4 hmz hmz2
  go_wp2_with fail
  refine (awake_any w4).mono ?_
  rintro e w5 ⟨rfl, hb5⟩
  have HB5 := Lib.hid (HB4.out.trans (hb5.mono HB4.out.size))
  clear hb5
  go_wp2
  go_ret
  exact ⟨rfl, HB5.out⟩
set_option maxHeartbeats 8000000 in
theorem bad_law10 (A : Option Addr) (n c : Nat) (f : Nat → Int) (ln : n ≤ c) (lc : c ≤ 9223372036854775807) (lb : ∀ k, -9223372036854775808 ≤ f k ∧ f k ≤ 9223372036854775807) {w : World} (ll : Lies w w.heap.size A n (fun k => .int .i64 (f k))) (kind N : Int) (z : Int) (hz : bits .and .i64 kind 31 = z) (hzc : z.tmod 15 = 10) (y : Int) (hy : bits .and .i64 N 255 = y) (y0 : 0 ≤ y) (y1 : y ≤ 255) :
    Calls Try.prog 7 #[.slice A n c, .int .i64 kind, .int .i64 N] w fun e w' => e = .returned (.bool true) ∧ Below w.heap.size w w' := by
  have HL := Lib.hid ll
  have HLB := Lib.hid lb
  clear ll lb
  go_enter Try.func7, Try.ntmps7
  go_wp2_with fail
  refine (types_any _).mono ?_
  rintro e w1 ⟨v1, rfl, ht1, hb1⟩
  have HT1 := Lib.hid ht1
  clear ht1
  go_wp2_with fail
  refine (new_any _ typesL _ _ HT1.out (Nat.le_refl _)).mono ?_
  rintro e w2 ⟨p, cc, rfl, hr, hsc, _, hb2⟩
  obtain rfl := typesL_ok hr
  have HS2 := Lib.hid (hsc rfl)
  have HB2 := Lib.hid (hb1.trans (hb2.mono hb1.size))
  clear hb1 hb2 hr hsc
  have hqy := Pq.query_any A n c f ln lc HLB.out w2 (lies_mono (HL.out.below HB2.out) HB2.out.size)
  go_wp2_with fail
  refine hqy.mono ?_
  unfold Pq.Made
  rintro e w3 ⟨v, win, cap, es, rfl, hqi, hg, l1, l4, w1', w16, hcap⟩
  obtain ⟨g, o, c', rfl, hc1, hc2, hqp, hgw, hroom⟩ := qp_qi hqi (by omega)
  obtain ⟨m, hm⟩ : ∃ m, es.length = m := ⟨_, rfl⟩
  obtain ⟨k, hk, hkm⟩ : ∃ k : Nat, y.tmod (m : Int) = (k : Int) ∧ k < m := ⟨(y.tmod (m : Int)).toNat, by
    rw [Int.tmod_eq_emod_of_nonneg y0]
    have := Int.emod_nonneg y (show (m : Int) ≠ 0 by omega)
    omega, by
    rw [Int.tmod_eq_emod_of_nonneg y0]
    have := Int.emod_lt_of_pos y (show (0 : Int) < m by omega)
    have := Int.emod_nonneg y (show (m : Int) ≠ 0 by omega)
    omega⟩
  obtain ⟨ke, hke⟩ : ∃ e, es[k]? = some e := ⟨_, List.getElem?_eq_getElem (show k < es.length by omega)⟩
  have HBAD : Hid (Bad w2 (w3.alloc (.cells #[.slice (some ⟨g, o, none⟩) m c', .int .i64 win, .int .i64 cap] 67)) p w3.heap.size g o m c' k win cap es ke) := Lib.hid
    { sc := HS2.out
      be := hqi.be.alloc hqi.be.size _
      row := Row.made _ _ _
      qp := hqp.call ((Below.refl _ _).alloc (Nat.le_refl _) _)
      ne := by obtain ⟨cs, hr, _⟩ := hqp; have := hr.lt; omega
      gg := hg
      len := hm
      l1 := by omega
      l4 := by omega
      mc := by omega
      cm := hc2
      wn := ⟨w1', w16⟩
      cp := by omega
      km := hkm
      ek := hke
      past := fun i u => by rw [World.setCell_alloc_new]; exact hqp.call ((Below.refl _ _).alloc (Nat.le_refl _) _)
      room := by obtain ⟨cs, h1, h2⟩ := hroom; exact ⟨cs, h1.alloc _, h2⟩
      bg := hgw
      bb := hqi.be.size }
  rw [hm]
  have hmz : ((m : Int) == 0) = false := by simp; omega
  have hmz2 : ¬ (m : Int) = 0 := by omega
  have hkmi : (k : Int) < (m : Int) := by omega
  have hm4 : m ≤ 4 := by omega
  clear hqy hqi hg l1 l4 w1' w16 hcap hc1 hc2 hqp hgw hroom hke HT1 HS2 HL HLB hm
  go_upto_region 6 with fail
  generalize hW : w3.alloc (.cells #[.slice (some ⟨g, o, none⟩) m c', .int .i64 win, .int .i64 cap] 67) = W at HBAD ⊢
  generalize w3.heap.size = bq at HBAD ⊢
  clear hW
  obtain ⟨fz, tv, pv, c0, c1, c2, c3, c4, c5⟩ := HBAD.out.qp.facts (k := k) HBAD.out.kl
  rw [HBAD.out.at] at c0 c2 c3 c4
  have d0 : W.cell? ⟨bq, 0, none⟩ = some (.slice (some ⟨g, o, none⟩) m c') := (HBAD.out.row.cell 0).trans rfl
  have d1 : W.cell? ⟨bq, 1, none⟩ = some (.int .i64 win) := (HBAD.out.row.cell 1).trans rfl
  have d2 : W.cell? ⟨bq, 2, none⟩ = some (.int .i64 cap) := (HBAD.out.row.cell 2).trans rfl
  have fq : ∀ i, W.frozen? ⟨bq, i, none⟩ = false := fun i => HBAD.out.row.free i
  have ne1 := HBAD.out.ne
  have ne2 : g ≠ bq := fun e => HBAD.out.ne e.symm
  have gl : g < W.heap.size := HBAD.out.lt
  have bl : bq < W.heap.size := HBAD.out.row.lt
  obtain ⟨kv, kt, kts, kn, ka, kb, kp, kl⟩ := ke
  dsimp only [toQ] at c0 c2 c3 c4
  have hwr : IntKind.i64.wrap (4294967297 + y) = 4294967297 + y := by rw [IntKind.wrap_i64]; omega
  go_wp2_with fail
  refine ((HBAD.out.fin (q := es.map toQ) (HBAD.out.past _ _) (by rw [List.length_map]; exact HBAD.out.len) (HBAD.out.be.setCell (p := ⟨bq, 1, none⟩) HBAD.out.bb _) (4294967297 + y) cap 13 (by rw [bad_tail HBAD.out.gg HBAD.out.l1' HBAD.out.l4']; have := HBAD.out.wn; have := HBAD.out.cp; exact if_pos (by omega)))).mono ?_
  rintro e w4 ⟨rfl, hb4⟩
  have HB4 := Lib.hid (HB2.out.trans (hb4.mono HB2.out.size))
  clear hb4 c0 c1 c2 c3 c4 c5 d0 d1 d2 fz fq ne1 ne2 gl bl HBAD hkmi hm4 hmz hmz2
  go_wp2_with fail
  refine (awake_any w4).mono ?_
  rintro e w5 ⟨rfl, hb5⟩
  have HB5 := Lib.hid (HB4.out.trans (hb5.mono HB4.out.size))
  clear hb5
  go_wp2
  go_ret
  exact ⟨rfl, HB5.out⟩
set_option maxHeartbeats 8000000 in
theorem bad_law11 (A : Option Addr) (n c : Nat) (f : Nat → Int) (ln : n ≤ c) (lc : c ≤ 9223372036854775807) (lb : ∀ k, -9223372036854775808 ≤ f k ∧ f k ≤ 9223372036854775807) {w : World} (ll : Lies w w.heap.size A n (fun k => .int .i64 (f k))) (kind N : Int) (z : Int) (hz : bits .and .i64 kind 31 = z) (hzc : z.tmod 15 = 11) (y : Int) (hy : bits .and .i64 N 255 = y) (y0 : 0 ≤ y) (y1 : y ≤ 255) :
    Calls Try.prog 7 #[.slice A n c, .int .i64 kind, .int .i64 N] w fun e w' => e = .returned (.bool true) ∧ Below w.heap.size w w' := by
  have HL := Lib.hid ll
  have HLB := Lib.hid lb
  clear ll lb
  go_enter Try.func7, Try.ntmps7
  go_wp2_with fail
  refine (types_any _).mono ?_
  rintro e w1 ⟨v1, rfl, ht1, hb1⟩
  have HT1 := Lib.hid ht1
  clear ht1
  go_wp2_with fail
  refine (new_any _ typesL _ _ HT1.out (Nat.le_refl _)).mono ?_
  rintro e w2 ⟨p, cc, rfl, hr, hsc, _, hb2⟩
  obtain rfl := typesL_ok hr
  have HS2 := Lib.hid (hsc rfl)
  have HB2 := Lib.hid (hb1.trans (hb2.mono hb1.size))
  clear hb1 hb2 hr hsc
  have hqy := Pq.query_any A n c f ln lc HLB.out w2 (lies_mono (HL.out.below HB2.out) HB2.out.size)
  go_wp2_with fail
  refine hqy.mono ?_
  unfold Pq.Made
  rintro e w3 ⟨v, win, cap, es, rfl, hqi, hg, l1, l4, w1', w16, hcap⟩
  obtain ⟨g, o, c', rfl, hc1, hc2, hqp, hgw, hroom⟩ := qp_qi hqi (by omega)
  obtain ⟨m, hm⟩ : ∃ m, es.length = m := ⟨_, rfl⟩
  obtain ⟨k, hk, hkm⟩ : ∃ k : Nat, y.tmod (m : Int) = (k : Int) ∧ k < m := ⟨(y.tmod (m : Int)).toNat, by
    rw [Int.tmod_eq_emod_of_nonneg y0]
    have := Int.emod_nonneg y (show (m : Int) ≠ 0 by omega)
    omega, by
    rw [Int.tmod_eq_emod_of_nonneg y0]
    have := Int.emod_lt_of_pos y (show (0 : Int) < m by omega)
    have := Int.emod_nonneg y (show (m : Int) ≠ 0 by omega)
    omega⟩
  obtain ⟨ke, hke⟩ : ∃ e, es[k]? = some e := ⟨_, List.getElem?_eq_getElem (show k < es.length by omega)⟩
  have HBAD : Hid (Bad w2 (w3.alloc (.cells #[.slice (some ⟨g, o, none⟩) m c', .int .i64 win, .int .i64 cap] 67)) p w3.heap.size g o m c' k win cap es ke) := Lib.hid
    { sc := HS2.out
      be := hqi.be.alloc hqi.be.size _
      row := Row.made _ _ _
      qp := hqp.call ((Below.refl _ _).alloc (Nat.le_refl _) _)
      ne := by obtain ⟨cs, hr, _⟩ := hqp; have := hr.lt; omega
      gg := hg
      len := hm
      l1 := by omega
      l4 := by omega
      mc := by omega
      cm := hc2
      wn := ⟨w1', w16⟩
      cp := by omega
      km := hkm
      ek := hke
      past := fun i u => by rw [World.setCell_alloc_new]; exact hqp.call ((Below.refl _ _).alloc (Nat.le_refl _) _)
      room := by obtain ⟨cs, h1, h2⟩ := hroom; exact ⟨cs, h1.alloc _, h2⟩
      bg := hgw
      bb := hqi.be.size }
  rw [hm]
  have hmz : ((m : Int) == 0) = false := by simp; omega
  have hmz2 : ¬ (m : Int) = 0 := by omega
  have hkmi : (k : Int) < (m : Int) := by omega
  have hm4 : m ≤ 4 := by omega
  clear hqy hqi hg l1 l4 w1' w16 hcap hc1 hc2 hqp hgw hroom hke HT1 HS2 HL HLB hm
  go_upto_region 6 with fail
  generalize hW : w3.alloc (.cells #[.slice (some ⟨g, o, none⟩) m c', .int .i64 win, .int .i64 cap] 67) = W at HBAD ⊢
  generalize w3.heap.size = bq at HBAD ⊢
  clear hW
  obtain ⟨fz, tv, pv, c0, c1, c2, c3, c4, c5⟩ := HBAD.out.qp.facts (k := k) HBAD.out.kl
  rw [HBAD.out.at] at c0 c2 c3 c4
  have d0 : W.cell? ⟨bq, 0, none⟩ = some (.slice (some ⟨g, o, none⟩) m c') := (HBAD.out.row.cell 0).trans rfl
  have d1 : W.cell? ⟨bq, 1, none⟩ = some (.int .i64 win) := (HBAD.out.row.cell 1).trans rfl
  have d2 : W.cell? ⟨bq, 2, none⟩ = some (.int .i64 cap) := (HBAD.out.row.cell 2).trans rfl
  have fq : ∀ i, W.frozen? ⟨bq, i, none⟩ = false := fun i => HBAD.out.row.free i
  have ne1 := HBAD.out.ne
  have ne2 : g ≠ bq := fun e => HBAD.out.ne e.symm
  have gl : g < W.heap.size := HBAD.out.lt
  have bl : bq < W.heap.size := HBAD.out.row.lt
  obtain ⟨kv, kt, kts, kn, ka, kb, kp, kl⟩ := ke
  dsimp only [toQ] at c0 c2 c3 c4
  skip
  go_wp2_with fail
  refine ((HBAD.out.fin (q := es.map toQ) (HBAD.out.past _ _) (by rw [List.length_map]; exact HBAD.out.len) (HBAD.out.be.setCell (p := ⟨bq, 2, none⟩) HBAD.out.bb _) win (0) 5 (by rw [bad_tail HBAD.out.gg HBAD.out.l1' HBAD.out.l4']; have := HBAD.out.wn; have := HBAD.out.cp; rw [if_neg (by omega)]; exact if_pos (by omega)))).mono ?_
  rintro e w4 ⟨rfl, hb4⟩
  have HB4 := Lib.hid (HB2.out.trans (hb4.mono HB2.out.size))
  clear hb4 c0 c1 c2 c3 c4 c5 d0 d1 d2 fz fq ne1 ne2 gl bl HBAD hkmi hm4 hmz hmz2
  go_wp2_with fail
  refine (awake_any w4).mono ?_
  rintro e w5 ⟨rfl, hb5⟩
  have HB5 := Lib.hid (HB4.out.trans (hb5.mono HB4.out.size))
  clear hb5
  go_wp2
  go_ret
  exact ⟨rfl, HB5.out⟩
set_option maxHeartbeats 8000000 in
theorem bad_law12 (A : Option Addr) (n c : Nat) (f : Nat → Int) (ln : n ≤ c) (lc : c ≤ 9223372036854775807) (lb : ∀ k, -9223372036854775808 ≤ f k ∧ f k ≤ 9223372036854775807) {w : World} (ll : Lies w w.heap.size A n (fun k => .int .i64 (f k))) (kind N : Int) (z : Int) (hz : bits .and .i64 kind 31 = z) (hzc : z.tmod 15 = 12) (y : Int) (hy : bits .and .i64 N 255 = y) (y0 : 0 ≤ y) (y1 : y ≤ 255) :
    Calls Try.prog 7 #[.slice A n c, .int .i64 kind, .int .i64 N] w fun e w' => e = .returned (.bool true) ∧ Below w.heap.size w w' := by
  have HL := Lib.hid ll
  have HLB := Lib.hid lb
  clear ll lb
  go_enter Try.func7, Try.ntmps7
  go_wp2_with fail
  refine (types_any _).mono ?_
  rintro e w1 ⟨v1, rfl, ht1, hb1⟩
  have HT1 := Lib.hid ht1
  clear ht1
  go_wp2_with fail
  refine (new_any _ typesL _ _ HT1.out (Nat.le_refl _)).mono ?_
  rintro e w2 ⟨p, cc, rfl, hr, hsc, _, hb2⟩
  obtain rfl := typesL_ok hr
  have HS2 := Lib.hid (hsc rfl)
  have HB2 := Lib.hid (hb1.trans (hb2.mono hb1.size))
  clear hb1 hb2 hr hsc
  have hqy := Pq.query_any A n c f ln lc HLB.out w2 (lies_mono (HL.out.below HB2.out) HB2.out.size)
  go_wp2_with fail
  refine hqy.mono ?_
  unfold Pq.Made
  rintro e w3 ⟨v, win, cap, es, rfl, hqi, hg, l1, l4, w1', w16, hcap⟩
  obtain ⟨g, o, c', rfl, hc1, hc2, hqp, hgw, hroom⟩ := qp_qi hqi (by omega)
  obtain ⟨m, hm⟩ : ∃ m, es.length = m := ⟨_, rfl⟩
  obtain ⟨k, hk, hkm⟩ : ∃ k : Nat, y.tmod (m : Int) = (k : Int) ∧ k < m := ⟨(y.tmod (m : Int)).toNat, by
    rw [Int.tmod_eq_emod_of_nonneg y0]
    have := Int.emod_nonneg y (show (m : Int) ≠ 0 by omega)
    omega, by
    rw [Int.tmod_eq_emod_of_nonneg y0]
    have := Int.emod_lt_of_pos y (show (0 : Int) < m by omega)
    have := Int.emod_nonneg y (show (m : Int) ≠ 0 by omega)
    omega⟩
  obtain ⟨ke, hke⟩ : ∃ e, es[k]? = some e := ⟨_, List.getElem?_eq_getElem (show k < es.length by omega)⟩
  have HBAD : Hid (Bad w2 (w3.alloc (.cells #[.slice (some ⟨g, o, none⟩) m c', .int .i64 win, .int .i64 cap] 67)) p w3.heap.size g o m c' k win cap es ke) := Lib.hid
    { sc := HS2.out
      be := hqi.be.alloc hqi.be.size _
      row := Row.made _ _ _
      qp := hqp.call ((Below.refl _ _).alloc (Nat.le_refl _) _)
      ne := by obtain ⟨cs, hr, _⟩ := hqp; have := hr.lt; omega
      gg := hg
      len := hm
      l1 := by omega
      l4 := by omega
      mc := by omega
      cm := hc2
      wn := ⟨w1', w16⟩
      cp := by omega
      km := hkm
      ek := hke
      past := fun i u => by rw [World.setCell_alloc_new]; exact hqp.call ((Below.refl _ _).alloc (Nat.le_refl _) _)
      room := by obtain ⟨cs, h1, h2⟩ := hroom; exact ⟨cs, h1.alloc _, h2⟩
      bg := hgw
      bb := hqi.be.size }
  rw [hm]
  have hmz : ((m : Int) == 0) = false := by simp; omega
  have hmz2 : ¬ (m : Int) = 0 := by omega
  have hkmi : (k : Int) < (m : Int) := by omega
  have hm4 : m ≤ 4 := by omega
  clear hqy hqi hg l1 l4 w1' w16 hcap hc1 hc2 hqp hgw hroom hke HT1 HS2 HL HLB hm
  go_upto_region 6 with fail
  generalize hW : w3.alloc (.cells #[.slice (some ⟨g, o, none⟩) m c', .int .i64 win, .int .i64 cap] 67) = W at HBAD ⊢
  generalize w3.heap.size = bq at HBAD ⊢
  clear hW
  obtain ⟨fz, tv, pv, c0, c1, c2, c3, c4, c5⟩ := HBAD.out.qp.facts (k := k) HBAD.out.kl
  rw [HBAD.out.at] at c0 c2 c3 c4
  have d0 : W.cell? ⟨bq, 0, none⟩ = some (.slice (some ⟨g, o, none⟩) m c') := (HBAD.out.row.cell 0).trans rfl
  have d1 : W.cell? ⟨bq, 1, none⟩ = some (.int .i64 win) := (HBAD.out.row.cell 1).trans rfl
  have d2 : W.cell? ⟨bq, 2, none⟩ = some (.int .i64 cap) := (HBAD.out.row.cell 2).trans rfl
  have fq : ∀ i, W.frozen? ⟨bq, i, none⟩ = false := fun i => HBAD.out.row.free i
  have ne1 := HBAD.out.ne
  have ne2 : g ≠ bq := fun e => HBAD.out.ne e.symm
  have gl : g < W.heap.size := HBAD.out.lt
  have bl : bq < W.heap.size := HBAD.out.row.lt
  obtain ⟨kv, kt, kts, kn, ka, kb, kp, kl⟩ := ke
  dsimp only [toQ] at c0 c2 c3 c4
  have hwr : IntKind.i64.wrap (1001 + y) = 1001 + y := by rw [IntKind.wrap_i64]; omega
  go_wp2_with fail
  refine ((HBAD.out.fin (q := es.map toQ) (HBAD.out.past _ _) (by rw [List.length_map]; exact HBAD.out.len) (HBAD.out.be.setCell (p := ⟨bq, 2, none⟩) HBAD.out.bb _) win (1001 + y) 5 (by rw [bad_tail HBAD.out.gg HBAD.out.l1' HBAD.out.l4']; have := HBAD.out.wn; have := HBAD.out.cp; rw [if_neg (by omega)]; exact if_pos (by omega)))).mono ?_
  rintro e w4 ⟨rfl, hb4⟩
  have HB4 := Lib.hid (HB2.out.trans (hb4.mono HB2.out.size))
  clear hb4 c0 c1 c2 c3 c4 c5 d0 d1 d2 fz fq ne1 ne2 gl bl HBAD hkmi hm4 hmz hmz2
  go_wp2_with fail
  refine (awake_any w4).mono ?_
  rintro e w5 ⟨rfl, hb5⟩
  have HB5 := Lib.hid (HB4.out.trans (hb5.mono HB4.out.size))
  clear hb5
  go_wp2
  go_ret
  exact ⟨rfl, HB5.out⟩
set_option maxHeartbeats 8000000 in
theorem bad_law14 (A : Option Addr) (n c : Nat) (f : Nat → Int) (ln : n ≤ c) (lc : c ≤ 9223372036854775807) (lb : ∀ k, -9223372036854775808 ≤ f k ∧ f k ≤ 9223372036854775807) {w : World} (ll : Lies w w.heap.size A n (fun k => .int .i64 (f k))) (kind N : Int) (z : Int) (hz : bits .and .i64 kind 31 = z) (hzc : z.tmod 15 = 14) (y : Int) (hy : bits .and .i64 N 255 = y) (y0 : 0 ≤ y) (y1 : y ≤ 255) :
    Calls Try.prog 7 #[.slice A n c, .int .i64 kind, .int .i64 N] w fun e w' => e = .returned (.bool true) ∧ Below w.heap.size w w' := by
  have HL := Lib.hid ll
  have HLB := Lib.hid lb
  clear ll lb
  go_enter Try.func7, Try.ntmps7
  go_wp2_with fail
  refine (types_any _).mono ?_
  rintro e w1 ⟨v1, rfl, ht1, hb1⟩
  have HT1 := Lib.hid ht1
  clear ht1
  go_wp2_with fail
  refine (new_any _ typesL _ _ HT1.out (Nat.le_refl _)).mono ?_
  rintro e w2 ⟨p, cc, rfl, hr, hsc, _, hb2⟩
  obtain rfl := typesL_ok hr
  have HS2 := Lib.hid (hsc rfl)
  have HB2 := Lib.hid (hb1.trans (hb2.mono hb1.size))
  clear hb1 hb2 hr hsc
  have hqy := Pq.query_any A n c f ln lc HLB.out w2 (lies_mono (HL.out.below HB2.out) HB2.out.size)
  go_wp2_with fail
  refine hqy.mono ?_
  unfold Pq.Made
  rintro e w3 ⟨v, win, cap, es, rfl, hqi, hg, l1, l4, w1', w16, hcap⟩
  obtain ⟨g, o, c', rfl, hc1, hc2, hqp, hgw, hroom⟩ := qp_qi hqi (by omega)
  obtain ⟨m, hm⟩ : ∃ m, es.length = m := ⟨_, rfl⟩
  obtain ⟨k, hk, hkm⟩ : ∃ k : Nat, y.tmod (m : Int) = (k : Int) ∧ k < m := ⟨(y.tmod (m : Int)).toNat, by
    rw [Int.tmod_eq_emod_of_nonneg y0]
    have := Int.emod_nonneg y (show (m : Int) ≠ 0 by omega)
    omega, by
    rw [Int.tmod_eq_emod_of_nonneg y0]
    have := Int.emod_lt_of_pos y (show (0 : Int) < m by omega)
    have := Int.emod_nonneg y (show (m : Int) ≠ 0 by omega)
    omega⟩
  obtain ⟨ke, hke⟩ : ∃ e, es[k]? = some e := ⟨_, List.getElem?_eq_getElem (show k < es.length by omega)⟩
  have HBAD : Hid (Bad w2 (w3.alloc (.cells #[.slice (some ⟨g, o, none⟩) m c', .int .i64 win, .int .i64 cap] 67)) p w3.heap.size g o m c' k win cap es ke) := Lib.hid
    { sc := HS2.out
      be := hqi.be.alloc hqi.be.size _
      row := Row.made _ _ _
      qp := hqp.call ((Below.refl _ _).alloc (Nat.le_refl _) _)
      ne := by obtain ⟨cs, hr, _⟩ := hqp; have := hr.lt; omega
      gg := hg
      len := hm
      l1 := by omega
      l4 := by omega
      mc := by omega
      cm := hc2
      wn := ⟨w1', w16⟩
      cp := by omega
      km := hkm
      ek := hke
      past := fun i u => by rw [World.setCell_alloc_new]; exact hqp.call ((Below.refl _ _).alloc (Nat.le_refl _) _)
      room := by obtain ⟨cs, h1, h2⟩ := hroom; exact ⟨cs, h1.alloc _, h2⟩
      bg := hgw
      bb := hqi.be.size }
  rw [hm]
  have hmz : ((m : Int) == 0) = false := by simp; omega
  have hmz2 : ¬ (m : Int) = 0 := by omega
  have hkmi : (k : Int) < (m : Int) := by omega
  have hm4 : m ≤ 4 := by omega
  clear hqy hqi hg l1 l4 w1' w16 hcap hc1 hc2 hqp hgw hroom hke HT1 HS2 HL HLB hm
  go_upto_region 6 with fail
  generalize hW : w3.alloc (.cells #[.slice (some ⟨g, o, none⟩) m c', .int .i64 win, .int .i64 cap] 67) = W at HBAD ⊢
  generalize w3.heap.size = bq at HBAD ⊢
  clear hW
  obtain ⟨fz, tv, pv, c0, c1, c2, c3, c4, c5⟩ := HBAD.out.qp.facts (k := k) HBAD.out.kl
  rw [HBAD.out.at] at c0 c2 c3 c4
  have d0 : W.cell? ⟨bq, 0, none⟩ = some (.slice (some ⟨g, o, none⟩) m c') := (HBAD.out.row.cell 0).trans rfl
  have d1 : W.cell? ⟨bq, 1, none⟩ = some (.int .i64 win) := (HBAD.out.row.cell 1).trans rfl
  have d2 : W.cell? ⟨bq, 2, none⟩ = some (.int .i64 cap) := (HBAD.out.row.cell 2).trans rfl
  have fq : ∀ i, W.frozen? ⟨bq, i, none⟩ = false := fun i => HBAD.out.row.free i
  have ne1 := HBAD.out.ne
  have ne2 : g ≠ bq := fun e => HBAD.out.ne e.symm
  have gl : g < W.heap.size := HBAD.out.lt
  have bl : bq < W.heap.size := HBAD.out.row.lt
  obtain ⟨kv, kt, kts, kn, ka, kb, kp, kl⟩ := ke
  dsimp only [toQ] at c0 c2 c3 c4
  go_wp2_with fail
  have hb : Below w2.heap.size w2 (W.setCell ⟨bq, 0, none⟩ (.slice none 0 0)) := HBAD.out.be.setCell (p := ⟨bq, 0, none⟩) HBAD.out.bb _
  have hn := query_any p typesL (.slice none 0 0) win cap [] _ (HBAD.out.sc.below hb hb.size) typesL_len ⟨none, 0, rfl, by simp, by omega, fun k hk => by simp at hk⟩
  rw [bad_none] at hn
  have hn2 := hn.mono fun _ _ x => (⟨x.1, hb.trans (x.2.mono hb.size)⟩ : _ ∧ Below w2.heap.size w2 _)
  clear hn
  refine hn2.mono ?_
  rintro e w4 ⟨rfl, hb4⟩
  have HB4 := Lib.hid (HB2.out.trans (hb4.mono HB2.out.size))
  clear hb4 hn2 hb c0 c1 c2 c3 c4 c5 d0 d1 d2 fz fq ne1 ne2 gl bl HBAD hkmi hm4 hmz hmz2
  go_wp2_with fail
  refine (awake_any w4).mono ?_
  rintro e w5 ⟨rfl, hb5⟩
  have HB5 := Lib.hid (HB4.out.trans (hb5.mono HB4.out.size))
  clear hb5
  go_wp2
  go_ret
  exact ⟨rfl, HB5.out⟩
end Go.Proofs.Ytopbildpeojgoaa.Ck
end

section
namespace Go.Proofs.Ytopbildpeojgoaa.Ck
open Go.RowKit Go.Proofs.Ytopbildpeojgoaa Go.Proofs.Ytopbildpeojgoaa.Sch Go.Proofs.Ytopbildpeojgoaa.Ty
set_option linter.unusedVariables false
set_option maxRecDepth 100000
theorem elem_info : (Try.prog.info? 73).map (fun i => (i.zero, i.size, i.bytes)) = some (some (.agg #[.string ⟨#[]⟩, .slice none 0 0, .bool false, .int .i64 0, .int .i64 0, .slice none 0 0]), 6, 88) := by kernel_rfl
def nine : Array Value := Builtin.zeroCells (Value.agg #[.string ⟨#[]⟩, .slice none 0 0, .bool false, .int .i64 0, .int .i64 0, .slice none 0 0]).cells 9
theorem nine_len : nine.toList.length = 54 := by kernel_rfl
theorem nine_one : ∀ u ∈ nine.toList, u.oneCell' = true := by
  have : nine.toList.all (fun u => u.oneCell') = true := by kernel_rfl
  exact fun u hu => List.all_eq_true.1 this u hu
theorem run_make9 (w : World) (ty : TypeId) (i : TypeInfo) (hi : Try.prog.info? 73 = some i) (hz : i.zero = some (.agg #[.string ⟨#[]⟩, .slice none 0 0, .bool false, .int .i64 0, .int .i64 0, .slice none 0 0])) (hs : i.size = 6) (hb : i.bytes = 88) (g o n c : Nat) (hnc : n ≤ c) (hc : c ≤ 9223372036854775807) (hn4 : n ≤ 4) (hr : ∃ cs, Row w g 73 cs ∧ o + c * 6 ≤ cs.size) :
    ∃ A c' w', (Builtin.append_ #[65, 3] ty #[.slice (some ⟨g, o, none⟩) n c, .int .i64 9]).run Try.prog w = .ok (.slice A (n + 9) c') w' ∧ Turns w w' (fun k => k = g) := by
  obtain ⟨cs, hrow, hsz⟩ := hr
  have hw9 : IntKind.i64.wrap 9 = 9 := by decide
  have ht := Try.underlying65
  have hti := Try.underlying3
  by_cases hroom : n + 9 ≤ c
  · have hst := run_storeCells_cells (P := Try.prog) g (o + n * 6) nine.toList 0 w (fun j hj => by
      rw [nine_len] at hj
      rw [Nat.add_zero, hrow.cell, Array.getElem?_eq_getElem (by omega)]
      rfl) (fun j hj => hrow.free _) nine_one
    simp only [Nat.add_zero] at hst
    unfold nine at hst
    obtain ⟨cur', b1, b2, b3, b4⟩ := setCells_row 73 g nine.toList (o + n * 6) w cs hrow (by rw [nine_len]; omega)
    unfold nine at b4
    refine ⟨some ⟨g, o, none⟩, c, _, ?_, (Turns.of_grown b4).mono (fun _ _ e => by injection e with e; exact e.symm)⟩
    simp [Builtin.append_, run_underlying ht, run_underlying hti, sizeOf, typeInfo, zeroValue, hi, hz, hs, hb, asInt, asIntOf, hw9, hroom, Addr.add_lit, hst]
  · have hlo : ((cs.toList.drop o).take (n * 6)).length = n * 6 := by
      rw [List.length_take, List.length_drop, Nat.min_eq_left]
      simp
      omega
    have hfo := run_firstCells_some (P := Try.prog) w.drew 6 n ⟨g, o, none⟩ n c ((cs.toList.drop o).take (n * 6)) hlo (fun j u hj => by
      rw [Addr.add_lit]
      show w.cell? ⟨g, o + j, none⟩ = some u
      rw [hrow.cell]
      rw [List.getElem?_take] at hj
      split at hj
      · rw [List.getElem?_drop] at hj
        simpa using hj
      · cases hj)
    have hn : ¬ (n + 9 ≤ c) := hroom
    have hfit : Builtin.nextslicecap (n + 9) c * 88 ≤ 281474976710656 := by
      have : c < 13 := by omega
      unfold Builtin.nextslicecap
      split
      · omega
      · rw [if_pos (by omega)]; omega
    have h48' : ¬ (281474976710656 < Builtin.nextslicecap (n + 9) c * 88) := by omega
    have hmax : max (9 : Int) 0 = 9 := by decide
    have h63' : ¬ ((9223372036854775807 : Int) < (n : Int) + max 9 0) := by rw [hmax]; omega
    refine ⟨_, _, _, by simp [Builtin.append_, run_underlying ht, run_underlying hti, sizeOf, typeInfo, zeroValue, hi, hz, hs, hb, asInt, asIntOf, hw9, hn, h63', h48', Question.forced, hfo, newRow]; exact ⟨⟨rfl, rfl⟩, rfl⟩, ?_⟩
    exact ⟨rfl, rfl, rfl, by simp, fun k hk _ => by first | exact heap_alloc_old w.drew _ k hk | exact heap_alloc_old w.drew _ hk⟩
theorem wpList_make9 {ops : Array Oper} {rest : List Oper} {op : Oper} {a : Act} {Q : Exit → Act → World → Prop} (w : World) (hgd : op.guard = none) (s x : Operand)
    (hop : op.op = .call { callee := .builtin .append, args := #[s, x], argTypes := #[65, 3] }) (i : TypeInfo) (hi : Try.prog.info? 73 = some i) (hz : i.zero = some (.agg #[.string ⟨#[]⟩, .slice none 0 0, .bool false, .int .i64 0, .int .i64 0, .slice none 0 0])) (hs : i.size = 6) (hb : i.bytes = 88) (g o n c : Nat)
    (hsv : a.eval s = .slice (some ⟨g, o, none⟩) n c) (hx : a.eval x = .int .i64 9) (hnc : n ≤ c) (hc : c ≤ 9223372036854775807) (hn4 : n ≤ 4) (hr : ∃ cs, Row w g 73 cs ∧ o + c * 6 ≤ cs.size)
    (hK : ∀ A c' w', Turns w w' (fun k => k = g) → wpList Try.prog ops Q rest (a.put op.dst (.slice A (n + 9) c')) w') :
    wpList Try.prog ops Q (op :: rest) a w := by
  refine wpList_plain hgd fun K hK' => ?_
  obtain ⟨A, c', w', hrun, r1⟩ := run_make9 w op.type i hi hz hs hb g o n c hnc hc hn4 hr
  unfold Oper.wp
  simp [execOp, hop, resolve, invoke, builtin, hsv, hx, hrun, Result.andThen]
  exact hK' _ _ (hK A c' w' r1)
theorem query_big (p : Option Addr) (A : Option Addr) (n c : Nat) (win cap : Int) (h : 8 < n) (w : World) : Calls Try.prog 46 #[.pointer p, .agg #[.slice A n c, .int .i64 win, .int .i64 cap]] w fun e w' => e = .returned (.int .i64 5) ∧ Below w.heap.size w w' := by
  have h8' : (8 : Int) < (n : Int) := by omega
  go_enter Try.func46, Try.ntmps46
  go_wp2
  go_ret
  exact ⟨rfl, (Below.refl _ w).alloc (Nat.le_refl _) _⟩
end Go.Proofs.Ytopbildpeojgoaa.Ck
end

section
namespace Go.Proofs.Ytopbildpeojgoaa.Ck
open Go.RowKit Go.Proofs.Ytopbildpeojgoaa Go.Proofs.Ytopbildpeojgoaa.Sch Go.Proofs.Ytopbildpeojgoaa.Ty
set_option linter.unusedVariables false
set_option maxRecDepth 100000
set_option maxHeartbeats 8000000 in
theorem bad_law13 (A : Option Addr) (n c : Nat) (f : Nat → Int) (ln : n ≤ c) (lc : c ≤ 9223372036854775807) (lb : ∀ k, -9223372036854775808 ≤ f k ∧ f k ≤ 9223372036854775807) {w : World} (ll : Lies w w.heap.size A n (fun k => .int .i64 (f k))) (kind N : Int) (z : Int) (hz : bits .and .i64 kind 31 = z) (hzc : z.tmod 15 = 13) (y : Int) (hy : bits .and .i64 N 255 = y) (y0 : 0 ≤ y) (y1 : y ≤ 255) :
    Calls Try.prog 7 #[.slice A n c, .int .i64 kind, .int .i64 N] w fun e w' => e = .returned (.bool true) ∧ Below w.heap.size w w' := by
  have HL := Lib.hid ll
  have HLB := Lib.hid lb
  clear ll lb
  go_enter Try.func7, Try.ntmps7
  go_wp2_with fail
  refine (types_any _).mono ?_
  rintro e w1 ⟨v1, rfl, ht1, hb1⟩
  have HT1 := Lib.hid ht1
  clear ht1
  go_wp2_with fail
  refine (new_any _ typesL _ _ HT1.out (Nat.le_refl _)).mono ?_
  rintro e w2 ⟨p, cc, rfl, hr, hsc, _, hb2⟩
  obtain rfl := typesL_ok hr
  have HS2 := Lib.hid (hsc rfl)
  have HB2 := Lib.hid (hb1.trans (hb2.mono hb1.size))
  clear hb1 hb2 hr hsc
  have hqy := Pq.query_any A n c f ln lc HLB.out w2 (lies_mono (HL.out.below HB2.out) HB2.out.size)
  go_wp2_with fail
  refine hqy.mono ?_
  unfold Pq.Made
  rintro e w3 ⟨v, win, cap, es, rfl, hqi, hg, l1, l4, w1', w16, hcap⟩
  obtain ⟨g, o, c', rfl, hc1, hc2, hqp, hgw, hroom⟩ := qp_qi hqi (by omega)
  obtain ⟨m, hm⟩ : ∃ m, es.length = m := ⟨_, rfl⟩
  obtain ⟨k, hk, hkm⟩ : ∃ k : Nat, y.tmod (m : Int) = (k : Int) ∧ k < m := ⟨(y.tmod (m : Int)).toNat, by
    rw [Int.tmod_eq_emod_of_nonneg y0]
    have := Int.emod_nonneg y (show (m : Int) ≠ 0 by omega)
    omega, by
    rw [Int.tmod_eq_emod_of_nonneg y0]
    have := Int.emod_lt_of_pos y (show (0 : Int) < m by omega)
    have := Int.emod_nonneg y (show (m : Int) ≠ 0 by omega)
    omega⟩
  obtain ⟨ke, hke⟩ : ∃ e, es[k]? = some e := ⟨_, List.getElem?_eq_getElem (show k < es.length by omega)⟩
  have HBAD : Hid (Bad w2 (w3.alloc (.cells #[.slice (some ⟨g, o, none⟩) m c', .int .i64 win, .int .i64 cap] 67)) p w3.heap.size g o m c' k win cap es ke) := Lib.hid
    { sc := HS2.out
      be := hqi.be.alloc hqi.be.size _
      row := Row.made _ _ _
      qp := hqp.call ((Below.refl _ _).alloc (Nat.le_refl _) _)
      ne := by obtain ⟨cs, hr, _⟩ := hqp; have := hr.lt; omega
      gg := hg
      len := hm
      l1 := by omega
      l4 := by omega
      mc := by omega
      cm := hc2
      wn := ⟨w1', w16⟩
      cp := by omega
      km := hkm
      ek := hke
      past := fun i u => by rw [World.setCell_alloc_new]; exact hqp.call ((Below.refl _ _).alloc (Nat.le_refl _) _)
      room := by obtain ⟨cs, h1, h2⟩ := hroom; exact ⟨cs, h1.alloc _, h2⟩
      bg := hgw
      bb := hqi.be.size }
  rw [hm]
  have hmz : ((m : Int) == 0) = false := by simp; omega
  have hmz2 : ¬ (m : Int) = 0 := by omega
  have hkmi : (k : Int) < (m : Int) := by omega
  have hm4 : m ≤ 4 := by omega
  clear hqy hqi hg l1 l4 w1' w16 hcap hc1 hc2 hqp hgw hroom hke HT1 HS2 HL HLB hm
  go_upto_region 6 with fail
  generalize hW : w3.alloc (.cells #[.slice (some ⟨g, o, none⟩) m c', .int .i64 win, .int .i64 cap] 67) = W at HBAD ⊢
  generalize w3.heap.size = bq at HBAD ⊢
  clear hW
  obtain ⟨fz, tv, pv, c0, c1, c2, c3, c4, c5⟩ := HBAD.out.qp.facts (k := k) HBAD.out.kl
  rw [HBAD.out.at] at c0 c2 c3 c4
  have d0 : W.cell? ⟨bq, 0, none⟩ = some (.slice (some ⟨g, o, none⟩) m c') := (HBAD.out.row.cell 0).trans rfl
  have d1 : W.cell? ⟨bq, 1, none⟩ = some (.int .i64 win) := (HBAD.out.row.cell 1).trans rfl
  have d2 : W.cell? ⟨bq, 2, none⟩ = some (.int .i64 cap) := (HBAD.out.row.cell 2).trans rfl
  have fq : ∀ i, W.frozen? ⟨bq, i, none⟩ = false := fun i => HBAD.out.row.free i
  have ne1 := HBAD.out.ne
  have ne2 : g ≠ bq := fun e => HBAD.out.ne e.symm
  have gl : g < W.heap.size := HBAD.out.lt
  have bl : bq < W.heap.size := HBAD.out.row.lt
  obtain ⟨kv, kt, kts, kn, ka, kb, kp, kl⟩ := ke
  dsimp only [toQ] at c0 c2 c3 c4
  obtain ⟨i0, hi0, hz0, hz1, hz2⟩ := info_parts elem_info
  go_wp2_with (at_builtin; refine wpList_make9 _ rfl _ _ rfl i0 hi0 hz0 hz1 hz2 g o m c' rfl rfl HBAD.out.mc HBAD.out.cm hm4 HBAD.out.room ?_; intro A2 cq w9 ht9; have HT9 := Lib.hid ht9; clear ht9; have b0 : w9.cell? ⟨bq, 0, none⟩ = some (.slice (some ⟨g, o, none⟩) m c') := ((Row.turns HBAD.out.row HT9.out ne1).cell 0).trans rfl; have b1 : w9.cell? ⟨bq, 1, none⟩ = some (.int .i64 win) := ((Row.turns HBAD.out.row HT9.out ne1).cell 1).trans rfl; have b2 : w9.cell? ⟨bq, 2, none⟩ = some (.int .i64 cap) := ((Row.turns HBAD.out.row HT9.out ne1).cell 2).trans rfl; have bf : ∀ i, w9.frozen? ⟨bq, i, none⟩ = false := fun i => (Row.turns HBAD.out.row HT9.out ne1).free i; go_frame)
  have hb : Below w2.heap.size w2 (w9.setCell ⟨bq, 0, none⟩ (.slice A2 (m + 9) cq)) := (HT9.out.below HBAD.out.be HBAD.out.be.size (fun k hk e => by have := HBAD.out.bg; omega)).setCell (p := ⟨bq, 0, none⟩) HBAD.out.bb _
  have h8 : 8 < m + 9 := by omega
  refine ((query_big p A2 (m + 9) cq win cap h8 _).mono fun _ _ x => (⟨x.1, hb.trans (x.2.mono hb.size)⟩ : _ ∧ Below w2.heap.size w2 _)).mono ?_
  rintro e w4 ⟨rfl, hb4⟩
  have HB4 := Lib.hid (HB2.out.trans (hb4.mono HB2.out.size))
  clear hb4 hb h8 b0 b1 b2 bf c0 c1 c2 c3 c4 c5 d0 d1 d2 fz fq ne1 ne2 gl bl HBAD hkmi hm4 hmz hmz2
  go_wp2_with fail
  refine (awake_any w4).mono ?_
  rintro e w5 ⟨rfl, hb5⟩
  have HB5 := Lib.hid (HB4.out.trans (hb5.mono HB4.out.size))
  clear hb5
  go_wp2
  go_ret
  exact ⟨rfl, HB5.out⟩
end Go.Proofs.Ytopbildpeojgoaa.Ck
end

section
namespace Go.Proofs.Ytopbildpeojgoaa.Ck
open Go.RowKit Go.Proofs.Ytopbildpeojgoaa Go.Proofs.Ytopbildpeojgoaa.Sch Go.Proofs.Ytopbildpeojgoaa.Ty
set_option linter.unusedVariables false
set_option maxRecDepth 100000
theorem bad_law (A : Option Addr) (n c : Nat) (f : Nat → Int) (ln : n ≤ c) (lc : c ≤ 9223372036854775807) (lb : ∀ k, -9223372036854775808 ≤ f k ∧ f k ≤ 9223372036854775807) {w : World} (ll : Lies w w.heap.size A n (fun k => .int .i64 (f k))) (kind : Int) (wk : (Lit.int .i64 kind).wf = true) (N : Int) (wn : (Lit.int .i64 N).wf = true) :
    Calls Try.prog 7 #[.slice A n c, .int .i64 kind, .int .i64 N] w fun e w' => e = .returned (.bool true) ∧ Below w.heap.size w w' := by
  obtain ⟨z, hz, hz0⟩ : ∃ z : Int, bits .and .i64 kind 31 = z ∧ 0 ≤ z ∧ z ≤ 31 := ⟨kind % 32, by rw [and31], by omega, by omega⟩
  obtain ⟨y, hy, hy0⟩ : ∃ y : Int, bits .and .i64 N 255 = y ∧ 0 ≤ y ∧ y ≤ 255 := ⟨N % 256, by rw [and255c], by omega, by omega⟩
  have hm : z.tmod 15 = z % 15 := Int.tmod_eq_emod_of_nonneg hz0.1
  obtain ⟨q, hq, hq15⟩ : ∃ q : Int, z.tmod 15 = q ∧ (q = 0 ∨ q = 1 ∨ q = 2 ∨ q = 3 ∨ q = 4 ∨ q = 5 ∨ q = 6 ∨ q = 7 ∨ q = 8 ∨ q = 9 ∨ q = 10 ∨ q = 11 ∨ q = 12 ∨ q = 13 ∨ q = 14) := ⟨z % 15, hm, by omega⟩
  rcases hq15 with rfl | rfl | rfl | rfl | rfl | rfl | rfl | rfl | rfl | rfl | rfl | rfl | rfl | rfl | rfl
  · exact bad_law0 A n c f ln lc lb ll kind N z hz hq y hy hy0.1 hy0.2
  · exact bad_law1 A n c f ln lc lb ll kind N z hz hq y hy hy0.1 hy0.2
  · exact bad_law2 A n c f ln lc lb ll kind N z hz hq y hy hy0.1 hy0.2
  · exact bad_law3 A n c f ln lc lb ll kind N z hz hq y hy hy0.1 hy0.2
  · exact bad_law4 A n c f ln lc lb ll kind N z hz hq y hy hy0.1 hy0.2
  · exact bad_law5 A n c f ln lc lb ll kind N z hz hq y hy hy0.1 hy0.2
  · exact bad_law6 A n c f ln lc lb ll kind N z hz hq y hy hy0.1 hy0.2
  · exact bad_law7 A n c f ln lc lb ll kind N z hz hq y hy hy0.1 hy0.2
  · exact bad_law8 A n c f ln lc lb ll kind N z hz hq y hy hy0.1 hy0.2
  · exact bad_law9 A n c f ln lc lb ll kind N z hz hq y hy hy0.1 hy0.2
  · exact bad_law10 A n c f ln lc lb ll kind N z hz hq y hy hy0.1 hy0.2
  · exact bad_law11 A n c f ln lc lb ll kind N z hz hq y hy hy0.1 hy0.2
  · exact bad_law12 A n c f ln lc lb ll kind N z hz hq y hy hy0.1 hy0.2
  · exact bad_law13 A n c f ln lc lb ll kind N z hz hq y hy hy0.1 hy0.2
  · exact bad_law14 A n c f ln lc lb ll kind N z hz hq y hy hy0.1 hy0.2
end Go.Proofs.Ytopbildpeojgoaa.Ck
end
