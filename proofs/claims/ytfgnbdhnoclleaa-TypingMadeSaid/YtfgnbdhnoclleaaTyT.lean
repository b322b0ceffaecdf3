/- The law TypingMade. -/
import Derived.Test.YtfgnbdhnoclleaaTyS
import Derived.Test.YtfgnbdhnoclleaaLaw
namespace Go.Proofs.Ytfgnbdhnoclleaa.Ty
open Go.RowKit Go.Proofs.Ytfgnbdhnoclleaa Go.Proofs.Ytfgnbdhnoclleaa.Sch
set_option linter.unusedVariables false
set_option maxRecDepth 100000
theorem truth_two (A : Option Addr) (n c : Nat) (f : Nat → Int) (ln : n ≤ c) (lc : c ≤ 9223372036854775807) (a : Nat) (w : World) (ha : a + tb 2 ≤ 100000) (hlb : ∃ B, Lies w B A n (fun k => .int .i64 (f k)) ∧ B ≤ w.heap.size) :
    Calls Try.prog 29 #[.slice A n c, .int .i64 a, .int .i64 (2 : Nat)] w (MadePost w 3 (tb 2) a (tb 2)) := by
  refine truth_leaf A n c f ln lc a 2 (by decide) w ha hlb (Lib.hid fun d hd a w ha hlb => ?_)
  obtain rfl : d = 1 := by omega
  refine truth_leaf A n c f ln lc a 1 (by decide) w ha hlb (Lib.hid fun d hd a w ha hlb => ?_)
  obtain rfl : d = 0 := by omega
  exact truth_leaf A n c f ln lc a 0 (by decide) w ha hlb (Lib.hid fun d hd => by omega)
theorem Gn.ns {w w' : World} {v : Value} {L : List Nd} (h : Gn w w' v L) : Ns w' w'.heap.size v L := by
  obtain ⟨ob, hs, _⟩ := h.ex
  obtain ⟨A, c, rfl, _⟩ := hs.form
  exact ns_seg hs rfl
set_option maxHeartbeats 8000000 in
theorem made_law (A : Option Addr) (n c : Nat) (f : Nat → Int) (ln : n ≤ c) (lc : c ≤ 9223372036854775807) (lb : ∀ k, -9223372036854775808 ≤ f k ∧ f k ≤ 9223372036854775807) {w : World} (ll : Lies w w.heap.size A n (fun k => .int .i64 (f k)))
    (a : Int) (wa : (Lit.int .i64 a).wf = true) :
    Calls Try.prog 5 #[.slice A n c, .int .i64 a] w fun e w' => e = .returned (.bool true) ∧ Below w.heap.size w w' := by
  have HL := Lib.hid ll
  clear ll lb wa
  go_enter Try.func5, Try.ntmps5
  go_wp2_with fail
  refine (types_any _).mono ?_
  rintro e w1 ⟨v1, rfl, ht1, hb1⟩
  have HT1 := Lib.hid ht1
  clear ht1
  go_wp2_with fail
  refine (new_any _ typesL _ _ HT1.out (Nat.le_refl _)).mono ?_
  rintro e w2 ⟨p, cc, rfl, hr, hsc, _, hb2⟩
  obtain rfl := typesL_ok hr
  have HS2 := Lib.hid (hsc rfl)
  have HB2 := Lib.hid (hb1.trans (hb2.mono hb1.size))
  clear hb1 hb2 hr hsc
  have h1 := truth_two A n c f ln lc 0 w2 (by decide) ⟨_, HL.out.below HB2.out, HB2.out.size⟩
  have H1 := Lib.hid h1
  clear h1
  go_wp2_with fail
  refine H1.out.mono ?_
  rintro e w3 ⟨v3, L3, a3, rfl, hg3, hp3, _⟩
  have HN3 := Lib.hid hg3.ns
  have HP3 := Lib.hid hp3
  have HS3 := Lib.hid (HS2.out.below hg3.be hg3.be.size)
  have HB3 := Lib.hid (HB2.out.trans (hg3.be.mono HB2.out.size))
  have h2 := number_any A n c f ln lc 3 0 w3 (by decide) ⟨_, HL.out.below HB3.out, HB3.out.size⟩
  have H2 := Lib.hid h2
  obtain ⟨_, hs3, _⟩ := hg3.ex
  obtain ⟨A3, c3, rfl, _⟩ := hs3.form
  clear h2 hg3 hp3 hs3
  go_wp2_with fail
  refine H2.out.mono ?_
  rintro e w4 ⟨v4, L4, a4, rfl, hg4, hp4, _⟩
  have HN4 := Lib.hid hg4.ns
  have HP4 := Lib.hid hp4
  have HS4 := Lib.hid (HS3.out.below hg4.be hg4.be.size)
  have HB4 := Lib.hid (HB3.out.trans (hg4.be.mono HB3.out.size))
  have HN34 := Lib.hid (HN3.out.below hg4.be hg4.be.size)
  obtain ⟨_, hs4, _⟩ := hg4.ex
  obtain ⟨A4, c4, rfl, _⟩ := hs4.form
  clear hg4 hp4 hs4
  go_wp2_with fail
  refine (scope_any a _).mono ?_
  rintro e w5 ⟨v5, x5, y5, z5, rfl, hs5, hb5⟩
  have HBS5 := Lib.hid hs5
  have HS5 := Lib.hid (HS4.out.below hb5 hb5.size)
  have HN35 := Lib.hid (HN34.out.below hb5 hb5.size)
  have HN45 := Lib.hid (HN4.out.below hb5 hb5.size)
  have HB5 := Lib.hid (HB4.out.trans (hb5.mono HB4.out.size))
  have hk5 := kind_any p typesL v5 (scN x5 y5 z5) _ L3 w5 HS5.out HBS5.out HN35.out ((HP3.out x5 y5 z5).good (by decide))
  rw [(HP3.out x5 y5 z5).kind] at hk5
  have HK5 := Lib.hid hk5
  obtain ⟨bA, bc, rfl, _⟩ := hs5
  clear hb5 hk5
  go_wp2_with fail
  refine HK5.out.mono ?_
  rintro e w6 ⟨rfl, hb6⟩
  have HS6 := Lib.hid (HS5.out.below hb6 hb6.size)
  have HN46 := Lib.hid (HN45.out.below hb6 hb6.size)
  have HB6 := Lib.hid (HB5.out.trans (hb6.mono HB5.out.size))
  clear hb6
  go_wp2_with fail
  refine (scope_any a _).mono ?_
  rintro e w7 ⟨v7, x7, y7, z7, rfl, hs7, hb7⟩
  have HBS7 := Lib.hid hs7
  have HS7 := Lib.hid (HS6.out.below hb7 hb7.size)
  have HN47 := Lib.hid (HN46.out.below hb7 hb7.size)
  have HB7 := Lib.hid (HB6.out.trans (hb7.mono HB6.out.size))
  have hk7 := kind_any p typesL v7 (scN x7 y7 z7) _ L4 w7 HS7.out HBS7.out HN47.out ((HP4.out x7 y7 z7).good (by decide))
  rw [(HP4.out x7 y7 z7).kind] at hk7
  have HK7 := Lib.hid hk7
  obtain ⟨bA7, bc7, rfl, _⟩ := hs7
  clear hb7 hk7
  go_wp2_with fail
  refine HK7.out.mono ?_
  rintro e w8 ⟨rfl, hb8⟩
  have HB8 := Lib.hid (HB7.out.trans (hb8.mono HB7.out.size))
  clear hb8
  go_wp2_with fail
  refine (awake_any _).mono ?_
  rintro e w9 ⟨rfl, hb9⟩
  have HB9 := Lib.hid (HB8.out.trans (hb9.mono HB8.out.size))
  clear hb9
  go_wp2
  go_ret
  exact ⟨rfl, HB9.out⟩
end Go.Proofs.Ytfgnbdhnoclleaa.Ty
