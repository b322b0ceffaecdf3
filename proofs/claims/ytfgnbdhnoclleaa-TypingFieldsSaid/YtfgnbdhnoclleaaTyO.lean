/- The law TypingFields. -/
import Derived.Test.YtfgnbdhnoclleaaTyN
import Derived.Test.YtfgnbdhnoclleaaLaw
import Derived.Test.YtfgnbdhnoclleaaOpen
import Derived.Test.YtfgnbdhnoclleaaBits
import Derived.Deep.DeepCutAuto
import Derived.Deep.CutBlock
namespace Go.Proofs.Ytfgnbdhnoclleaa.Ty
open Go.RowKit Go.Proofs.Ytfgnbdhnoclleaa Go.Proofs.Ytfgnbdhnoclleaa.Sch
set_option linter.unusedVariables false
set_option maxRecDepth 100000
theorem and1 (n : Int) : bits .and .i64 n 1 = n % 2 := by
  have hm : (BitVec.ofInt 64 1).toNat = 2 ^ 1 - 1 := by decide
  have key : (BitVec.ofInt 64 n &&& BitVec.ofInt 64 1).toNat = (n % ((2 ^ 64 : Nat) : Int)).toNat % 2 ^ 1 := by
    rw [BitVec.toNat_and, BitVec.toNat_ofInt, hm, Nat.and_two_pow_sub_one_eq_mod]
  show IntKind.i64.wrap ((BitVec.ofInt 64 n &&& BitVec.ofInt 64 1).toNat : Nat) = n % 2
  rw [key, IntKind.wrap_i64]
  omega
theorem bit_of {x : Int} {y : Nat} (h : x % 2 = (y % 2 : Nat)) : (x % 2 == 1) = decide (y % 2 = 1) := by
  by_cases e : y % 2 = 1
  · rw [decide_eq_true e]; simp; omega
  · rw [decide_eq_false e]; simp; omega
theorem bit_at (a : Int) (q i : Nat) (h : a % 8 = (q : Int)) (hi : i < 3) : (bits .and .i64 (a / 2 ^ i) 1 == 1) = decide (q / 2 ^ i % 2 = 1) := by
  rw [and1]
  refine bit_of ?_
  match i, hi with
  | 0, _ => rw [show (2 : Int) ^ 0 = 1 from rfl, show (2 : Nat) ^ 0 = 1 from rfl]; omega
  | 1, _ => rw [show (2 : Int) ^ 1 = 2 from rfl, show (2 : Nat) ^ 1 = 2 from rfl]; omega
  | 2, _ => rw [show (2 : Int) ^ 2 = 4 from rfl, show (2 : Nat) ^ 2 = 4 from rfl]; omega
theorem one_newsS' (w : World) (x : Value) : ∀ j u, [x][j]? = some u → ((w.alloc (.cells #[.string ⟨#[65]⟩, .string ⟨#[66]⟩, .string ⟨#[67]⟩] 9)).alloc (.cells #[x] 9)).cell? ((⟨w.heap.size + 1, 0, none⟩ : Addr).add j) = some u := by
  intro j u hj
  have := one_newsS (w.alloc (.cells #[.string ⟨#[65]⟩, .string ⟨#[66]⟩, .string ⟨#[67]⟩] 9)) x j u hj
  simpa using this
theorem kind_nil (p : Option Addr) (sv : Value) (w : World) (A : Option Addr) (n c : Nat) (hsv : sv = .slice A n c) : Calls Try.prog 31 #[.pointer p, sv, .slice none 0 0] w fun e w' => e = .returned (.tuple #[.int .i64 0, .int .i64 1]) ∧ Below w.heap.size w w' := by
  subst hsv
  go_enter Try.func31, Try.ntmps31
  go_wp2_with fail
  refine (tmay_nil _).mono ?_
  rintro e w' ⟨rfl, rfl⟩
  go_wp2
  go_ret2
  exact ⟨rfl, by go_grown⟩
theorem sl_seg {w : World} {v : Value} {L : List ByteArray} {ob : Option Nat} (h : Seg w 9 1 v L.length (L.map Value.string) ob) : SL w w.heap.size v L := by
  obtain ⟨A, c, rfl, h1, h2⟩ := h.form
  refine ⟨A, c, rfl, h1, by unfold maxLen at h2; omega, fun k hk => ?_⟩
  obtain ⟨g, o, cap, e, hob, _, _, hc, _⟩ := h.shape (by omega)
  injection e with e1 e2 e3
  subst e1 e3
  exact ⟨g, o, rfl, h.lt g hob, hc k _ (by simp [hk])⟩
theorem bs_made (W : World) (q : Nat) (v : Value) {ob : Option Nat} (h : Seg W 9 1 v (subs q 3).length ((subs q 3).map Value.string) ob) : Bs (W.alloc (.cells #[.string nv, v] 70)) (W.heap.size + 1) (.slice (some ⟨W.heap.size, 0, none⟩) 1 1) (scF q) := by
  have r := Row.made W 70 #[.string nv, v]
  have hs := (sl_seg h).below (show Below W.heap.size W (W.alloc (.cells #[.string nv, v] 70)) from (Below.refl _ W).alloc (Nat.le_refl _) _) (show W.heap.size ≤ W.heap.size + 1 by omega)
  refine ⟨_, 1, rfl, Nat.le_refl _, by omega, fun k hk => ?_⟩
  match k, hk with
  | 0, _ => exact ⟨W.heap.size, 0, v, rfl, by omega, (r.cell 0).trans rfl, (r.cell 1).trans rfl, hs⟩
  | k + 1, h => exact absurd (show k + 1 < 1 from h) (by omega)
theorem ns_made (W : World) (v f : ByteArray) : Ns (W.alloc (.cells #[.int .i64 2, .int .i64 0, .int .i64 0, .string ⟨#[]⟩, .bool false, .string v, .string f] 74)) (W.alloc (.cells #[.int .i64 2, .int .i64 0, .int .i64 0, .string ⟨#[]⟩, .bool false, .string v, .string f] 74)).heap.size (.slice (some ⟨W.heap.size, 0, none⟩) 1 1) (ndF v f) :=
  ns_row (Row.made W _ _) (l := ndF v f) rfl rfl (by decide)
theorem subs_le (q : Nat) : ∀ i, i ≤ 3 → (subs q i).length ≤ 3
  | 0, _ => by simp [subs]
  | 1, _ => by simp only [subs]; split <;> simp
  | 2, _ => by simp only [subs]; split <;> split <;> simp
  | 3, _ => by simp only [subs]; split <;> split <;> split <;> simp
/-- The types picked so far. -/
structure Sub (w W : World) (v : Value) (L : List ByteArray) : Prop where
  ex : ∃ ob, Seg W 9 1 v L.length (L.map Value.string) ob ∧ ∀ g, ob = some g → w.heap.size ≤ g
  be : Below w.heap.size w W
set_option maxHeartbeats 8000000 in
theorem fields_law (a : Int) (wa : (Lit.int .i64 a).wf = true) (w : World) :
    Calls Try.prog 6 #[.int .i64 a] w fun e w' => e = .returned (.bool true) ∧ Below w.heap.size w w' := by
  obtain ⟨q, hq, hq8⟩ : ∃ q : Nat, a % 8 = (q : Int) ∧ q < 8 := ⟨(a % 8).toNat, by omega, by omega⟩
  have h7 : bits .and .i64 a 7 = (q : Int) := by rw [and7]; exact hq
  have H7 := Lib.hid h7
  have HQ := Lib.hid hq
  have HT := Lib.hid (ts_made w)
  clear h7 hq wa
  go_enter Try.func6, Try.ntmps6
  go_wp2_with fail
  refine (new_any _ typesF _ _ HT.out (by simp)).mono ?_
  rintro e w2 ⟨p, c, rfl, hr, hsc, _, hb2⟩
  obtain rfl := typesF_ok hr
  have HS := Lib.hid (hsc rfl)
  have HB2 : Hid (Below w.heap.size w w2) := Lib.hid (Below.trans (by go_grown) (hb2.mono (by simp; omega)))
  clear hb2 hr hsc
  go_wp2_with fail
  have H0 : Hid (Sub w2 (w2.alloc (.cells #[] 9)) (.slice (some ⟨w2.heap.size, 0, none⟩) 0 0) (subs q 0)) := Lib.hid ⟨⟨none, ⟨rfl, _, 0, rfl, Nat.le_refl _, by unfold maxLen; omega, .inl ⟨rfl, rfl, fun _ => trivial⟩⟩, fun _ e => by cases e⟩, (Below.refl _ w2).alloc (Nat.le_refl _) _⟩
  go_loopw [5, 6] (fun s5 s6 wr => ∃ i : Nat, i ≤ 3 ∧ s6 = .int .i64 i ∧ Hid (Sub w2 wr s5 (subs q i))) (fun _ s6 _ => 3 - (intOf s6).toNat)
  case atStart => exact ⟨0, by omega, rfl, H0⟩
  case round =>
    obtain ⟨i, hi, rfl, hj⟩ := hrel
    obtain ⟨⟨ob, hsg, hob⟩, hbe⟩ := hj.out
    obtain ⟨V, rfl⟩ : ∃ V, V = wr := ⟨_, rfl⟩
    have HSG := Lib.hid hsg
    have HOB := Lib.hid hob
    have HBE := Lib.hid hbe
    obtain ⟨A5, c5, rfl, hn5, hm5⟩ := hsg.form
    clear hj H0 hsg hob hbe
    by_cases hlt : i < 3
    · have hii : (i : Int) < 3 := by omega
      have hbit := bit_at a q i HQ.out hlt
      by_cases hp : q / 2 ^ i % 2 = 1
      · have hb : (bits .and .i64 (a / 2 ^ i) 1 == 1) = true := by rw [hbit]; exact decide_eq_true hp
        have hsub : subs q (i + 1) = subs q i ++ [nmAt i] := by
          show (if q / 2 ^ i % 2 = 1 then subs q i ++ [nmAt i] else subs q i) = _
          rw [if_pos hp]
        have HSUB := Lib.hid hsub
        have HP := Lib.hid hp
        obtain ⟨i0, hi0, hz0, hz1, hz2⟩ := info_parts string_info
        have hnm : (V.alloc (.cells #[.string ⟨#[65]⟩, .string ⟨#[66]⟩, .string ⟨#[67]⟩] 9)).cell? ⟨V.heap.size, i, none⟩ = some (.string (nmAt i)) := by
          rw [(Row.made V 9 #[.string ⟨#[65]⟩, .string ⟨#[66]⟩, .string ⟨#[67]⟩]).cell i]
          match i, hlt with
          | 0, _ => rfl
          | 1, _ => rfl
          | 2, _ => rfl
        have hsl : (subs q i).length ≤ 3 := subs_le q i hi
        have HSLN := Lib.hid hsl
        obtain ⟨nm, hnm2⟩ : ∃ nm, nmAt i = nm := ⟨_, rfl⟩
        rw [hnm2] at hnm
        have HNM := Lib.hid hnm2
        clear hbit hsub hp hsl hnm2
        go_wp2_with (at_builtin; refine wpList_append_seg _ rfl _ _ 67 rfl 9 i0 _ 1 16 Try.underlying67 hi0 hz0 hz1 hz2 rfl (by decide) _ (subs q i).length ((subs q i).map Value.string) ob rfl ((HSG.out.alloc _).alloc _) ⟨V.heap.size + 1, 0, none⟩ 1 1 [.string nm] rfl rfl (one_newsS' _ _) (by simp [Value.oneCell']) (by decide) (by have := HSLN.out; unfold maxLen; omega) (by have := HSLN.out; omega) ?_; intro v5 w5 o5 hs5 ht5 ho5; obtain ⟨A7, c7, rfl, hn7, hm7⟩ := hs5.form; go_frame)
        have hown : ∀ g, o5 = some g → w2.heap.size ≤ g := fun g e => by
          rcases ho5 with hh | ⟨g', hh, hg'⟩
          · exact HOB.out g (by rw [← hh]; exact e)
          · rw [hh] at e; injection e with e; subst e; simp at hg'; have := HBE.out.size; omega
        have hbe5 : Below w2.heap.size w2 w5 := ht5.below ((HBE.out.alloc HBE.out.size _).alloc (by have := HBE.out.size; simp; omega) _) (by have := HBE.out.size; simp; omega) (fun k hk e => by have := HOB.out k e; omega)
        have hseg : Seg w5 9 1 (.slice A7 ((subs q i).length + 1) c7) (subs q (i + 1)).length ((subs q (i + 1)).map Value.string) o5 := by
          rw [HSUB.out, HNM.out, List.length_append, List.map_append]
          exact hs5
        go_roundw
        case rel => exact ⟨i + 1, by omega, by go_num, Lib.hid ⟨⟨o5, hseg, hown⟩, hbe5⟩⟩
        case measure => simp [intOf]; omega
      · have hb : (bits .and .i64 (a / 2 ^ i) 1 == 1) = false := by rw [hbit]; exact decide_eq_false hp
        have hsub : subs q (i + 1) = subs q i := by
          show (if q / 2 ^ i % 2 = 1 then subs q i ++ [nmAt i] else subs q i) = _
          rw [if_neg hp]
        have HSUB := Lib.hid hsub
        clear hbit hsub hp
        go_wp2
        go_roundw
        case rel => exact ⟨i + 1, by omega, by go_num, Lib.hid (by rw [HSUB.out]; exact ⟨⟨ob, HSG.out, HOB.out⟩, HBE.out⟩)⟩
        case measure => simp [intOf]; omega
    · obtain rfl : i = 3 := by omega
      -- the four questions
      have hbw := bs_made V q _ HSG.out
      have hv2 : w2.heap.size ≤ V.heap.size := HBE.out.size
      have hs1 : Sc (V.alloc (.cells #[.string nv, .slice A5 (subs q 3).length c5] 70)) (V.heap.size + 1) p typesF := HS.out.below (HBE.out.alloc hv2 _) (by omega)
      have hb1 : Below w2.heap.size w2 (V.alloc (.cells #[.string nv, .slice A5 (subs q 3).length c5] 70)) := HBE.out.alloc hv2 _
      have hz1 : (V.alloc (.cells #[.string nv, .slice A5 (subs q 3).length c5] 70)).heap.size = V.heap.size + 1 := by simp
      obtain ⟨W1, hW1⟩ : ∃ W1, W1 = V.alloc (.cells #[.string nv, .slice A5 (subs q 3).length c5] 70) := ⟨_, rfl⟩
      rw [← hW1] at hbw hs1 hb1 hz1
      rw [← hz1] at hbw hs1
      have HA0 := Lib.hid hbw
      have HC0 := Lib.hid hs1
      have HE0 := Lib.hid hb1
      have HW1 := Lib.hid hW1
      have HZ1 := Lib.hid hz1
      clear hbw hs1 hb1 hz1 hv2
      clear hW1
      obtain ⟨x1, x2, hx⟩ : ∃ x1 x2, okx q = (x1, x2) := ⟨_, _, rfl⟩
      obtain ⟨y1, y2, hy⟩ : ∃ y1 y2, oky q = (y1, y2) := ⟨_, _, rfl⟩
      have HX := Lib.hid hx
      have HY := Lib.hid hy
      clear hx hy
      have hn0 := ns_made W1 nv sx
      have hB0 : Below W1.heap.size W1 (W1.alloc (.cells #[.int .i64 2, .int .i64 0, .int .i64 0, .string ⟨#[]⟩, .bool false, .string nv, .string sx] 74)) := (Below.refl _ W1).alloc (Nat.le_refl _) _
      have hk0 := kind_any p typesF (.slice (some ⟨V.heap.size, 0, none⟩) 1 1) (scF q) _ (ndF nv sx) _ (HC0.out.below hB0 hB0.size) (HA0.out.below hB0 hB0.size) hn0 gvx
      rw [(kx q hq8).trans HX.out] at hk0
      have HK0 := Lib.hid hk0
      have HH0 := Lib.hid hB0
      clear hn0 hB0 hk0
      go_wp2_with fail
      rw [HW1.out] at HK0
      simp only [World.size_alloc] at HK0
      refine HK0.out.mono ?_
      rintro e U1 ⟨rfl, hu0⟩
      rw [← HW1.out] at hu0
      have hU0 : Below W1.heap.size W1 U1 := HH0.out.trans (hu0.mono HH0.out.size)
      have HC1 := Lib.hid (HC0.out.below hU0 hU0.size)
      have HA1 := Lib.hid (HA0.out.below hU0 hU0.size)
      have HE1 := Lib.hid (HE0.out.trans (hU0.mono HE0.out.size))
      clear hu0 hU0
      have hn1 := ns_made U1 nv ny
      have hB1 : Below U1.heap.size U1 (U1.alloc (.cells #[.int .i64 2, .int .i64 0, .int .i64 0, .string ⟨#[]⟩, .bool false, .string nv, .string ny] 74)) := (Below.refl _ U1).alloc (Nat.le_refl _) _
      have hk1 := kind_any p typesF (.slice (some ⟨V.heap.size, 0, none⟩) 1 1) (scF q) _ (ndF nv ny) _ (HC1.out.below hB1 hB1.size) (HA1.out.below hB1 hB1.size) hn1 gvy
      rw [(ky q hq8).trans HY.out] at hk1
      have HK1 := Lib.hid hk1
      have HH1 := Lib.hid hB1
      clear hn1 hB1 hk1
      go_wp2_with fail
      refine HK1.out.mono ?_
      rintro e U2 ⟨rfl, hu1⟩
      have hU1 : Below U1.heap.size U1 U2 := HH1.out.trans (hu1.mono HH1.out.size)
      have HC2 := Lib.hid (HC1.out.below hU1 hU1.size)
      have HA2 := Lib.hid (HA1.out.below hU1 hU1.size)
      have HE2 := Lib.hid (HE1.out.trans (hU1.mono HE1.out.size))
      clear hu1 hU1
      have hn2 := ns_made U2 nw sx
      have hB2 : Below U2.heap.size U2 (U2.alloc (.cells #[.int .i64 2, .int .i64 0, .int .i64 0, .string ⟨#[]⟩, .bool false, .string nw, .string sx] 74)) := (Below.refl _ U2).alloc (Nat.le_refl _) _
      have hk2 := kind_any p typesF (.slice (some ⟨V.heap.size, 0, none⟩) 1 1) (scF q) _ (ndF nw sx) _ (HC2.out.below hB2 hB2.size) (HA2.out.below hB2 hB2.size) hn2 gwx
      rw [kw q] at hk2
      have HK2 := Lib.hid hk2
      have HH2 := Lib.hid hB2
      clear hn2 hB2 hk2
      go_wp2_with fail
      refine HK2.out.mono ?_
      rintro e U3 ⟨rfl, hu2⟩
      have hU2 : Below U2.heap.size U2 U3 := HH2.out.trans (hu2.mono HH2.out.size)
      have HC3 := Lib.hid (HC2.out.below hU2 hU2.size)
      have HA3 := Lib.hid (HA2.out.below hU2 hU2.size)
      have HE3 := Lib.hid (HE2.out.trans (hU2.mono HE2.out.size))
      clear hu2 hU2
      go_wp2_with fail
      refine (kind_nil p _ _ _ _ _ rfl).mono ?_
      rintro e U4 ⟨rfl, hu4⟩
      have HE4 := Lib.hid (HE3.out.trans (hu4.mono HE3.out.size))
      clear hu4
      have hq7 := H7.out
      have hxx := HX.out
      have hyy := HY.out
      rcases (show q = 0 ∨ q = 1 ∨ q = 2 ∨ q = 3 ∨ q = 4 ∨ q = 5 ∨ q = 6 ∨ q = 7 from by omega) with rfl | rfl | rfl | rfl | rfl | rfl | rfl | rfl
      · have h7' : bits .and .i64 a 7 = 0 := hq7.trans rfl
        obtain ⟨rfl, rfl⟩ : x1 = 0 ∧ x2 = 10 := by have : okx 0 = (0, 10) := rfl; rw [this] at hxx; injection hxx with e1 e2; exact ⟨e1.symm, e2.symm⟩
        obtain ⟨rfl, rfl⟩ : y1 = 0 ∧ y2 = 10 := by have : oky 0 = (0, 10) := rfl; rw [this] at hyy; injection hyy with e1 e2; exact ⟨e1.symm, e2.symm⟩
        clear hq7 hxx hyy
        go_wp2_with fail
        refine (awake_any _).mono ?_
        rintro e U5 ⟨rfl, hu5⟩
        have HE5 := Lib.hid (HE4.out.trans (hu5.mono HE4.out.size))
        clear hu5
        go_wp2
        go_ret
        exact ⟨rfl, HB2.out.trans (HE5.out.mono HB2.out.size)⟩
      · have h7' : bits .and .i64 a 7 = 1 := hq7.trans rfl
        obtain ⟨rfl, rfl⟩ : x1 = 1 ∧ x2 = 0 := by have : okx 1 = (1, 0) := rfl; rw [this] at hxx; injection hxx with e1 e2; exact ⟨e1.symm, e2.symm⟩
        obtain ⟨rfl, rfl⟩ : y1 = 0 ∧ y2 = 10 := by have : oky 1 = (0, 10) := rfl; rw [this] at hyy; injection hyy with e1 e2; exact ⟨e1.symm, e2.symm⟩
        clear hq7 hxx hyy
        go_wp2_with fail
        refine (awake_any _).mono ?_
        rintro e U5 ⟨rfl, hu5⟩
        have HE5 := Lib.hid (HE4.out.trans (hu5.mono HE4.out.size))
        clear hu5
        go_wp2
        go_ret
        exact ⟨rfl, HB2.out.trans (HE5.out.mono HB2.out.size)⟩
      · have h7' : bits .and .i64 a 7 = 2 := hq7.trans rfl
        obtain ⟨rfl, rfl⟩ : x1 = 2 ∧ x2 = 0 := by have : okx 2 = (2, 0) := rfl; rw [this] at hxx; injection hxx with e1 e2; exact ⟨e1.symm, e2.symm⟩
        obtain ⟨rfl, rfl⟩ : y1 = 0 ∧ y2 = 10 := by have : oky 2 = (0, 10) := rfl; rw [this] at hyy; injection hyy with e1 e2; exact ⟨e1.symm, e2.symm⟩
        clear hq7 hxx hyy
        go_wp2_with fail
        refine (awake_any _).mono ?_
        rintro e U5 ⟨rfl, hu5⟩
        have HE5 := Lib.hid (HE4.out.trans (hu5.mono HE4.out.size))
        clear hu5
        go_wp2
        go_ret
        exact ⟨rfl, HB2.out.trans (HE5.out.mono HB2.out.size)⟩
      · have h7' : bits .and .i64 a 7 = 3 := hq7.trans rfl
        obtain ⟨rfl, rfl⟩ : x1 = 0 ∧ x2 = 10 := by have : okx 3 = (0, 10) := rfl; rw [this] at hxx; injection hxx with e1 e2; exact ⟨e1.symm, e2.symm⟩
        obtain ⟨rfl, rfl⟩ : y1 = 0 ∧ y2 = 10 := by have : oky 3 = (0, 10) := rfl; rw [this] at hyy; injection hyy with e1 e2; exact ⟨e1.symm, e2.symm⟩
        clear hq7 hxx hyy
        go_wp2_with fail
        refine (awake_any _).mono ?_
        rintro e U5 ⟨rfl, hu5⟩
        have HE5 := Lib.hid (HE4.out.trans (hu5.mono HE4.out.size))
        clear hu5
        go_wp2
        go_ret
        exact ⟨rfl, HB2.out.trans (HE5.out.mono HB2.out.size)⟩
      · have h7' : bits .and .i64 a 7 = 4 := hq7.trans rfl
        obtain ⟨rfl, rfl⟩ : x1 = 0 ∧ x2 = 10 := by have : okx 4 = (0, 10) := rfl; rw [this] at hxx; injection hxx with e1 e2; exact ⟨e1.symm, e2.symm⟩
        obtain ⟨rfl, rfl⟩ : y1 = 3 ∧ y2 = 0 := by have : oky 4 = (3, 0) := rfl; rw [this] at hyy; injection hyy with e1 e2; exact ⟨e1.symm, e2.symm⟩
        clear hq7 hxx hyy
        go_wp2_with fail
        refine (awake_any _).mono ?_
        rintro e U5 ⟨rfl, hu5⟩
        have HE5 := Lib.hid (HE4.out.trans (hu5.mono HE4.out.size))
        clear hu5
        go_wp2
        go_ret
        exact ⟨rfl, HB2.out.trans (HE5.out.mono HB2.out.size)⟩
      · have h7' : bits .and .i64 a 7 = 5 := hq7.trans rfl
        obtain ⟨rfl, rfl⟩ : x1 = 0 ∧ x2 = 10 := by have : okx 5 = (0, 10) := rfl; rw [this] at hxx; injection hxx with e1 e2; exact ⟨e1.symm, e2.symm⟩
        obtain ⟨rfl, rfl⟩ : y1 = 0 ∧ y2 = 10 := by have : oky 5 = (0, 10) := rfl; rw [this] at hyy; injection hyy with e1 e2; exact ⟨e1.symm, e2.symm⟩
        clear hq7 hxx hyy
        go_wp2_with fail
        refine (awake_any _).mono ?_
        rintro e U5 ⟨rfl, hu5⟩
        have HE5 := Lib.hid (HE4.out.trans (hu5.mono HE4.out.size))
        clear hu5
        go_wp2
        go_ret
        exact ⟨rfl, HB2.out.trans (HE5.out.mono HB2.out.size)⟩
      · have h7' : bits .and .i64 a 7 = 6 := hq7.trans rfl
        obtain ⟨rfl, rfl⟩ : x1 = 0 ∧ x2 = 10 := by have : okx 6 = (0, 10) := rfl; rw [this] at hxx; injection hxx with e1 e2; exact ⟨e1.symm, e2.symm⟩
        obtain ⟨rfl, rfl⟩ : y1 = 0 ∧ y2 = 10 := by have : oky 6 = (0, 10) := rfl; rw [this] at hyy; injection hyy with e1 e2; exact ⟨e1.symm, e2.symm⟩
        clear hq7 hxx hyy
        go_wp2_with fail
        refine (awake_any _).mono ?_
        rintro e U5 ⟨rfl, hu5⟩
        have HE5 := Lib.hid (HE4.out.trans (hu5.mono HE4.out.size))
        clear hu5
        go_wp2
        go_ret
        exact ⟨rfl, HB2.out.trans (HE5.out.mono HB2.out.size)⟩
      · have h7' : bits .and .i64 a 7 = 7 := hq7.trans rfl
        obtain ⟨rfl, rfl⟩ : x1 = 0 ∧ x2 = 10 := by have : okx 7 = (0, 10) := rfl; rw [this] at hxx; injection hxx with e1 e2; exact ⟨e1.symm, e2.symm⟩
        obtain ⟨rfl, rfl⟩ : y1 = 0 ∧ y2 = 10 := by have : oky 7 = (0, 10) := rfl; rw [this] at hyy; injection hyy with e1 e2; exact ⟨e1.symm, e2.symm⟩
        clear hq7 hxx hyy
        go_wp2_with fail
        refine (awake_any _).mono ?_
        rintro e U5 ⟨rfl, hu5⟩
        have HE5 := Lib.hid (HE4.out.trans (hu5.mono HE4.out.size))
        clear hu5
        go_wp2
        go_ret
        exact ⟨rfl, HB2.out.trans (HE5.out.mono HB2.out.size)⟩
end Go.Proofs.Ytfgnbdhnoclleaa.Ty
