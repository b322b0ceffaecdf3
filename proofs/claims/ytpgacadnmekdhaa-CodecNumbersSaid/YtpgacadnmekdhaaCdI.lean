/- The walk of the law CodecNumbers. -/
import Derived.Test.YtpgacadnmekdhaaCdH
import Derived.Test.YtpgacadnmekdhaaBits
import Derived.Deep.RegionWith
import Derived.Test.YtpgacadnmekdhaaOpen
namespace Go.Proofs.Ytpgacadnmekdhaa.Cd
open Go.RowKit Go.Proofs.Ytpgacadnmekdhaa Go.ChangeShapes Go.WideShapes
set_option linter.unusedVariables false
set_option maxRecDepth 100000
/-- What is put at i. -/
def item (f : Nat → Int) (t : ByteArray) (i : Nat) : List UInt8 :=
  if i % 4 = 0 then ub (f i).toNat else if i % 4 = 1 then ub (zig (IntKind.i64.wrap (f i))) else if i % 4 = 2 then tb t.data.toList else rb (bits .and .u64 (f i) 1 == 1)
def tl (f : Nat → Int) (t : ByteArray) : Nat → Nat → List UInt8
  | 0, _ => []
  | j + 1, k => item f t k ++ tl f t j (k + 1)
theorem tl_step (f : Nat → Int) (t : ByteArray) {m k : Nat} (h : k < m) : tl f t (m - k) k = item f t k ++ tl f t (m - (k + 1)) (k + 1) := by
  obtain ⟨d, hd⟩ : ∃ d, m - k = d + 1 := ⟨m - k - 1, by omega⟩
  rw [hd, show m - (k + 1) = d by omega]
  rfl
theorem wrap_bounds (x : Int) : -9223372036854775808 ≤ IntKind.i64.wrap x ∧ IntKind.i64.wrap x ≤ 9223372036854775807 := by
  rw [IntKind.wrap_i64]
  omega
theorem item_len (f : Nat → Int) (t : ByteArray) (k : Nat) (hf : 0 ≤ f k ∧ f k < 18446744073709551616) (ht : t.size ≤ 200) : (item f t k).length ≤ 210 := by
  unfold item
  split
  · have := ub_ten (n := (f k).toNat) (by omega); omega
  · split
    · have := ub_ten (zig_lt (wrap_bounds (f k))); omega
    · split
      · unfold tb
        have hl : t.data.toList.length = t.size := by simp
        rw [List.length_append, hl]
        have := ub_ten (n := t.size) (by omega)
        omega
      · unfold rb
        split <;> simp
theorem item_app (bs : List UInt8) (it : List UInt8) : (⟨bs.toArray⟩ : ByteArray) ++ ⟨it.toArray⟩ = ⟨(bs ++ it).toArray⟩ := by
  apply ByteArray.ext
  simp [ByteArray.data_append]
/-- What has been put. -/
structure Pt (w0 w : World) (wb : Nat) (f : Nat → Int) (t : ByteArray) (m k : Nat) (s1 : ByteArray) : Prop where
  bs : ∃ bs : List UInt8, s1 = ⟨bs.toArray⟩ ∧ Wr w0 w wb bs ∧ bs ++ tl f t (m - k) k = tl f t m 0 ∧ bs.length ≤ 210 * k
theorem pt_step {w w3 : World} {wb : Nat} {f : Nat → Int} {t : ByteArray} {m k : Nat} {s1 s2 : ByteArray} {bs it : List UInt8} (h1 : s1 = ⟨bs.toArray⟩) (h2 : (⟨it.toArray⟩ : ByteArray) = s2) (h3 : item f t k = it) (hw : Wr w w3 wb (bs ++ it))
    (ht : (bs ++ item f t k) ++ tl f t (m - (k + 1)) (k + 1) = tl f t m 0) (hb : bs.length ≤ 210 * k) (hi : it.length ≤ 210) : Pt w w3 wb f t m (k + 1) (s1 ++ s2) :=
  ⟨bs ++ it, by rw [h1, ← h2, item_app], hw, by rw [← h3]; exact ht, by rw [List.length_append]; omega⟩
theorem Wr.turn {w0 w w' : World} {wb b : Nat} {bs rest : List UInt8} {er : Int} (h : Wr w0 w wb bs) (hr : Rd w b rest er) (ht : Turns w w' (fun k => k = b)) (hb : w0.heap.size ≤ b) : Wr w0 w' wb bs := by
  obtain ⟨A, c, h1, _, _, _⟩ := hr.sl
  obtain ⟨v, ob, h2, h3, h4⟩ := h.sl
  refine ⟨ht.below h.be h.be.size (fun k hk e => by omega), h.ge, v, ob, h2.turns ht (row_ne h2 h1 (by decide)), h3.turns ht (fun g hg e => ?_), h4⟩
  subst hg e
  obtain ⟨c', h5⟩ := seg_row h3
  exact row_ne h5 h1 (by decide) rfl
set_option maxHeartbeats 4000000 in
theorem codec_law (A : Option Addr) (n c : Nat) (f : Nat → Int) (hn : n ≤ c) (hc : c ≤ 9223372036854775807) (hf : ∀ k, 0 ≤ f k ∧ f k < 18446744073709551616) (w : World) (hl : Lies w w.heap.size A n (fun k => .int .u64 (f k))) (s : ByteArray) (hs : s.size ≤ 9223372036854775807) :
    Calls Try.prog 7 #[.slice A n c, .string s] w fun e w' => e = .returned (.bool true) ∧ Below w.heap.size w w' := by
  have HL := Lib.hid hl
  have HF := Lib.hid hf
  clear hl hf
  obtain ⟨m, hm⟩ : ∃ m : Nat, min n 12 = m := ⟨_, rfl⟩
  obtain ⟨sm, hsm⟩ : ∃ sm : Nat, min s.size 200 = sm := ⟨_, rfl⟩
  have hmin : (if (200 : Int) < (s.size : Int) then (200 : Int) else (s.size : Int)) = (sm : Int) := by split <;> omega
  have hmin' : (if 200 < s.size then (200 : Int) else (s.size : Int)) = (sm : Int) := by split <;> omega
  have hsl : sm ≤ s.size := by omega
  go_enter Try.func7, Try.ntmps7
  go_upto_region 3 with fail
  have ht200 : (s.extract 0 sm).size ≤ 200 := by rw [ByteArray.size_extract]; omega
  clear hmin hmin'
  generalize s.extract 0 sm = t at ht200 ⊢
  have HP0 : Hid (Pt w (w.alloc (.cells #[.slice none 0 0] 60)) w.heap.size f t m 0 ⟨#[]⟩) := ⟨[], rfl, wr_new w w (Below.refl _ _), rfl, by simp⟩
  generalize w.alloc (.cells #[.slice none 0 0] 60) = W0 at HP0 ⊢
  go_wp2
  go_loopw [8, 6] (fun v8 v6 wr => ∃ (k : Nat) (s1 : ByteArray), k ≤ m ∧ v8 = .int .i64 k ∧ v6 = .string s1 ∧ s1.size ≤ 210 * k ∧ Hid (Pt w wr w.heap.size f t m k s1)) (fun v8 _ _ => m - (intOf v8).toNat)
  case atStart => exact ⟨0, ⟨#[]⟩, by omega, rfl, rfl, Nat.le_refl _, HP0⟩
  case round =>
    clear HP0
    obtain ⟨k, s1, hkm, rfl, rfl, hs1, hP⟩ := hrel
    have HP := Lib.hid hP.out
    clear hP
    by_cases hlt : k < m
    · have hk1 : (k : Int) < (n : Int) := by omega
      have hk2 : (k : Int) < 12 := by omega
      obtain ⟨g, o, rfl, hg, hcx⟩ := HL.out k (by omega)
      obtain ⟨bs, hbs, hwr, htl, hbl⟩ := HP.out.bs
      have hcr : wr.cell? ⟨g, o + k, none⟩ = some (.int .u64 (f k)) := (hwr.be.cell (p := ⟨g, o + k, none⟩) hg).trans hcx
      have hst := tl_step f t hlt
      have hil := item_len f t k (HF.out k) ht200
      have hfk := HF.out k
      rw [hst, ← List.append_assoc] at htl
      have HW := Lib.hid hwr
      have HT := Lib.hid htl
      have HBS := Lib.hid hbs
      have hand := and3 (k : Int)
      have hb12 : bs.length ≤ 2600 := by omega
      clear hst htl hwr hbs HP
      have h4 : k % 4 = 0 ∨ k % 4 = 1 ∨ k % 4 = 2 ∨ k % 4 = 3 := by omega
      rcases h4 with h4 | h4 | h4 | h4
      · have ha : bits .and .i64 (k : Int) 3 = 0 := by rw [hand]; omega
        obtain ⟨fx, hfx⟩ : ∃ fx : Nat, f k = (fx : Int) := ⟨(f k).toNat, by omega⟩
        have hit : item f t k = ub fx := by
          unfold item
          rw [if_pos h4]
          rw [hfx, Int.toNat_natCast]
        rw [hfx] at hcr hfk
        obtain ⟨s2, hs2⟩ : ∃ s2 : ByteArray, (⟨(ub fx).toArray⟩ : ByteArray) = s2 := ⟨_, rfl⟩
        rw [hit] at hil
        have hz2 : s2.size ≤ 210 := by rw [← hs2]; exact hil
        have HIT := Lib.hid hit
        have HS2 := Lib.hid hs2
        clear hand hit hs2
        go_wp2_with fail
        refine (uint_any w _ _ bs HW.out fx (by omega) (by omega)).mono ?_
        rintro e w2 ⟨rfl, hw2⟩
        have HW2 := Lib.hid hw2
        have hcr2 : w2.cell? ⟨g, o + k, none⟩ = some (.int .u64 (f k)) := (hw2.be.cell (p := ⟨g, o + k, none⟩) hg).trans hcx
        rw [hfx] at hcr2
        clear hw2 HW
        go_wp2_with fail
        refine (ref_u fx (by omega) _).mono ?_
        rintro e w3 ⟨rfl, hb3⟩
        have HP3 := Lib.hid (pt_step HBS.out HS2.out HIT.out (HW2.out.call hb3) HT.out hbl hil)
        clear HW2 hb3
        rw [HS2.out]
        go_wp2
        go_roundw
        case rel => exact ⟨k + 1, s1 ++ s2, by omega, by go_num, rfl, by rw [ByteArray.size_append]; omega, HP3⟩
        case measure => simp [intOf]; omega
      · have ha : bits .and .i64 (k : Int) 3 = 1 := by rw [hand]; omega
        obtain ⟨x, hx⟩ : ∃ x : Int, IntKind.i64.wrap (f k) = x := ⟨_, rfl⟩
        have hxb := wrap_bounds (f k)
        rw [hx] at hxb
        have hit : item f t k = ub (zig x) := by
          unfold item
          rw [if_neg (by omega), if_pos h4]
          rw [hx]
        obtain ⟨s2, hs2⟩ : ∃ s2 : ByteArray, (⟨(ub (zig x)).toArray⟩ : ByteArray) = s2 := ⟨_, rfl⟩
        rw [hit] at hil
        have hz2 : s2.size ≤ 210 := by rw [← hs2]; exact hil
        have HIT := Lib.hid hit
        have HS2 := Lib.hid hs2
        clear hand hit hs2
        go_wp2_with fail
        refine (int_any w _ _ bs HW.out x hxb (by omega)).mono ?_
        rintro e w2 ⟨rfl, hw2⟩
        have HW2 := Lib.hid hw2
        have hcr2 : w2.cell? ⟨g, o + k, none⟩ = some (.int .u64 (f k)) := (hw2.be.cell (p := ⟨g, o + k, none⟩) hg).trans hcx
        clear hw2 HW
        go_wp2_with fail
        refine (ref_int x hxb _).mono ?_
        rintro e w3 ⟨rfl, hb3⟩
        have HP3 := Lib.hid (pt_step HBS.out HS2.out HIT.out (HW2.out.call hb3) HT.out hbl hil)
        clear HW2 hb3
        rw [HS2.out]
        go_wp2
        go_roundw
        case rel => exact ⟨k + 1, s1 ++ s2, by omega, by go_num, rfl, by rw [ByteArray.size_append]; omega, HP3⟩
        case measure => simp [intOf]; omega
      · have ha : bits .and .i64 (k : Int) 3 = 2 := by rw [hand]; omega
        have hit : item f t k = tb t.data.toList := by
          unfold item
          rw [if_neg (by omega), if_neg (by omega), if_pos h4]
        obtain ⟨s2, hs2⟩ : ∃ s2 : ByteArray, (⟨(tb t.data.toList).toArray⟩ : ByteArray) = s2 := ⟨_, rfl⟩
        rw [hit] at hil
        have hz2 : s2.size ≤ 210 := by rw [← hs2]; exact hil
        have HIT := Lib.hid hit
        have HS2 := Lib.hid hs2
        clear hand hit hs2
        go_wp2_with fail
        refine (text_any w _ _ bs HW.out t (by omega) (by omega)).mono ?_
        rintro e w2 ⟨rfl, hw2⟩
        have HW2 := Lib.hid hw2
        have hcr2 : w2.cell? ⟨g, o + k, none⟩ = some (.int .u64 (f k)) := (hw2.be.cell (p := ⟨g, o + k, none⟩) hg).trans hcx
        clear hw2 HW
        go_wp2_with fail
        refine (ref_text t (by omega) _).mono ?_
        rintro e w3 ⟨rfl, hb3⟩
        have HP3 := Lib.hid (pt_step HBS.out HS2.out HIT.out (HW2.out.call hb3) HT.out hbl hil)
        clear HW2 hb3
        rw [HS2.out]
        go_wp2
        go_roundw
        case rel => exact ⟨k + 1, s1 ++ s2, by omega, by go_num, rfl, by rw [ByteArray.size_append]; omega, HP3⟩
        case measure => simp [intOf]; omega
      · have ha : bits .and .i64 (k : Int) 3 = 3 := by rw [hand]; omega
        obtain ⟨xb, hxb⟩ : ∃ xb : Bool, (bits .and .u64 (f k) 1 == 1) = xb := ⟨_, rfl⟩
        have hit : item f t k = rb xb := by
          unfold item
          rw [if_neg (by omega), if_neg (by omega), if_neg (by omega)]
          rw [hxb]
        obtain ⟨s2, hs2⟩ : ∃ s2 : ByteArray, (⟨(rb xb).toArray⟩ : ByteArray) = s2 := ⟨_, rfl⟩
        rw [hit] at hil
        have hz2 : s2.size ≤ 210 := by rw [← hs2]; exact hil
        have HIT := Lib.hid hit
        have HS2 := Lib.hid hs2
        clear hand hit hs2
        go_wp2_with fail
        refine (truth_any w _ _ bs HW.out xb (by omega)).mono ?_
        rintro e w2 ⟨rfl, hw2⟩
        have HW2 := Lib.hid hw2
        have hcr2 : w2.cell? ⟨g, o + k, none⟩ = some (.int .u64 (f k)) := (hw2.be.cell (p := ⟨g, o + k, none⟩) hg).trans hcx
        clear hw2 HW
        go_wp2_with fail
        refine (ref_truth xb _).mono ?_
        rintro e w3 ⟨rfl, rfl⟩
        have HP3 := Lib.hid (pt_step HBS.out HS2.out HIT.out HW2.out HT.out hbl hil)
        clear HW2 
        rw [HS2.out]
        go_wp2
        go_roundw
        case rel => exact ⟨k + 1, s1 ++ s2, by omega, by go_num, rfl, by rw [ByteArray.size_append]; omega, HP3⟩
        case measure => simp [intOf]; omega
    · obtain rfl : k = m := by omega
      obtain ⟨E, hE⟩ : ∃ E, tl f t k 0 = E := ⟨_, rfl⟩
      obtain ⟨bs, hbs, hwr, htl, hbl⟩ := HP.out.bs
      rw [Nat.sub_self] at htl
      have hbE : bs = E := by rw [← hE, ← htl]; simp [tl]
      subst hbE
      have hEl : bs.length ≤ 2600 := by omega
      have hsl2 : s1.data.toList = bs := by rw [hbs]
      have HW := Lib.hid hwr
      have HBS := Lib.hid hbs
      have HE := Lib.hid hE
      have HSL := Lib.hid hsl2
      clear hbs hwr htl hE hsl2 HP hlt
      have hcv := fun (W : World) => run_bytes_of_string (P := Try.prog) W 9 58 5 s1 Try.underlying9 Try.underlying58 Try.underlying5
      have hkn : k ≤ n := by omega
      have hk12 : k ≤ 12 := by omega
      have hex : (k = n ∧ ¬ (k : Int) < (n : Int)) ∨ (k = 12 ∧ (k : Int) < (n : Int) ∧ ¬ (k : Int) < 12) := by omega
      rcases hex with ⟨hkk, hex⟩ | ⟨hkk, hex, hex2⟩
      all_goals
        clear hkk
        go_wp2_with fail
        refine (read_any _ s1.size _ bs _ (by have := lb_conv s1 wr (grownCap wr s1.size 0 5) ((bytesRow s1 (grownCap wr s1.size 0 5)).size, (bytesRow s1 (grownCap wr s1.size 0 5)).size + 1); rw [HSL.out] at this; exact this) (by rw [← HSL.out]; simp) (by omega)).mono ?_
        rintro e w2 ⟨b, rfl, hr, hbge, hb2⟩
        have hb22 : Below wr.heap.size wr w2 := ((Below.refl _ wr).alloc (Nat.le_refl _) (.cells (bytesRow s1 (grownCap wr s1.size 0 5)) 5 ((bytesRow s1 (grownCap wr s1.size 0 5)).size, (bytesRow s1 (grownCap wr s1.size 0 5)).size + 1))).trans (Below.mono (below_of_drew hb2) (by simp))
        have hwb : w.heap.size ≤ b := Nat.le_trans HW.out.be.size (Nat.le_trans (by simp) hbge)
        have HI : Hid (Rd w2 b (tl f t (k - 0) 0) 0 ∧ Wr w w2 w.heap.size bs) := ⟨by rw [Nat.sub_zero, HE.out]; exact hr, HW.out.call hb22⟩
        clear hr hbge hb2 hb22 HW hcv HSL
        go_wp2
        go_loopw [10, 11] (fun v10 s11 wr => ∃ q : Nat, q ≤ k ∧ v10 = .int .i64 q ∧ Hid (Rd wr b (tl f t (k - q) q) 0 ∧ Wr w wr w.heap.size bs)) (fun v10 _ _ => k - (intOf v10).toNat)
        case atStart => exact ⟨0, by omega, rfl, HI⟩
        case round =>
          clear HI
          obtain ⟨q, hqk, rfl, hI⟩ := hrel
          have HI := Lib.hid hI.out
          clear hI
          by_cases hlt : q < k
          · have hq1 : (q : Int) < (n : Int) := by omega
            have hq2 : (q : Int) < 12 := by omega
            obtain ⟨g, o, rfl, hg, hcx⟩ := HL.out q (by omega)
            have hcr : wr.cell? ⟨g, o + q, none⟩ = some (.int .u64 (f q)) := (HI.out.2.be.cell (p := ⟨g, o + q, none⟩) hg).trans hcx
            have hfq := HF.out q
            have hrd := HI.out.1
            have hst := tl_step f t hlt
            rw [hst] at hrd
            obtain ⟨rest, hrest⟩ : ∃ rest, tl f t (k - (q + 1)) (q + 1) = rest := ⟨_, rfl⟩
            rw [hrest] at hrd
            have HWD : Hid (Wr w wr.drew w.heap.size bs) := HI.out.2.drewN 1
            have hand := and3 (q : Int)
            have HRE := Lib.hid hrest
            clear hst hrest
            have h4 : q % 4 = 0 ∨ q % 4 = 1 ∨ q % 4 = 2 ∨ q % 4 = 3 := by omega
            rcases h4 with h4 | h4 | h4 | h4
            · have ha : bits .and .i64 (q : Int) 3 = 0 := by rw [hand]; omega
              obtain ⟨fx, hfx⟩ : ∃ fx : Nat, f q = (fx : Int) := ⟨(f q).toNat, by omega⟩
              have hit : item f t q = ub fx := by
                unfold item
                rw [if_pos h4]
                rw [hfx, Int.toNat_natCast]
              rw [hit] at hrd
              have HD : Hid (Rd wr.drew b (ub fx ++ rest) 0) := hrd.call (below_drewN (Below.refl _ wr) 1)
              have HD0 := Lib.hid hrd
              clear hand hit hrd
              go_wp2_with fail
              go_region_with (first
                | (go_at_call 40
                   refine (uint_take _ b fx (by omega) rest 0 HD.out).mono ?_
                   rintro e w3 ⟨rfl, hr3, ht3⟩
                   have hw3 := Wr.turn (HWD.out) HD.out ht3 hwb
                   have hcr3 : w3.cell? ⟨g, o + q, none⟩ = some (.int .u64 (f q)) := (hw3.be.cell (p := ⟨g, o + q, none⟩) hg).trans hcx
                   have HR3 := Lib.hid hr3
                   have HW3 := Lib.hid hw3
                   clear hr3 ht3 hw3)
                | fail)
              all_goals
                go_wp2_with fail
                refine (err_any _ b rest 0 HR3.out).mono ?_
                rintro e w' ⟨rfl, rfl⟩
                have HI3 : Hid (Rd w3 b (tl f t (k - (q + 1)) (q + 1)) 0 ∧ Wr w w3 w.heap.size bs) := ⟨by rw [HRE.out]; exact HR3.out, HW3.out⟩
                clear HR3 HW3 HD HD0 HWD
                go_wp2
                go_roundw
                case rel => exact ⟨q + 1, by omega, by go_num, HI3⟩
                case measure => simp [intOf]; omega
            · have ha : bits .and .i64 (q : Int) 3 = 1 := by rw [hand]; omega
              obtain ⟨x, hx⟩ : ∃ x : Int, IntKind.i64.wrap (f q) = x := ⟨_, rfl⟩
              have hxb := wrap_bounds (f q)
              rw [hx] at hxb
              have hit : item f t q = ub (zig x) := by
                unfold item
                rw [if_neg (by omega), if_pos h4]
                rw [hx]
              rw [hit] at hrd
              have HD : Hid (Rd wr.drew b (ub (zig x) ++ rest) 0) := hrd.call (below_drewN (Below.refl _ wr) 1)
              have HD0 := Lib.hid hrd
              clear hand hit hrd
              go_wp2_with fail
              go_region_with (first
                | (go_at_call 41
                   refine (int_take _ b rest 0 x hxb HD.out).mono ?_
                   rintro e w3 ⟨rfl, hr3, ht3⟩
                   have hw3 := Wr.turn (HWD.out) HD.out ht3 hwb
                   have hcr3 : w3.cell? ⟨g, o + q, none⟩ = some (.int .u64 (f q)) := (hw3.be.cell (p := ⟨g, o + q, none⟩) hg).trans hcx
                   have HR3 := Lib.hid hr3
                   have HW3 := Lib.hid hw3
                   clear hr3 ht3 hw3)
                | fail)
              all_goals
                go_wp2_with fail
                refine (err_any _ b rest 0 HR3.out).mono ?_
                rintro e w' ⟨rfl, rfl⟩
                have HI3 : Hid (Rd w3 b (tl f t (k - (q + 1)) (q + 1)) 0 ∧ Wr w w3 w.heap.size bs) := ⟨by rw [HRE.out]; exact HR3.out, HW3.out⟩
                clear HR3 HW3 HD HD0 HWD
                go_wp2
                go_roundw
                case rel => exact ⟨q + 1, by omega, by go_num, HI3⟩
                case measure => simp [intOf]; omega
            · have ha : bits .and .i64 (q : Int) 3 = 2 := by rw [hand]; omega
              have hit : item f t q = tb t.data.toList := by
                unfold item
                rw [if_neg (by omega), if_neg (by omega), if_pos h4]
              rw [hit] at hrd
              have HD : Hid (Rd wr.drew b (tb t.data.toList ++ rest) 0) := hrd.call (below_drewN (Below.refl _ wr) 1)
              have HD0 := Lib.hid hrd
              clear hand hit hrd
              go_wp2_with fail
              refine (text_take _ b rest 0 t (by omega) HD0.out).mono ?_
              rintro e w3 ⟨rfl, hr3, ht3⟩
              have hw3 := Wr.turn (HI.out.2) HD0.out ht3 hwb
              have HI3 : Hid (Rd w3 b (tl f t (k - (q + 1)) (q + 1)) 0 ∧ Wr w w3 w.heap.size bs) := ⟨by rw [HRE.out]; exact hr3, hw3⟩
              clear hr3 ht3 hw3
              go_wp2_with fail
              refine (err_any _ b _ 0 HI3.out.1).mono ?_
              rintro e w' ⟨rfl, rfl⟩
              clear HD HD0 HWD
              go_wp2
              go_roundw
              case rel => exact ⟨q + 1, by omega, by go_num, HI3⟩
              case measure => simp [intOf]; omega
            · have ha : bits .and .i64 (q : Int) 3 = 3 := by rw [hand]; omega
              obtain ⟨xb, hxb⟩ : ∃ xb : Bool, (bits .and .u64 (f q) 1 == 1) = xb := ⟨_, rfl⟩
              have hit : item f t q = rb xb := by
                unfold item
                rw [if_neg (by omega), if_neg (by omega), if_neg (by omega)]
                rw [hxb]
              rw [hit] at hrd
              have HD : Hid (Rd wr.drew b (rb xb ++ rest) 0) := hrd.call (below_drewN (Below.refl _ wr) 1)
              have HD0 := Lib.hid hrd
              clear hand hit hrd
              go_wp2_with fail
              go_region_with (first
                | (go_at_call 43
                   refine (truth_take _ b rest 0 xb HD.out).mono ?_
                   rintro e w3 ⟨rfl, hr3, ht3⟩
                   have hw3 := Wr.turn (HWD.out) HD.out ht3 hwb
                   have hcr3 : w3.cell? ⟨g, o + q, none⟩ = some (.int .u64 (f q)) := (hw3.be.cell (p := ⟨g, o + q, none⟩) hg).trans hcx
                   have HR3 := Lib.hid hr3
                   have HW3 := Lib.hid hw3
                   clear hr3 ht3 hw3)
                | fail)
              all_goals
                go_wp2_with fail
                refine (err_any _ b rest 0 HR3.out).mono ?_
                rintro e w' ⟨rfl, rfl⟩
                have HI3 : Hid (Rd w3 b (tl f t (k - (q + 1)) (q + 1)) 0 ∧ Wr w w3 w.heap.size bs) := ⟨by rw [HRE.out]; exact HR3.out, HW3.out⟩
                clear HR3 HW3 HD HD0 HWD
                go_wp2
                go_roundw
                case rel => exact ⟨q + 1, by omega, by go_num, HI3⟩
                case measure => simp [intOf]; omega
          · obtain rfl : q = k := by omega
            have hrd := HI.out.1
            rw [Nat.sub_self] at hrd
            have HRD : Hid (Rd wr b [] 0) := hrd
            have HW := Lib.hid HI.out.2
            clear HI hrd hlt
            go_wp2_with fail
            refine (awake_any _).mono ?_
            rintro e w3 ⟨rfl, hb3⟩
            have HW3 := Lib.hid (HW.out.call hb3)
            have HR3 := Lib.hid (HRD.out.call hb3)
            clear hb3 HRD HW
            go_wp2_with fail
            refine (bytes_any w w3 _ bs HW3.out (by omega)).mono ?_
            rintro e w4 ⟨⟨A4, c4, rfl, h41, h42, h43, h44⟩, hw4⟩
            have hcv := conv_str h43 bs.length c4 rfl
            rw [← HBS.out] at hcv
            have HR4 := Lib.hid (HR3.out.call h44)
            have HBE := Lib.hid hw4.be
            clear h43 h44 hw4 HR3 HW3
            go_wp2_with fail
            refine (left_any _ b [] 0 HR4.out).mono ?_
            rintro e w' ⟨rfl, rfl⟩
            go_wp2
            go_ret
            exact ⟨rfl, HBE.out⟩
end Go.Proofs.Ytpgacadnmekdhaa.Cd
