/- The walk of the law HistTickets. -/
import Derived.Test.YtpgacadnmekdhaaHiJ
import Derived.Test.YtpgacadnmekdhaaBits
namespace Go.Proofs.Ytpgacadnmekdhaa.Hi
open Go.RowKit Go.Proofs.Ytpgacadnmekdhaa Go.Maps
set_option linter.unusedVariables false
set_option maxRecDepth 100000
theorem and1 (n : Int) : bits .and .i64 n 1 = n % 2 := by
  have hm : (BitVec.ofInt 64 1).toNat = 2 ^ 1 - 1 := by decide
  have key : (BitVec.ofInt 64 n &&& BitVec.ofInt 64 1).toNat = (n % ((2 ^ 64 : Nat) : Int)).toNat % 2 ^ 1 := by
    rw [BitVec.toNat_and, BitVec.toNat_ofInt, hm, Nat.and_two_pow_sub_one_eq_mod]
  show IntKind.i64.wrap ((BitVec.ofInt 64 n &&& BitVec.ofInt 64 1).toNat : Nat) = n % 2
  rw [key, IntKind.wrap_i64]
  omega
theorem sp_one (x : Sp) : ∀ u ∈ x.cells, u.oneCell' = true := fun u hu => List.all_eq_true.1 (show x.cells.all (fun u => u.oneCell') = true from rfl) u hu
def tkv (f : Nat → Int) (i : Nat) : Int := if i % 2 = 0 then f i % 8 else f i
def spn (f : Nat → Int) (k : Nat) : List Sp := (List.range k).map (fun i => ⟨0, 0, 0, 0, 0, 0, tkv f i⟩)
theorem spn_succ (f : Nat → Int) (k : Nat) : spn f (k + 1) = spn f k ++ [⟨0, 0, 0, 0, 0, 0, tkv f k⟩] := by simp [spn, List.range_succ]
theorem spn_len (f : Nat → Int) (k : Nat) : (spn f k).length = k := by simp [spn]
theorem tks_len (xs : List Sp) : (tks xs).length ≤ xs.length := by
  unfold tks
  exact Nat.le_trans (List.length_filter_le _ _) (by rw [List.length_map]; exact Nat.le_refl _)
/-- The spans and the numbers that the law has made. -/
structure Tk (w0 w : World) (sv wv : Value) (xs : List Sp) (L : List Int) : Prop where
  nm : Nm w0 w wv L
  sp : ∃ ob, Seg w 43 13 sv xs.length (scells xs) ob ∧ ∀ g, ob = some g → w0.heap.size ≤ g
section
variable {w0 w w' : World} {sv wv : Value} {xs : List Sp} {L : List Int}
theorem Tk.call (h : Tk w0 w sv wv xs L) (g : Below w.heap.size w w') : Tk w0 w' sv wv xs L := by
  obtain ⟨ob, h1, h2⟩ := h.sp
  exact ⟨h.nm.call g, ob, h1.turns (Turns.of_below g) (fun _ _ x => x), h2⟩
theorem Tk.alloc (h : Tk w0 w sv wv xs L) (x : Obj) : Tk w0 (w.alloc x) sv wv xs L := h.call ((Below.refl _ w).alloc (Nat.le_refl _) x)
theorem Tk.drew (h : Tk w0 w sv wv xs L) : Tk w0 w.drew sv wv xs L := h.call (below_drewN (Below.refl _ w) 1)
theorem Tk.span {w2 : World} {v2 : Value} {x : Sp} {ob ob2 : Option Nat} {o : Obj} (h : Tk w0 w sv wv xs L) (hsg : Seg w 43 13 sv xs.length (scells xs) ob) (hob : ∀ g, ob = some g → w0.heap.size ≤ g)
    (hs : Seg w2 43 13 v2 (xs.length + 1) (scells xs ++ x.cells) ob2) (ht : Turns (w.alloc o) w2 (fun k => ob = some k)) (ho : ob2 = ob ∨ ∃ g, ob2 = some g ∧ (w.alloc o).heap.size ≤ g) : Tk w0 w2 v2 wv (xs ++ [x]) L := by
  have hz := h.nm.be.size
  obtain ⟨on, h1, h2⟩ := (h.nm.alloc o).sg
  refine ⟨⟨ht.below (h.nm.alloc o).be (h.nm.alloc o).be.size (fun k hk e => by have := hob k e; omega), on, h1.turns ht (fun g hg e => ?_), h2⟩, ob2, ?_, fun g hg => ?_⟩
  · subst hg e
    obtain ⟨c1, r1⟩ := seg_row h1
    obtain ⟨c2, r2⟩ := seg_row (hsg.alloc o)
    exact row_ne r1 r2 (by decide) rfl
  · have hc : scells (xs ++ [x]) = scells xs ++ x.cells := by simp [scells]
    rw [hc, List.length_append]
    exact hs
  · rcases ho with rfl | ⟨g', rfl, hg'⟩
    · exact hob g hg
    · cases hg
      simp at hg'
      omega
theorem Tk.num {w2 : World} {v2 : Value} {x : Int} {ob ob2 : Option Nat} {o : Obj} (h : Tk w0 w sv wv xs L) (hsg : Seg w 2 1 wv L.length (L.map (Value.int .i64)) ob) (hob : ∀ g, ob = some g → w0.heap.size ≤ g)
    (hs : Seg w2 2 1 v2 (L.length + 1) (L.map (Value.int .i64) ++ [.int .i64 x]) ob2) (ht : Turns (w.alloc o) w2 (fun k => ob = some k)) (ho : ob2 = ob ∨ ∃ g, ob2 = some g ∧ (w.alloc o).heap.size ≤ g) : Tk w0 w2 sv v2 xs (L ++ [x]) := by
  obtain ⟨os, h1, h2⟩ := (h.alloc o).sp
  refine ⟨Nm.push h.nm.be hob hs ht ho, os, h1.turns ht (fun g hg e => ?_), h2⟩
  subst hg e
  obtain ⟨c1, r1⟩ := seg_row h1
  obtain ⟨c2, r2⟩ := seg_row (hsg.alloc o)
  exact row_ne r1 r2 (by decide) rfl
end
theorem seg_zeroK (w : World) (e : TypeId) (K : Nat) (A : Option Addr) : Seg w e K (.slice A 0 0) 0 [] none := ⟨by simp, _, 0, rfl, Nat.le_refl _, by unfold maxLen; omega, .inl ⟨rfl, rfl, fun _ => trivial⟩⟩
theorem nm_lies {w0 w : World} {A : Option Addr} {n c : Nat} {L : List Int} (h : Nm w0 w (.slice A n c) L) : Lies w w.heap.size A L.length (fun k => .int .i64 (L.getD k 0)) := fun k hk => by
  obtain ⟨ob, hs, _⟩ := h.sg
  obtain ⟨g, o, cap, e, hob, _, _, hc, _⟩ := hs.shape (by omega)
  injection e with e1 e2 e3
  subst e1
  refine ⟨g, o, rfl, hs.lt g hob, hc k _ ?_⟩
  rw [List.getElem?_map, List.getElem?_eq_getElem hk]
  simp [List.getD, List.getElem?_eq_getElem hk]
theorem Lies.wide {w : World} {B B' : Nat} {A : Option Addr} {n : Nat} {v : Nat → Value} (h : Lies w B A n v) (hB : B ≤ B') : Lies w B' A n v := fun k hk => by
  obtain ⟨g, o, e, hg, hc⟩ := h k hk
  exact ⟨g, o, e, by omega, hc⟩
theorem lies_two (W : World) : Lies (W.alloc (.cells #[.int .i64 2] 2)) (W.alloc (.cells #[.int .i64 2] 2)).heap.size (some ⟨W.heap.size, 0, none⟩) 1 (fun k => .int .i64 (([2] : List Int).getD k 0)) := fun k hk => by
  obtain rfl : k = 0 := by omega
  exact ⟨_, 0, rfl, by simp, by simp⟩
theorem ris_beq (L : List Int) (t : Int) (rb : Bool) (h : risB L = true) (hr : (t == (L.length : Int) + 1) = rb) : risB (L ++ [t]) = rb := by
  rw [risB_push, h, ← hr]
  simp
  rfl
set_option maxHeartbeats 4000000 in
theorem tick_law (A : Option Addr) (n c : Nat) (f : Nat → Int) (hn : n ≤ c) (hc : c ≤ 9223372036854775807) (hf : ∀ k, -9223372036854775808 ≤ f k ∧ f k ≤ 9223372036854775807) (w : World) (hl : Lies w w.heap.size A n (fun k => .int .i64 (f k))) :
    Calls Try.prog 4 #[.slice A n c] w fun e w' => e = .returned (.bool true) ∧ Below w.heap.size w w' := by
  obtain ⟨i0, hi0, hz0, hz1, hz2⟩ := info_parts int64_info
  obtain ⟨i1, hi1, hy0, hy1, hy2⟩ := info_parts span_info
  have HL := Lib.hid hl
  have HF := Lib.hid hf
  clear hl hf
  obtain ⟨m, hm⟩ : ∃ m : Nat, min n 20 = m := ⟨_, rfl⟩
  have HT0 : Hid (Tk w ((w.alloc (.cells #[] 43)).alloc (.cells #[] 2)) (.slice (some ⟨w.heap.size, 0, none⟩) 0 0) (.slice (some ⟨w.heap.size + 1, 0, none⟩) 0 0) (spn f 0) (tks (spn f 0))) :=
    ⟨⟨((Below.refl _ w).alloc (Nat.le_refl _) _).alloc (by simp) _, none, seg_zeroK _ _ _ _, fun g h => (by cases h)⟩, none, seg_zeroK _ _ _ _, fun g h => (by cases h)⟩
  go_enter Try.func4, Try.ntmps4
  go_upto_region 2 with fail
  generalize (w.alloc (.cells #[] 43)).alloc (.cells #[] 2) = W0 at HT0 ⊢
  go_wp2
  go_loopw [6, 7, 3, 4, 5] (fun v6 s7 v3 v4 v5 wr => ∃ (k : Nat) (rb : Bool), k ≤ m ∧ v6 = .int .i64 k ∧ v5 = .bool rb ∧ Hid (Tk w wr v3 v4 (spn f k) (tks (spn f k)) ∧ risB (tks (spn f k)) = rb)) (fun v6 _ _ _ _ _ => m - (intOf v6).toNat)
  case atStart => exact ⟨0, true, by omega, rfl, rfl, Lib.hid ⟨HT0.out, rfl⟩⟩
  case round =>
    clear HT0
    obtain ⟨k, rb, hkm, rfl, rfl, hT⟩ := hrel
    have HT := Lib.hid hT.out
    clear hT
    by_cases hlt : k < m
    · have hk1 : (k : Int) < (n : Int) := by omega
      have hk2 : (k : Int) < 20 := by omega
      obtain ⟨g, o, rfl, hg, hcx⟩ := HL.out k (by omega)
      have hcr : wr.cell? ⟨g, o + k, none⟩ = some (.int .i64 (f k)) := (HT.out.1.nm.be.cell (p := ⟨g, o + k, none⟩) hg).trans hcx
      obtain ⟨obs, hsg, hso⟩ := HT.out.1.sp
      obtain ⟨sA, sc, rfl, _, _⟩ := hsg.form
      obtain ⟨obn, hng, hno⟩ := HT.out.1.nm.sg
      obtain ⟨nA, nc, rfl, _, _⟩ := hng.form
      obtain ⟨xs, hxs⟩ : ∃ xs, spn f k = xs := ⟨_, rfl⟩
      have hst := spn_succ f k
      have hxl := spn_len f k
      have htl := tks_len (spn f k)
      rw [hxs] at hst hxl htl hsg HT hng
      have htp := tks_push xs ⟨0, 0, 0, 0, 0, 0, tkv f k⟩
      dsimp only at htp
      rw [← hst] at htp
      obtain ⟨L, hL⟩ : ∃ L, tks xs = L := ⟨_, rfl⟩
      rw [hL] at htp htl HT hng
      have hand := and1 (k : Int)
      have hsk := hsg
      rw [hxl] at hsk
      have HSK := Lib.hid hsk
      have HSG := Lib.hid hsg
      have HSO := Lib.hid hso
      have HXS := Lib.hid hxs
      have HST := Lib.hid hst
      have HXL := Lib.hid hxl
      have HTP := Lib.hid htp
      rw [hxl] at htl
      rw [hxs, hL, hxl]
      clear hsk hsg hso hng hno hxs hst hxl htp hL hcx
      have hk20 : k ≤ 20 := by omega
      by_cases hpar : k % 2 = 0
      · have ha : bits .and .i64 (k : Int) 1 = 0 := by rw [hand]; omega
        have hv : tkv f k = f k % 8 := by unfold tkv; rw [if_pos hpar]
        have h7 := and7 (f k)
        obtain ⟨t, ht⟩ : ∃ t, f k % 8 = t := ⟨_, rfl⟩
        rw [ht] at hv h7
        have HV := Lib.hid hv
        clear hand hv ht
        go_upto_region 9 with (at_builtin; (refine wpList_append_seg _ rfl _ _ 37 rfl 43 i1 _ 13 104 Try.underlying37 hi1 hy0 hy1 hy2 rfl (by decide) _ _ _ _ rfl (HSK.out.alloc _) ⟨wr.heap.size, 0, none⟩ 1 1 (Sp.cells ⟨0, 0, 0, 0, 0, 0, t⟩) rfl rfl (news_row (Row.made wr _ _)) (sp_one _) (by decide) (by unfold maxLen; omega) (by omega) ?_); intro v2 w3 ob2 hs2 ht2 ho2)
        have hs2' := hs2
        rw [← HXL.out] at hs2'
        have hk3 := Tk.span HT.out.1 HSG.out HSO.out hs2' ht2 ho2
        have HK3 := Lib.hid hk3
        obtain ⟨obn, hng, hno⟩ := hk3.nm.sg
        have HNG := Lib.hid hng
        have HNO := Lib.hid hno
        have HRB := Lib.hid HT.out.2
        clear hs2 hs2' ht2 ho2 hk3 hng hno HT
        by_cases hpos : 0 < t
        · cases rb
          · go_wp2_with (at_builtin; refine wpList_append_seg _ rfl _ _ 36 rfl 2 i0 (.int .i64 0) 1 8 Try.underlying36 hi0 hz0 hz1 hz2 rfl (by decide) _ _ _ _ rfl (HNG.out.alloc _) ⟨w3.heap.size, 0, none⟩ 1 1 [.int .i64 t] rfl rfl (one_news64 _ _ _ rfl) (by simp [Value.oneCell']) (by decide) (by unfold maxLen; omega) (by omega) ?_; intro v4 w5 ob5 hs5 ht5 ho5; obtain ⟨A5, c5, rfl, _, _⟩ := hs5.form; have HQ := Lib.hid (Tk.num HK3.out HNG.out HNO.out hs5 ht5 ho5); clear hs5 ht5 ho5)
            go_roundw
            case rel => exact ⟨k + 1, false, by omega, by go_num, rfl, Lib.hid ⟨by rw [HTP.out, HST.out, HV.out, if_pos hpos]; exact HQ.out, by rw [HTP.out, HV.out, if_pos hpos, risB_push, HRB.out]; rfl⟩⟩
            case measure => simp [intOf]; omega
          · go_wp2_with (at_builtin; refine wpList_append_seg _ rfl _ _ 36 rfl 2 i0 (.int .i64 0) 1 8 Try.underlying36 hi0 hz0 hz1 hz2 rfl (by decide) _ _ _ _ rfl (HNG.out.alloc _) ⟨w3.heap.size, 0, none⟩ 1 1 [.int .i64 t] rfl rfl (one_news64 _ _ _ rfl) (by simp [Value.oneCell']) (by decide) (by unfold maxLen; omega) (by omega) ?_; intro v4 w5 ob5 hs5 ht5 ho5; obtain ⟨A5, c5, rfl, _, _⟩ := hs5.form; have HQ := Lib.hid (Tk.num HK3.out HNG.out HNO.out hs5 ht5 ho5); clear hs5 ht5 ho5)
            go_roundw
            case rel => exact ⟨k + 1, _, by omega, by go_num, rfl, Lib.hid ⟨by rw [HTP.out, HST.out, HV.out, if_pos hpos]; exact HQ.out, by rw [HTP.out, HV.out, if_pos hpos]; exact ris_beq L t _ HRB.out rfl⟩⟩
            case measure => simp [intOf]; omega
        · go_wp2
          go_roundw
          case rel => exact ⟨k + 1, rb, by omega, by go_num, rfl, Lib.hid ⟨by rw [HTP.out, HST.out, HV.out, if_neg hpos, List.append_nil]; exact HK3.out, by rw [HTP.out, HV.out, if_neg hpos, List.append_nil]; exact HRB.out⟩⟩
          case measure => simp [intOf]; omega
      · have ha : bits .and .i64 (k : Int) 1 = 1 := by rw [hand]; omega
        have hv : tkv f k = f k := by unfold tkv; rw [if_neg hpar]
        obtain ⟨t, ht⟩ : ∃ t, f k = t := ⟨_, rfl⟩
        rw [ht] at hv hcr
        have HV := Lib.hid hv
        clear hand hv ht
        go_upto_region 9 with (at_builtin; (refine wpList_append_seg _ rfl _ _ 37 rfl 43 i1 _ 13 104 Try.underlying37 hi1 hy0 hy1 hy2 rfl (by decide) _ _ _ _ rfl (HSK.out.alloc _) ⟨wr.heap.size, 0, none⟩ 1 1 (Sp.cells ⟨0, 0, 0, 0, 0, 0, t⟩) rfl rfl (news_row (Row.made wr _ _)) (sp_one _) (by decide) (by unfold maxLen; omega) (by omega) ?_); intro v2 w3 ob2 hs2 ht2 ho2)
        have hs2' := hs2
        rw [← HXL.out] at hs2'
        have hk3 := Tk.span HT.out.1 HSG.out HSO.out hs2' ht2 ho2
        have HK3 := Lib.hid hk3
        obtain ⟨obn, hng, hno⟩ := hk3.nm.sg
        have HNG := Lib.hid hng
        have HNO := Lib.hid hno
        have HRB := Lib.hid HT.out.2
        clear hs2 hs2' ht2 ho2 hk3 hng hno HT
        by_cases hpos : 0 < t
        · cases rb
          · go_wp2_with (at_builtin; refine wpList_append_seg _ rfl _ _ 36 rfl 2 i0 (.int .i64 0) 1 8 Try.underlying36 hi0 hz0 hz1 hz2 rfl (by decide) _ _ _ _ rfl (HNG.out.alloc _) ⟨w3.heap.size, 0, none⟩ 1 1 [.int .i64 t] rfl rfl (one_news64 _ _ _ rfl) (by simp [Value.oneCell']) (by decide) (by unfold maxLen; omega) (by omega) ?_; intro v4 w5 ob5 hs5 ht5 ho5; obtain ⟨A5, c5, rfl, _, _⟩ := hs5.form; have HQ := Lib.hid (Tk.num HK3.out HNG.out HNO.out hs5 ht5 ho5); clear hs5 ht5 ho5)
            go_roundw
            case rel => exact ⟨k + 1, false, by omega, by go_num, rfl, Lib.hid ⟨by rw [HTP.out, HST.out, HV.out, if_pos hpos]; exact HQ.out, by rw [HTP.out, HV.out, if_pos hpos, risB_push, HRB.out]; rfl⟩⟩
            case measure => simp [intOf]; omega
          · go_wp2_with (at_builtin; refine wpList_append_seg _ rfl _ _ 36 rfl 2 i0 (.int .i64 0) 1 8 Try.underlying36 hi0 hz0 hz1 hz2 rfl (by decide) _ _ _ _ rfl (HNG.out.alloc _) ⟨w3.heap.size, 0, none⟩ 1 1 [.int .i64 t] rfl rfl (one_news64 _ _ _ rfl) (by simp [Value.oneCell']) (by decide) (by unfold maxLen; omega) (by omega) ?_; intro v4 w5 ob5 hs5 ht5 ho5; obtain ⟨A5, c5, rfl, _, _⟩ := hs5.form; have HQ := Lib.hid (Tk.num HK3.out HNG.out HNO.out hs5 ht5 ho5); clear hs5 ht5 ho5)
            go_roundw
            case rel => exact ⟨k + 1, _, by omega, by go_num, rfl, Lib.hid ⟨by rw [HTP.out, HST.out, HV.out, if_pos hpos]; exact HQ.out, by rw [HTP.out, HV.out, if_pos hpos]; exact ris_beq L t _ HRB.out rfl⟩⟩
            case measure => simp [intOf]; omega
        · go_wp2
          go_roundw
          case rel => exact ⟨k + 1, rb, by omega, by go_num, rfl, Lib.hid ⟨by rw [HTP.out, HST.out, HV.out, if_neg hpos, List.append_nil]; exact HK3.out, by rw [HTP.out, HV.out, if_neg hpos, List.append_nil]; exact HRB.out⟩⟩
          case measure => simp [intOf]; omega
    · obtain rfl : k = m := by omega
      obtain ⟨obs, hsg, hso⟩ := HT.out.1.sp
      obtain ⟨sA, sc, rfl, hs1, hs2⟩ := hsg.form
      obtain ⟨obn, hng, hno⟩ := HT.out.1.nm.sg
      obtain ⟨nA, nc, rfl, hn1, hn2⟩ := hng.form
      have hls := ls_seg hsg rfl
      obtain ⟨xs, hxs⟩ : ∃ xs, spn f k = xs := ⟨_, rfl⟩
      have hxl := spn_len f k
      have htl := tks_len (spn f k)
      rw [hxs] at hxl htl hls hs1 HT hng hn1 ⊢
      obtain ⟨L, hL⟩ : ∃ L, tks xs = L := ⟨_, rfl⟩
      obtain ⟨p, hp⟩ : ∃ p, L.length = p := ⟨_, rfl⟩
      rw [hL] at htl HT hng hn1 ⊢
      rw [hxl] at htl hs1 ⊢
      rw [hp] at htl hn1 HT ⊢
      have HLS := Lib.hid hls
      have HXL := Lib.hid hxl
      have HLL := Lib.hid hL
      have HPP := Lib.hid hp
      have hs9 : sc ≤ 9223372036854775807 := by unfold maxLen at hs2; omega
      have hn9 : nc ≤ 9223372036854775807 := by unfold maxLen at hn2; omega
      clear hsg hso hng hno hxs hxl hls hL hp hs2 hn2
      have hex : (k = n ∧ ¬ (k : Int) < (n : Int)) ∨ (k = 20 ∧ (k : Int) < (n : Int) ∧ ¬ (k : Int) < 20) := by omega
      have hk20 : k ≤ 20 := by omega
      rcases hex with ⟨hkk, hex⟩ | ⟨hkk, hex, hex2⟩
      all_goals
        clear hkk
        go_wp2_with fail
        refine (tickets_any sA k sc xs wr HLS.out HXL.out hs1 hs9 (by omega)).mono ?_
        rintro e w2 ⟨v, rfl, hnm⟩
        rw [HLL.out] at hnm
        obtain ⟨obg, hgg, _⟩ := hnm.sg
        obtain ⟨gA, gc, rfl, hg1, hg2⟩ := hgg.form
        have hg9 : gc ≤ 9223372036854775807 := by unfold maxLen at hg2; omega
        have hGL := nm_lies hnm
        have hNL := nm_lies (HT.out.1.nm.call hnm.be)
        rw [HPP.out] at hg1 hGL hNL ⊢
        have HGL := Lib.hid hGL
        have HNL := Lib.hid hNL
        have HBE := Lib.hid (HT.out.1.nm.call hnm.be).be
        have HRB := Lib.hid HT.out.2
        clear hnm hgg hg2 hGL hNL HT HLS
        go_wp2
        go_loopw [9] (fun v9 wr => ∃ q : Nat, q ≤ p ∧ v9 = .int .i64 q ∧ Hid (∃ d, wr = w2.drewN d)) (fun v9 _ => p - (intOf v9).toNat)
        case atStart => exact ⟨0, by omega, rfl, Lib.hid ⟨0, rfl⟩⟩
        case round =>
          obtain ⟨q, hqp, rfl, hD⟩ := hrel
          obtain ⟨d, rfl⟩ := hD.out
          by_cases hqt : q < p
          · have hqi : (q : Int) < (p : Int) := by omega
            obtain ⟨g1, o1, rfl, hg1', hc1⟩ := HGL.out q hqt
            obtain ⟨g2, o2, rfl, hg2', hc2⟩ := HNL.out q hqt
            obtain ⟨y, hy⟩ : ∃ y, L.getD q 0 = y := ⟨_, rfl⟩
            have e1 : (w2.drewN d).drew.cell? ⟨g1, o1 + q, none⟩ = some (.int .i64 y) := by rw [← hy]; exact hc1
            have e2 : (w2.drewN d).drew.cell? ⟨g2, o2 + q, none⟩ = some (.int .i64 y) := by rw [← hy]; exact hc2
            have f1 : w2.cell? ⟨g1, o1 + q, none⟩ = some (.int .i64 y) := by rw [← hy]; exact hc1
            have f2 : w2.cell? ⟨g2, o2 + q, none⟩ = some (.int .i64 y) := by rw [← hy]; exact hc2
            clear hc1 hc2 hy
            go_wp2
            go_region
            all_goals
              go_wp2
              go_roundw
              case rel => exact ⟨q + 1, by omega, by go_num, Lib.hid ⟨d + 1, rfl⟩⟩
              case measure => simp [intOf]; omega
          · obtain rfl : q = p := by omega
            have hqi : ¬ (q : Int) < (q : Int) := by omega
            have HBD := Lib.hid (below_drewN HBE.out d)
            have HGD : Hid (Lies (w2.drewN d) (w2.drewN d).heap.size gA q (fun k => .int .i64 (L.getD k 0))) := HGL.out
            clear HBE HGL HNL hqt
            generalize w2.drewN d = w4 at HBD HGD ⊢
            go_wp2_with fail
            refine (awake_any _).mono ?_
            rintro e w5 ⟨rfl, hb5⟩
            have HB5 := Lib.hid (HBD.out.trans (hb5.mono HBD.out.size))
            have HG5 := Lib.hid (Lies.wide (HGD.out.below hb5) hb5.size)
            clear hb5 HBD HGD
            go_wp2_with fail
            refine (rising_any gA q gc L _ HG5.out HPP.out (by omega) hg9 (by omega)).mono ?_
            rintro e w' ⟨rfl, rfl⟩
            rw [HRB.out]
            have hr0 : risB [] = true := rfl
            have hr2 : risB [2] = false := rfl
            have HR0 := Lib.hid hr0
            have HR2 := Lib.hid hr2
            clear hr0 hr2
            go_wp2_with fail
            refine (rising_any none 0 0 [] _ (fun k hk => by omega) rfl (by omega) (by omega) (by omega)).mono ?_
            rintro e w' ⟨rfl, rfl⟩
            rw [HR0.out]
            go_wp2_with fail
            refine (rising_any _ 1 1 [2] _ (lies_two _) rfl (by omega) (by omega) (by omega)).mono ?_
            rintro e w' ⟨rfl, rfl⟩
            rw [HR2.out]
            go_wp2
            go_ret
            exact ⟨rfl, HB5.out.alloc HB5.out.size _⟩
theorem tick_end {w : World} (A : Option Addr) (n c : Nat) (f : Nat → Int) (hn : n ≤ c) (hc : c ≤ 9223372036854775807) (hf : ∀ k, -9223372036854775808 ≤ f k ∧ f k ≤ 9223372036854775807) (hl : Lies w w.heap.size A n (fun k => .int .i64 (f k))) :
    Calls Try.prog 4 #[.slice A n c] w fun e w' => e = .returned (.bool true) ∧ Below w.heap.size w w' :=
  tick_law A n c f hn hc hf w hl
end Go.Proofs.Ytpgacadnmekdhaa.Hi
