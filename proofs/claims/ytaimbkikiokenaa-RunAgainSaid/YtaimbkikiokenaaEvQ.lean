/- ref03.Events. -/
import Derived.Test.YtaimbkikiokenaaEvP
namespace Go.Proofs.Ytaimbkikiokenaa.Ev
open Go.RowKit Go.Proofs.Ytaimbkikiokenaa
set_option linter.unusedVariables false
set_option maxRecDepth 100000
theorem seg_none5 (w : World) (e : TypeId) (K : Nat) (A : Option Addr) : Seg w e K (.slice A 0 0) 0 [] none := ⟨by simp, _, 0, rfl, Nat.le_refl _, by unfold maxLen; omega, .inl ⟨rfl, rfl, fun _ => trivial⟩⟩
theorem five_news (w : World) (a0 a1 a2 a3 a4 : Value) (a : Nat) (ha : w.heap.size = a) : ∀ j u, [a0, a1, a2, a3, a4][j]? = some u → (w.alloc (.cells #[a0, a1, a2, a3, a4] 58)).cell? ((⟨a, 0, none⟩ : Addr).add j) = some u := by
  subst ha
  intro j u hj
  rw [show ((⟨w.heap.size, 0, none⟩ : Addr).add j) = ⟨w.heap.size, j, none⟩ from by simp [Addr.add]; omega]
  exact ((Row.made w 58 #[a0, a1, a2, a3, a4]).cell j).trans (by simpa using hj)
/-- What Events makes: the first events, each by its number. -/
def EvsP (w : World) (F : Nat → EI) (m : Nat) (e : Ending) (w' : World) : Prop := ∃ v, ∃ es : List EM, e = .returned v ∧ EVS w w' v es ∧ es.length = m ∧ ∀ i x, es[i]? = some x → ∃ vb, x = (F i).nth i vb
set_option maxHeartbeats 8000000 in
theorem events_any (A : Option Addr) (n c : Nat) (F : Nat → EI) (most : Nat) (w : World) (hnc : n ≤ c) (hc : c ≤ 9223372036854775807) (hm : most ≤ 1000) (hl : ELies w w.heap.size A n F) :
    Calls Try.prog 22 #[.slice A n c, .int .i64 (most : Int)] w (EvsP w F (min n most)) := by
  have HL := Lib.hid hl
  obtain ⟨i0, hi0, hz0, hz1, hz2⟩ := info_parts event_info
  have HST : Hid (EVS w (w.alloc (.cells #[] 58)) (.slice (some ⟨w.heap.size, 0, none⟩) 0 0) []) := Lib.hid ⟨⟨none, seg_none5 _ _ _ _, fun g e => (by cases e), fun e he => (by cases he)⟩, (Below.refl _ w).alloc (Nat.le_refl _) _⟩
  clear hl
  go_enter Try.func22, Try.ntmps22
  go_wp2
  go_loopw [5, 6] (fun s5 s6 wr => ∃ k : Nat, k ≤ min n most ∧ s6 = .int .i64 k ∧ Hid (∃ es : List EM, EVS w wr s5 es ∧ es.length = k ∧ ∀ i x, es[i]? = some x → ∃ vb, x = (F i).nth i vb)) (fun _ s6 _ => min n most - (intOf s6).toNat)
  case atStart => exact ⟨0, by omega, rfl, [], HST.out, rfl, fun i x h => by simp at h⟩
  case round =>
    obtain ⟨k, hk, rfl, hes⟩ := hrel
    obtain ⟨es, hev, hlen, hx⟩ := hes.out
    have HX := Lib.hid hx
    have HEV := Lib.hid hev
    have HLEN := Lib.hid hlen
    clear hes hx
    by_cases hlt : k < min n most
    · have hkn : k < n := by omega
      have hkz : (k : Int) < (n : Int) := by omega
      have hkm : (k : Int) < (most : Int) := by omega
      obtain ⟨g, o, rfl, hg, hcell, hok⟩ := HL.out.below hev.be hev.be.size k hkn
      have c0 : wr.cell? ⟨g, o + k * 5, none⟩ = some (.string (F k).ty) := hcell 0 _ rfl
      have c1 : wr.cell? ⟨g, o + k * 5 + 1, none⟩ = some (.string (F k).key) := hcell 1 _ rfl
      have c2 : wr.cell? ⟨g, o + k * 5 + 2, none⟩ = some (.int .i64 (F k).t) := hcell 2 _ rfl
      have c3 : wr.cell? ⟨g, o + k * 5 + 3, none⟩ = some (.int .i64 (F k).q) := hcell 3 _ rfl
      have c4 : wr.cell? ⟨g, o + k * 5 + 4, none⟩ = some (.slice (F k).va (F k).vn (F k).vc) := hcell 4 _ rfl
      have HE := Lib.hid (event_any (F k) wr hok)
      obtain ⟨x, hxk⟩ : ∃ x, F k = x := ⟨_, rfl⟩
      rw [hxk] at c0 c1 c2 c3 c4 HE
      have HXK := Lib.hid hxk
      obtain ⟨ob, hsg, hob, h3⟩ := hev.sg
      have HSG := Lib.hid hsg
      have HOB := Lib.hid hob
      have H3 := Lib.hid h3
      have hl9 : es.length ≤ 1000 := by omega
      have HL9 := Lib.hid hl9
      have hkc : k < c := by omega
      have hw1 : IntKind.i64.wrap ((k : Int) + 1) = (k : Int) + 1 := by rw [IntKind.wrap_i64]; omega
      clear hcell hok hxk hsg hob h3 hev hl9 hlen
      go_wp2_with fail
      refine HE.out.mono ?_
      rintro e w3 ⟨vb, rfl, hmade, hb3⟩
      have HM := Lib.hid hmade
      have HB3 := Lib.hid hb3
      have HSG3 := Lib.hid (HSG.out.turns (Turns.of_below hb3) (fun _ _ h => h))
      obtain ⟨L, hL⟩ : ∃ L, evVals x.k x.n x.s x.b = L := ⟨_, rfl⟩
      obtain ⟨m, hm'⟩ : ∃ m, L.length = m := ⟨_, rfl⟩
      obtain ⟨ty, hty⟩ : ∃ ty, ty3 x.k = ty := ⟨_, rfl⟩
      obtain ⟨ky, hky⟩ : ∃ ky, (x.made vb).key = ky := ⟨_, rfl⟩
      obtain ⟨t, ht⟩ : ∃ t, x.t % 16 = t := ⟨_, rfl⟩
      rw [show (x.made vb).cells.toArray = #[.string ty, .string ky, .int .i64 t, .int .i64 0, .slice (some ⟨vb, 0, none⟩) m m] by rw [← hm', ← hL, ← hty, ← hky, ← ht]; rfl]
      have HNC : Hid ((x.nth k vb).cells = [.string ty, .string ⟨#[107]⟩, .int .i64 t, .int .i64 ((k : Int) + 1), .slice (some ⟨vb, 0, none⟩) m m]) := Lib.hid (by rw [← hm', ← hL, ← hty, ← ht]; rfl)
      clear hmade hb3 hL hm' hty hky ht c0 c1 c2 c3 c4
      go_wp2_with (at_builtin; refine wpList_append_seg _ rfl _ _ 40 rfl 58 i0 _ 5 72 Try.underlying40 hi0 hz0 hz1 hz2 rfl (by decide) _ es.length (es.flatMap EM.cells) ob rfl ((HSG3.out.alloc _).alloc _) ⟨w3.heap.size + 1, 0, none⟩ 1 1 [.string ty, .string ⟨#[107]⟩, .int .i64 t, .int .i64 ((k : Int) + 1), .slice (some ⟨vb, 0, none⟩) m m] rfl rfl (five_news _ _ _ _ _ _ _ (by simp)) (by simp [Value.oneCell']) (by decide) (by have := HL9.out; unfold maxLen; omega) (by have := HL9.out; omega) ?_; intro v5 w5 o5 hs5 ht5 ho5; have HS5 := Lib.hid hs5; have HT5 := Lib.hid ht5; have HO5 := Lib.hid ho5; clear hs5 ht5 ho5; go_frame)
      go_roundw
      case measure => simp [intOf]; omega
      case rel =>
        have hs5 := HS5.out
        rw [← HNC.out] at hs5
        have hX1 : Below w3.heap.size w3 (w3.alloc (.cells #[.string ty, .string ⟨#[107]⟩, .int .i64 t, .int .i64 ((k : Int) + 1), .slice (some ⟨vb, 0, none⟩) m m] 58)) := (Below.refl _ _).alloc (Nat.le_refl _) _
        refine ⟨k + 1, by omega, by go_num, es ++ [x.nth k vb], EVS.push HSG.out HOB.out H3.out HEV.out.be (HB3.out.trans (hX1.mono HB3.out.size)) (HM.out.call hX1) hs5 HT5.out HO5.out, by rw [List.length_append, HLEN.out]; rfl, fun i y hy => ?_⟩
        rw [List.getElem?_append] at hy
        split at hy
        · exact HX.out i y hy
        · rename_i hge
          have hl := HLEN.out
          rcases Nat.eq_zero_or_pos (i - es.length) with h2 | h2
          · rw [h2] at hy
            simp at hy
            obtain rfl : i = k := by omega
            exact ⟨vb, by rw [HXK.out]; exact hy.symm⟩
          · rw [List.getElem?_eq_none (by simp; omega)] at hy; cases hy
    · have hk' : k = min n most := by omega
      have HK := Lib.hid hk'
      by_cases hkn : k < n
      · have hkz : (k : Int) < (n : Int) := by omega
        have hkm : ¬ (k : Int) < (most : Int) := by omega
        clear hk' hlt
        go_wp2
        go_ret
        exact ⟨_, es, rfl, HEV.out, by rw [HLEN.out]; exact HK.out, HX.out⟩
      · have hkz : ¬ (k : Int) < (n : Int) := by omega
        clear hk' hlt
        go_wp2
        go_ret
        exact ⟨_, es, rfl, HEV.out, by rw [HLEN.out]; exact HK.out, HX.out⟩
end Go.Proofs.Ytaimbkikiokenaa.Ev
