/- hist.Order: those that were done, in that order. -/
import Derived.Test.YtaimbkikiokenaaHoE
import Derived.Test.YtaimbkikiokenaaHiJs
import Derived.Test.YtaimbkikiokenaaHiI
import Derived.Test.YtaimbkikiokenaaHiF
import Derived.Test.YtaimbkikiokenaaApp
import Derived.Deep.DeepCutAuto
import Derived.Deep.CutBlock
namespace Go.Proofs.Ytaimbkikiokenaa.Hi
open Go.RowKit Go.Proofs.Ytaimbkikiokenaa Go.Maps
set_option linter.unusedVariables false
set_option maxRecDepth 100000
theorem dl_seg {w : World} {v : Value} {L : List Sp} {ob : Option Nat} (h : Seg w 104 13 v L.length (scells L) ob) (hn : 0 < L.length) : ∃ g o cap, v = .slice (some ⟨g, o, none⟩) L.length cap ∧ ob = some g ∧ L.length ≤ cap ∧ cap ≤ 9223372036854775807 ∧ DL w g o L ∧ g < w.heap.size := by
  obtain ⟨g, o, cap, e, hob, h1, h2, hc, hfz⟩ := h.shape hn
  exact ⟨g, o, cap, e, hob, h1, by unfold maxLen at h2; omega, ⟨fun k hk j u hu => by rw [Nat.add_assoc]; exact hc _ _ (scells_get L k L[k] j u (List.getElem?_eq_getElem hk) hu), hfz⟩, h.lt g hob⟩
def doneL (xs : List Sp) : List Sp := xs.filter (fun x => decide (0 ≤ x.turn))
theorem done_yes {xs : List Sp} {k : Nat} {x : Sp} (h : xs[k]? = some x) (ht : 0 ≤ x.turn) : doneL (xs.take (k + 1)) = doneL (xs.take k) ++ [x] := by
  unfold doneL
  rw [List.take_add_one, h, List.filter_append]
  simp [ht]
theorem done_no {xs : List Sp} {k : Nat} {x : Sp} (h : xs[k]? = some x) (ht : ¬ 0 ≤ x.turn) : doneL (xs.take (k + 1)) = doneL (xs.take k) := by
  unfold doneL
  rw [List.take_add_one, h, List.filter_append]
  simp [ht]
theorem ins_nil (w : World) :
    Calls Try.prog 128 #[.slice none 0 0, .int .i64 0, .int .i64 0, .func (.func 89) #[] #[]] w fun e w' => e = .returned (.tuple #[]) ∧ w = w' := by
  go_enter Try.func128, Try.ntmps128
  go_wp2
  refine wp_loop_rounds 1 ?_
  rw [rounds_succ]
  go_wp2
  go_end0
  exact ⟨rfl, rfl⟩
theorem stable_nil (w : World) :
    Calls Try.prog 118 #[.slice none 0 0, .int .i64 0, .func (.func 89) #[] #[]] w fun e w' => e = .returned (.tuple #[]) ∧ w = w' := by
  go_enter Try.func118, Try.ntmps118
  go_wp2
  refine wp_loop_rounds 1 ?_
  rw [rounds_succ]
  go_wp2_with fail
  refine (ins_nil _).mono ?_
  rintro e w1 ⟨rfl, rfl⟩
  go_wp2
  refine wp_loop_rounds 1 ?_
  rw [rounds_succ]
  go_wp2
  go_end0
  exact ⟨rfl, rfl⟩
theorem sort_nil (w : World) :
    Calls Try.prog 88 #[.slice none 0 0, .func (.func 89) #[] #[]] w fun e w' => e = .returned (.tuple #[]) ∧ w = w' := by
  go_enter Try.func88, Try.ntmps88
  go_wp2_with fail
  refine (stable_nil _).mono ?_
  rintro e w1 ⟨rfl, rfl⟩
  go_wp2
  go_end0
  exact ⟨rfl, rfl⟩
/-- A list of spans of the call's own. -/
def OwnL (w w' : World) (v : Value) (L : List Sp) : Prop := Below w.heap.size w w' ∧ ((L = [] ∧ v = .slice none 0 0) ∨ ∃ g o cap, v = .slice (some ⟨g, o, none⟩) L.length cap ∧ L.length ≤ cap ∧ cap ≤ 9223372036854775807 ∧ DL w' g o L ∧ w.heap.size ≤ g ∧ g < w'.heap.size)
theorem done_len (xs : List Sp) (k : Nat) : (doneL (xs.take k)).length ≤ k := by
  have h1 : (doneL (xs.take k)).length ≤ (xs.take k).length := List.length_filter_le _ _
  rw [List.length_take] at h1
  omega
set_option maxHeartbeats 8000000 in
theorem order_any (A : Option Addr) (n c : Nat) (xs : List Sp) (w : World) (h : Ls w A xs) (hn : xs.length = n) (hnc : n ≤ c) (hc9 : c ≤ 9223372036854775807) (h20 : (doneL xs).length ≤ 20) (hn9 : n ≤ 1000) :
    Calls Try.prog 48 #[.slice A n c] w fun e w' => ∃ v, e = .returned v ∧ OwnL w w' v (isort (doneL xs)) := by
  have H := Lib.hid h
  have HN := Lib.hid hn
  obtain ⟨i0, hi0, hz0, hz1, hz2⟩ := info_parts span_info
  clear h hn
  go_enter Try.func48, Try.ntmps48
  go_upto_block 0 with fail
  go_cut [3, 5, 8] (fun s3 s5 s8 wx => ∃ v3, v3 = s3 ∧ Hid (∃ ob, Seg wx 104 13 v3 (doneL xs).length (scells (doneL xs)) ob ∧ (∀ g, ob = some g → w.heap.size ≤ g) ∧ (doneL xs = [] → v3 = .slice none 0 0) ∧ Below w.heap.size w wx))
  case first =>
    go_wp2
    go_loopw [3, 5, 8] (fun s3 s5 s8 wr => ∃ k : Nat, k ≤ n ∧ s8 = .int .i64 k ∧ Hid (∃ ob, Seg wr 104 13 s3 (doneL (xs.take k)).length (scells (doneL (xs.take k))) ob ∧ (∀ g, ob = some g → w.heap.size ≤ g) ∧ (doneL (xs.take k) = [] → s3 = .slice none 0 0) ∧ Below w.heap.size w wr)) (fun _ _ s8 _ => n - (intOf s8).toNat)
    case atStart => exact ⟨0, by omega, rfl, none, Seg.nil _ _ _, (fun g e => by cases e), fun _ => rfl, Below.refl _ _⟩
    case round =>
      obtain ⟨k, hk, rfl, hst⟩ := hrel
      obtain ⟨ob, hs, hob, hnil, hb⟩ := hst.out
      have HS := Lib.hid hs
      have HOB := Lib.hid hob
      have HNI := Lib.hid hnil
      have HB := Lib.hid hb
      clear hst hs hob hnil
      by_cases hlt : k < n
      · obtain ⟨x, hx⟩ : ∃ x, xs[k]? = some x := ⟨xs[k]'(by rw [HN.out]; exact hlt), List.getElem?_eq_getElem _⟩
        obtain ⟨g, o, rfl, hg, hc⟩ := (H.out.call hb) k x hx
        have hki : (k : Int) < (n : Int) := by omega
        have HX := Lib.hid hx
        have HL := Lib.hid (Nat.le_trans (done_len xs k) (show k ≤ 1000 by omega))
        obtain ⟨c0, c1, c2, c3, c4, c5, c6, c7, c8, c9, c10, c11, c12⟩ : wr.cell? ⟨g, o + k * 13, none⟩ = some (.int .i64 x.c) ∧ wr.cell? ⟨g, o + k * 13 + 1, none⟩ = some (.int .i64 x.n) ∧ wr.cell? ⟨g, o + k * 13 + 2, none⟩ = some (.int .i64 x.call) ∧ wr.cell? ⟨g, o + k * 13 + 3, none⟩ = some (.int .i64 x.turn) ∧ wr.cell? ⟨g, o + k * 13 + 4, none⟩ = some (.int .i64 x.reply) ∧ wr.cell? ⟨g, o + k * 13 + 5, none⟩ = some (.int .i64 x.err) ∧ wr.cell? ⟨g, o + k * 13 + 6, none⟩ = some (.int .i64 x.tick) ∧ wr.cell? ⟨g, o + k * 13 + 7, none⟩ = some (.int .i64 0) ∧ wr.cell? ⟨g, o + k * 13 + 8, none⟩ = some (.int .i64 0) ∧ wr.cell? ⟨g, o + k * 13 + 9, none⟩ = some (.int .i64 0) ∧ wr.cell? ⟨g, o + k * 13 + 10, none⟩ = some (.int .i64 0) ∧ wr.cell? ⟨g, o + k * 13 + 11, none⟩ = some (.int .i64 0) ∧ wr.cell? ⟨g, o + k * 13 + 12, none⟩ = some (.int .i64 0) :=
          ⟨hc 0 _ rfl, hc 1 _ rfl, hc 2 _ rfl, hc 3 _ rfl, hc 4 _ rfl, hc 5 _ rfl, hc 6 _ rfl, hc 7 _ rfl, hc 8 _ rfl, hc 9 _ rfl, hc 10 _ rfl, hc 11 _ rfl, hc 12 _ rfl⟩
        clear hx hc hb hg
        have hB1 : Below wr.heap.size wr (wr.alloc (.cells #[.int .i64 x.c, .int .i64 x.n, .int .i64 x.call, .int .i64 x.turn, .int .i64 x.reply, .int .i64 x.err, .int .i64 x.tick, .int .i64 0, .int .i64 0, .int .i64 0, .int .i64 0, .int .i64 0, .int .i64 0] 104)) := (Below.refl _ _).alloc (Nat.le_refl _) _
        by_cases ht : 0 ≤ x.turn
        · have HE := Lib.hid (done_yes HX.out ht)
          have HSG := Lib.hid (HS.out.alloc (.cells #[.int .i64 x.c, .int .i64 x.n, .int .i64 x.call, .int .i64 x.turn, .int .i64 x.reply, .int .i64 x.err, .int .i64 x.tick, .int .i64 0, .int .i64 0, .int .i64 0, .int .i64 0, .int .i64 0, .int .i64 0] 104))
          have HB1 := Lib.hid hB1
          clear hB1
          go_wp2_with (at_builtin; refine wpList_append_seg _ rfl _ _ 93 rfl 104 i0 _ 13 104 Try.underlying93 hi0 hz0 hz1 hz2 rfl (by decide) _ _ _ _ rfl (HSG.out.alloc _) ⟨wr.heap.size + 1, 0, none⟩ 1 1 x.cells rfl rfl (news_row (row_at (by simp))) (sp_one _) (by decide) (by have := HL.out; unfold maxLen; omega) (by have := HL.out; omega) ?_; intro v2 w3 ob2 hs2 ht2 ho2; have HS2 := Lib.hid hs2; have HT2 := Lib.hid ht2; have HO2 := Lib.hid ho2; clear hs2 ht2 ho2; go_frame)
          go_roundw
          case measure => simp [intOf]; omega
          case rel =>
            refine ⟨k + 1, by omega, by go_num, ob2, ?_, ?_, ?_, ?_⟩
            · rw [HE.out, List.length_append]
              have e : scells (doneL (xs.take k) ++ [x]) = scells (doneL (xs.take k)) ++ x.cells := by simp [scells]
              rw [e]
              exact HS2.out
            · intro b e
              rcases HO2.out with h1 | ⟨g', h1, hg'⟩
              · exact HOB.out b (by rw [← h1]; exact e)
              · rw [h1] at e; injection e with e; have := HB.out.size; simp at hg'; omega
            · intro e
              rw [HE.out] at e
              simp at e
            · have hb := HB.out
              have h1 : Below w.heap.size w ((wr.alloc (.cells #[.int .i64 x.c, .int .i64 x.n, .int .i64 x.call, .int .i64 x.turn, .int .i64 x.reply, .int .i64 x.err, .int .i64 x.tick, .int .i64 0, .int .i64 0, .int .i64 0, .int .i64 0, .int .i64 0, .int .i64 0] 104)).alloc (.cells x.cells.toArray 104)) := (hb.trans (HB1.out.mono hb.size)).alloc (by simp; have := hb.size; omega) _
              exact HT2.out.below h1 h1.size (fun j hj e => by have := HOB.out j e; omega)
        · have HE := Lib.hid (done_no HX.out ht)
          have HB1 := Lib.hid hB1
          clear hB1
          go_wp2
          go_roundw
          case measure => simp [intOf]; omega
          case rel => exact ⟨k + 1, by omega, by go_num, ob, by rw [HE.out]; exact HS.out.alloc _, HOB.out, by rw [HE.out]; exact HNI.out, HB.out.trans (HB1.out.mono HB.out.size)⟩
      · obtain rfl : k = n := by omega
        have hki : ¬ (k : Int) < (k : Int) := by omega
        have HE := Lib.hid (show doneL (xs.take k) = doneL xs from by rw [List.take_of_length_le (by rw [HN.out]; omega)])
        clear hlt
        go_wp2
        go_meet
        exact ⟨_, rfl, Lib.hid ⟨ob, by have h1 := HS.out; rw [HE.out] at h1; exact h1, HOB.out, by have h1 := HNI.out; rw [HE.out] at h1; exact h1, HB.out⟩⟩
  case rest =>
    obtain ⟨v3, rfl, hst⟩ := hcut
    obtain ⟨ob, hs, hob, hnil, hb⟩ := hst.out
    have HB := Lib.hid hb
    have HOB := Lib.hid hob
    rcases Nat.eq_zero_or_pos (doneL xs).length with h0 | h0
    · have h1 : doneL xs = [] := List.length_eq_zero_iff.1 h0
      obtain rfl := hnil h1
      have HD := Lib.hid h1
      clear hst hs hob hnil hb h0 h1
      go_wp2_with fail
      refine (sort_nil _).mono ?_
      rintro e w1 ⟨rfl, rfl⟩
      go_wp2
      go_ret
      exact ⟨_, rfl, HB.out, .inl ⟨by rw [HD.out]; rfl, rfl⟩⟩
    · obtain ⟨g, o, cap, rfl, hob2, h1, h2, hdl, hg⟩ := dl_seg hs h0
      obtain ⟨m, hm⟩ : ∃ m, (doneL xs).length = m := ⟨_, rfl⟩
      have HDL := Lib.hid hdl
      have HG := Lib.hid (And.intro (hob g hob2) hg)
      have HM := Lib.hid hm
      rw [hm] at h1 h20 ⊢
      clear hst hs hob hnil hb h0 hdl hg hob2 hm
      go_wp2_with fail
      refine (sort_any g o m cap (doneL xs) _ HDL.out HG.out.2 HM.out h1 (by omega) h2 h20).mono ?_
      rintro e w1 ⟨rfl, hT, hD⟩
      have HT := Lib.hid hT
      have HD := Lib.hid hD
      clear hT hD
      go_wp2
      go_ret
      refine ⟨_, rfl, HT.out.below HB.out HB.out.size (fun j hj e => by have := HG.out.1; omega),   .inr ⟨g, o, cap, by rw [isort_len, HM.out]; rfl, by rw [isort_len, HM.out]; exact h1, h2, HD.out, HG.out.1, Nat.lt_of_lt_of_le HG.out.2 HT.out.size⟩⟩
end Go.Proofs.Ytaimbkikiokenaa.Hi
