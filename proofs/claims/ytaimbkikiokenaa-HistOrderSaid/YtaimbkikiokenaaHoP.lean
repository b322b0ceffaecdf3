/- A history, made in order. -/
import Derived.Test.YtaimbkikiokenaaHoN
import Derived.Deep.DeepCutAuto
import Derived.Deep.CutBlock
namespace Go.Proofs.Ytaimbkikiokenaa.Hi
open Go.RowKit Go.Proofs.Ytaimbkikiokenaa Go.Maps
set_option linter.unusedVariables false
set_option maxRecDepth 100000
def E3 (n : Int) : Int := bits .and .i64 n 3
/-- What made holds between rounds, and what it is so far. -/
def Mq (w0 w : World) (v : Value) (ab nb : Nat) (k : Nat) : Prop := ∃ ob es nn a xs, Md w0 w v ob es ab nb nn k k ∧ Tab w ab 41 3 (fun i => .int .i64 (a i)) ∧ VH E3 es a nn xs
theorem mq_start (w : World) : Mq w (((w.alloc (.cells #[] 144)).alloc (.cells #[.int .i64 0, .int .i64 0, .int .i64 0] 41)).alloc (.cells #[.int .i64 0, .int .i64 0, .int .i64 0] 41)) (.slice (some ⟨w.heap.size, 0, none⟩) 0 0) (w.heap.size + 1) (w.heap.size + 1 + 1) 0 := by
  refine ⟨_, _, _, fun _ => 0, [], Md.start w, ?_, VH.zero E3⟩
  refine ⟨#[.int .i64 0, .int .i64 0, .int .i64 0], (row_at (by simp)).alloc _, rfl, fun i hi => ?_⟩
  match i, hi with
  | 0, _ => rfl
  | 1, _ => rfl
  | 2, _ => rfl
/-- How a round goes on. -/
def Nx (q : Nat) (a nn a' nn' : Nat → Int) (kd : Int) : Prop := (kd = 1 ∧ a q = 0 ∧ a' = upd a q 1 ∧ nn' = nn) ∨ (kd = 2 ∧ a q = 1 ∧ a' = upd a q 2 ∧ nn' = nn) ∨ (kd = 3 ∧ 0 < a q ∧ a' = upd a q 0 ∧ nn' = upd nn q (nn q + 1))
theorem tab_past {w : World} {b : Nat} {t : TypeId} {n : Nat} {v : Nat → Value} (h : Tab w b t n v) {eb : Nat} (hne : eb ≠ b) (i : Nat) (u : Value) : Tab (w.setCell ⟨eb, i, none⟩ u) b t n v := by
  obtain ⟨cs, hr, h1, h2⟩ := h
  exact ⟨cs, hr.past (p := ⟨eb, i, none⟩) (fun e => hne e.symm) u, h1, h2⟩
theorem tab_put {w : World} {b : Nat} {t : TypeId} {n : Nat} {a : Nat → Int} (h : Tab w b t n (fun i => .int .i64 (a i))) {q : Nat} (hq : q < n) (u : Int) : Tab (w.setCell ⟨b, q, none⟩ (.int .i64 u)) b t n (fun i => .int .i64 (upd a q u i)) :=
  h.put q _ (fun j hj hn => by show Value.int .i64 (a j) = .int .i64 (upd a q u j); rw [upd_no _ _ hn]) (fun _ => by show Value.int .i64 u = .int .i64 (upd a q u q); rw [upd_at])
theorem tab_app {w w2 : World} {ob : Option Nat} {v : Value} {n b : Nat} {xs : List Value} {a : Nat → Value} {o : Obj} (hs : Seg w 144 11 v n xs ob) (h : Tab w b 41 3 a) (ht : Turns (w.alloc o) w2 (fun j => ob = some j)) : Tab w2 b 41 3 a := by
  obtain ⟨cs, hr, h1, h2⟩ := h
  refine ⟨cs, (hr.alloc o).turns ht (fun e => ?_), h1, h2⟩
  rw [e] at hs
  obtain ⟨c', hr'⟩ := seg_row hs
  exact row_ne hr' hr (by decide) rfl
theorem vh_next {es : List Hv} {a nn a' nn' : Nat → Int} {xs : List Sp} {q : Nat} {kd nq aq er tk : Int} (h : VH E3 es a nn xs) (hx : Nx q a nn a' nn' kd) (hq : q < 3) (hnq : nn q = nq) (haq : a q = aq) (het : 0 < aq → er = E3 nq ∧ tk = q) : ∃ ys, VH E3 (es ++ [⟨kd, q, nq, er, tk⟩]) a' nn' ys := by
  subst hnq haq
  rcases hx with ⟨rfl, h1, rfl, rfl⟩ | ⟨rfl, h1, rfl, rfl⟩ | ⟨rfl, h1, rfl, rfl⟩
  · exact h.begins q hq h1 er tk
  · obtain ⟨rfl, rfl⟩ := het (by omega)
    exact h.turns q hq h1
  · obtain ⟨rfl, rfl⟩ := het h1
    exact h.tells q hq h1
set_option maxHeartbeats 8000000 in
theorem made15 (A : Option Addr) (n c : Nat) (f : Nat → Int) (hn : n ≤ c) (hc : c ≤ 9223372036854775807) (hf : ∀ k, -9223372036854775808 ≤ f k ∧ f k ≤ 9223372036854775807) (w : World) (hl : Lies w w.heap.size A n (fun k => .int .i64 (f k))) :
    Calls Try.prog 47 #[.slice A n c, .int .i64 15] w fun e w' => ∃ v es, e = .returned v ∧ Mv w w' v es ∧ ∃ a nn xs, VH E3 es a nn xs := by
  obtain ⟨i0, hi0, hz0, hz1, hz2⟩ := info_parts ev_info
  have HL := Lib.hid hl
  have HF := Lib.hid hf
  clear hl hf
  obtain ⟨m, hm⟩ : ∃ m : Nat, min n 30 = m := ⟨_, rfl⟩
  have HM0 : Hid (Mq w (((w.alloc (.cells #[] 144)).alloc (.cells #[.int .i64 0, .int .i64 0, .int .i64 0] 41)).alloc (.cells #[.int .i64 0, .int .i64 0, .int .i64 0] 41)) (.slice (some ⟨w.heap.size, 0, none⟩) 0 0) (w.heap.size + 1) (w.heap.size + 1 + 1) 0) := mq_start w
  go_enter Try.func47, Try.ntmps47
  go_upto_region 3 with fail
  generalize (((w.alloc (.cells #[] 144)).alloc (.cells #[.int .i64 0, .int .i64 0, .int .i64 0] 41)).alloc (.cells #[.int .i64 0, .int .i64 0, .int .i64 0] 41)) = W0 at HM0 ⊢
  generalize w.heap.size + 1 + 1 = nb at HM0 ⊢
  generalize w.heap.size + 1 = ab at HM0 ⊢
  go_wp2
  go_loopw [8, 5, 9, 10] (fun v8 v5 s9 s10 wr => ∃ k : Nat, k ≤ m ∧ v8 = .int .i64 k ∧ Hid (Mq w wr v5 ab nb k)) (fun v8 _ _ _ _ => m - (intOf v8).toNat)
  case atStart => exact ⟨0, by omega, rfl, HM0⟩
  case round =>
    clear HM0
    obtain ⟨k, hkm, rfl, hT⟩ := hrel
    have HT := Lib.hid hT.out
    clear hT
    by_cases hlt : k < m
    · have hk1 : (k : Int) < (n : Int) := by omega
      have hk2 : (k : Int) < 30 := by omega
      obtain ⟨ob, es, nn, a, xs, hM, ha, hVH⟩ := HT.out
      have HVH := Lib.hid hVH
      clear hVH
      obtain ⟨vA, vc, rfl, hv1, hv2⟩ := hM.sg.form
      have hv9 : vc ≤ 9223372036854775807 := by unfold maxLen at hv2; omega
      rw [hM.ln] at hM hv1 ⊢
      clear hv2
      obtain ⟨g, o, rfl, hg, hcx⟩ := HL.out k (by omega)
      have hcr : wr.cell? ⟨g, o + k, none⟩ = some (.int .i64 (f k)) := (hM.be.cell (p := ⟨g, o + k, none⟩) hg).trans hcx
      have h255 := and255 (f k)
      obtain ⟨q, hq⟩ : ∃ q : Nat, (f k % 256).tmod 3 = (q : Int) ∧ q < 3 := ⟨((f k % 256) % 3).toNat, by rw [Int.tmod_eq_emod_of_nonneg (by omega)]; omega, by omega⟩
      obtain ⟨hq1, hq3⟩ := hq
      have hqi : (q : Int) < 3 := by omega
      have ca := ha.cell hq3
      have cn := hM.nt.cell hq3
      have hbd := hM.bd q
      obtain ⟨aq, haq⟩ : ∃ aq, a q = aq := ⟨_, rfl⟩
      obtain ⟨nq, hnq⟩ : ∃ nq, nn q = nq := ⟨_, rfl⟩
      have HAQ := Lib.hid haq
      have HNQ := Lib.hid hnq
      have HTA := Lib.hid ha
      rw [haq] at ca
      rw [hnq] at cn hbd
      have HM := Lib.hid hM
      have hal := ha.lt
      have hnl := hM.nt.lt
      have hab : ab ≠ wr.heap.size := by omega
      have hnb : nb ≠ wr.heap.size := by omega
      have hcx0 := hcx
      clear ha hM hcx HT haq
      go_upto_if 38 with fail
      go_cut [] (fun wx => ∃ er tk : Int, wx = wr.alloc (.cells #[.int .i64 0, .int .i64 q, .int .i64 nq, .int .i64 er, .int .i64 tk, .int .i64 0, .int .i64 0, .int .i64 0, .int .i64 0, .int .i64 0, .int .i64 0] 144) ∧ Hid (0 < aq → er = E3 nq ∧ tk = q))
      case first =>
        by_cases hpos : 0 < aq
        · go_wp2
          go_meet
          exact ⟨_, _, rfl, fun _ => ⟨rfl, rfl⟩⟩
        · go_wp2
          go_meet
          exact ⟨_, _, rfl, fun h => by omega⟩
      case rest =>
        obtain ⟨er, tk, rfl, HET⟩ := hcut
        have hI2 : I64 (q : Int) := ⟨by omega, by omega⟩
        have hI3 : NB nq := ⟨by omega, by omega⟩
        have hE : Me w (wr.alloc (.cells #[.int .i64 0, .int .i64 q, .int .i64 nq, .int .i64 er, .int .i64 tk, .int .i64 0, .int .i64 0, .int .i64 0, .int .i64 0, .int .i64 0, .int .i64 0] 144)) (.slice vA k vc) ob es ab nb nn k k wr.heap.size ⟨0, q, nq, er, tk⟩ :=
          ⟨HM.out.call ((Below.refl _ wr).alloc (Nat.le_refl _) _), Row.made _ _ _, fun e => by have := HM.out.sg.lt _ e; omega, HM.out.be.size⟩
        have ha' : Tab (wr.alloc (.cells #[.int .i64 0, .int .i64 q, .int .i64 nq, .int .i64 er, .int .i64 tk, .int .i64 0, .int .i64 0, .int .i64 0, .int .i64 0, .int .i64 0, .int .i64 0] 144)) ab 41 3 (fun i => .int .i64 (a i)) := HTA.out.below ((Below.refl _ wr).alloc (Nat.le_refl _) _) HTA.out.lt
        generalize wr.alloc (.cells #[.int .i64 0, .int .i64 q, .int .i64 nq, .int .i64 er, .int .i64 tk, .int .i64 0, .int .i64 0, .int .i64 0, .int .i64 0, .int .i64 0, .int .i64 0] 144) = W1 at hE ha' ⊢
        generalize wr.heap.size = eb at hE hab hnb hal hnl ⊢
        have b0 := hE.c 0 (.int .i64 0) rfl
        have bz := hE.er.free 0
        have da := ha'.cell hq3
        have dz := ha'.free q
        have dn := hE.md.nt.cell hq3
        have dm := hE.md.nt.free q
        rw [hnq] at dn
        rw [HAQ.out] at da
        have HTA1 := Lib.hid ha'
        have HE := Lib.hid hE
        have n1 : ab ≠ nb := hE.md.ne
        have n2 : nb ≠ ab := fun e => hE.md.ne e.symm
        have n3 : eb ≠ ab := fun e => hab e.symm
        have n4 : eb ≠ nb := fun e => hnb e.symm
        have cp : W1.cell? ⟨g, o + k, none⟩ = some (.int .i64 (f k)) := (hE.md.be.cell (p := ⟨g, o + k, none⟩) hg).trans hcx0
        have n5 : g ≠ eb := fun e => by have := hE.eg; omega
        have n6 : g ≠ ab := fun e => by have := hE.md.ag; omega
        have n7 : g ≠ nb := fun e => by have := hE.md.ng; omega
        clear hE ha' hal hnl HM ca cn hcx0
        have H4 : Hid (nq ≤ k) := hbd.2
        go_upto_block 2 with fail
        go_cut [] (fun wx => ∃ (nn' a' : Nat → Int) (kd : Int), Hid (Me w wx (.slice vA k vc) ob es ab nb nn' k (k + 1) eb ⟨kd, q, nq, er, tk⟩) ∧ Hid (Tab wx ab 41 3 (fun i => .int .i64 (a' i))) ∧ Hid (Nx q a nn a' nn' kd))
        case first =>
          have HQ3 := Lib.hid hq3
          by_cases h0 : aq = 0
          · have hN := Lib.hid (show Nx q a nn (upd a q 1) nn 1 from .inl ⟨rfl, by rw [HAQ.out]; exact h0, rfl, rfl⟩)
            subst h0
            go_wp2
            all_goals
              go_meet
              exact ⟨nn, upd a q 1, 1, Lib.hid ((((HE.out.putE 0 (.int .i64 1) ⟨1, q, nq, er, tk⟩ rfl).putA q 1)).mono), Lib.hid (tab_put (tab_past HTA1.out n3 _ _) HQ3.out _), hN⟩
          · have ha2 : aq = 1 ∨ aq = 2 := by
              rcases HVH.out.st q hq3 with ⟨h1, _⟩ | ⟨_, _, _, _, _, ⟨h1, _⟩ | ⟨h1, _⟩⟩
              · rw [HAQ.out] at h1; exact absurd h1 h0
              · rw [HAQ.out] at h1; exact .inl h1
              · rw [HAQ.out] at h1; exact .inr h1
            have hN3 := Lib.hid (show Nx q a nn (upd a q 0) (fun j => if j = q then nq + 1 else nn j) 3 from .inr (.inr ⟨rfl, by rw [HAQ.out]; omega, rfl, by rw [HNQ.out]; rfl⟩))
            rcases ha2 with h1 | h1
            · have hN2 := Lib.hid (show Nx q a nn (upd a q 2) nn 2 from .inr (.inl ⟨rfl, by rw [HAQ.out]; exact h1, rfl, rfl⟩))
              subst h1
              clear h0
              go_wp2
              all_goals
                go_meet
                first
                  | exact ⟨nn, upd a q 2, 2, Lib.hid ((((HE.out.putE 0 (.int .i64 2) ⟨2, q, nq, er, tk⟩ rfl).putA q 2)).mono), Lib.hid (tab_put (tab_past HTA1.out n3 _ _) HQ3.out _), hN2⟩
                  | exact ⟨_, upd a q 0, 3, Lib.hid (((HE.out.putE 0 (.int .i64 3) ⟨3, q, nq, er, tk⟩ rfl).putA q 0).putN q (nq + 1) ⟨by omega, by omega⟩), Lib.hid (tab_past (tab_put (tab_past HTA1.out n3 _ _) HQ3.out _) n2 _ _), hN3⟩
            · subst h1
              clear h0
              go_wp2
              all_goals
                go_meet
                exact ⟨_, upd a q 0, 3, Lib.hid (((HE.out.putE 0 (.int .i64 3) ⟨3, q, nq, er, tk⟩ rfl).putA q 0).putN q (nq + 1) ⟨by omega, by omega⟩), Lib.hid (tab_past (tab_put (tab_past HTA1.out n3 _ _) HQ3.out _) n2 _ _), hN3⟩
        case rest =>
          obtain ⟨nn', a', kd, hE2, HTA2, HNX⟩ := hcut
          have HE2 := Lib.hid hE2.out
          have b0 := HE2.out.c 0 (.int .i64 kd) rfl
          have b2 := HE2.out.c 2 (.int .i64 nq) rfl
          have b4 := HE2.out.c 4 (.int .i64 tk) rfl
          have z0 := HE2.out.er.free 0
          have z2 := HE2.out.er.free 2
          have z4 := HE2.out.er.free 4
          clear hE2 HE
          go_upto_if 83 with fail
          go_cut [] (fun wx => wc = wx)
          case first =>
            have e31 : bits .and .i64 0 31 = 0 := by decide
            have e7 : bits .and .i64 15 7 = 7 := by decide
            by_cases hk0 : k = 0
            · subst hk0
              go_wp2
              all_goals
                go_meet
                rfl
            · have hk9 : ((k : Int) == 0) = false := by rw [beq_eq_false_iff_ne]; omega
              go_wp2
              all_goals
                go_meet
                rfl
          case rest =>
            subst hcut
            clear b0 b2 b4 z0 z2 z4
            have x0 := HE2.out.c 0 (.int .i64 kd) rfl
            have x1 := HE2.out.c 1 (.int .i64 q) rfl
            have x2 := HE2.out.c 2 (.int .i64 nq) rfl
            have x3 := HE2.out.c 3 (.int .i64 er) rfl
            have x4 := HE2.out.c 4 (.int .i64 tk) rfl
            have x5 := HE2.out.c 5 (.int .i64 0) rfl
            have x6 := HE2.out.c 6 (.int .i64 0) rfl
            have x7 := HE2.out.c 7 (.int .i64 0) rfl
            have x8 := HE2.out.c 8 (.int .i64 0) rfl
            have x9 := HE2.out.c 9 (.int .i64 0) rfl
            have x10 := HE2.out.c 10 (.int .i64 0) rfl
            have hsk := HE2.out.md.sg
            rw [HE2.out.md.ln] at hsk
            have HSK := Lib.hid hsk
            clear hsk
            go_wp2_with (at_builtin; refine wpList_append_seg _ rfl _ _ 96 rfl 144 i0 _ 11 88 Try.underlying96 hi0 hz0 hz1 hz2 rfl (by decide) _ _ _ _ rfl (HSK.out.alloc _) ⟨wc.heap.size, 0, none⟩ 1 1 (Hv.cells ⟨kd, q, nq, er, tk⟩) rfl rfl (news_row (Row.made wc _ _)) (ev_one _) (by decide) (by unfold maxLen; omega) (by omega) ?_; intro v2 w3 ob2 hs2 ht2 ho2)
            have hMs : Mq w w3 v2 ab nb (k + 1) := by
              obtain ⟨ys, hv⟩ := vh_next HVH.out HNX.out hq3 HNQ.out HAQ.out HET.out
              exact ⟨ob2, es ++ [⟨kd, q, nq, er, tk⟩], nn', a', ys, Me.push HE2.out hI2 hI3 hs2 ht2 ho2, tab_app HE2.out.md.sg HTA2.out ht2, hv⟩
            have HMs := Lib.hid hMs
            clear hMs hs2 ht2 ho2
            go_roundw
            case rel => exact ⟨k + 1, by omega, by go_num, HMs⟩
            case measure => simp [intOf]; omega
    · obtain rfl : k = m := by omega
      obtain ⟨ob, es, nn, a, xs, hM, ha, hVH⟩ := HT.out
      have HV : Hid (Mv w wr u5 es ∧ ∃ a nn xs, VH E3 es a nn xs) := ⟨⟨hM.be, ⟨ob, hM.sg⟩, hM.ev, by rw [hM.ln]; omega⟩, a, nn, xs, hVH⟩
      clear hM HT ha hVH
      have hex : (k = n ∧ ¬ (k : Int) < (n : Int)) ∨ (k = 30 ∧ (k : Int) < (n : Int) ∧ ¬ (k : Int) < 30) := by omega
      rcases hex with ⟨hkk, hex⟩ | ⟨hkk, hex, hex2⟩
      all_goals
        clear hkk
        go_wp2
        go_ret
        exact ⟨_, rfl, es, HV.out⟩
end Go.Proofs.Ytaimbkikiokenaa.Hi
