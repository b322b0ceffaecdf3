/- The walk of ref03.Event. -/
import Derived.Test.YtaimbkikiokenaaEvA
namespace Go.Proofs.Ytaimbkikiokenaa.Ev
open Go.RowKit Go.Proofs.Ytaimbkikiokenaa
set_option linter.unusedVariables false
set_option maxRecDepth 100000

/-- The values are stored. -/
theorem last_step {w wd : World} {rb : Nat} {ty key : ByteArray} {t : Int} (hb : Below w.heap.size w wd) (hr : Row wd rb 58 #[.string ty, .string key, .int .i64 t, .int .i64 0, .slice none 0 0]) (hge : w.heap.size ≤ rb) (hl : rb < wd.heap.size) (vs : List VV) :
    Below w.heap.size w ((wd.setCell ⟨rb, 4, none⟩ (.slice (some ⟨wd.heap.size, 0, none⟩) vs.length vs.length)).alloc (.cells (vcells vs).toArray 92)) ∧
      Row ((wd.setCell ⟨rb, 4, none⟩ (.slice (some ⟨wd.heap.size, 0, none⟩) vs.length vs.length)).alloc (.cells (vcells vs).toArray 92)) rb 58 #[.string ty, .string key, .int .i64 t, .int .i64 0, .slice (some ⟨wd.heap.size, 0, none⟩) vs.length vs.length] ∧
      Row ((wd.setCell ⟨rb, 4, none⟩ (.slice (some ⟨wd.heap.size, 0, none⟩) vs.length vs.length)).alloc (.cells (vcells vs).toArray 92)) wd.heap.size 92 (vcells vs).toArray ∧ w.heap.size ≤ wd.heap.size ∧ rb ≠ wd.heap.size := by
  refine ⟨(hb.setCell (p := ⟨rb, 4, none⟩) hge _).alloc (by simp; exact hb.size) _, (hr.put 4 _).alloc _, ?_, hb.size, by omega⟩
  have := Row.made (wd.setCell ⟨rb, 4, none⟩ (.slice (some ⟨wd.heap.size, 0, none⟩) vs.length vs.length)) 92 (vcells vs).toArray
  simpa using this
theorem last_put {w wz : World} {rb vb n : Nat} {ty key ty' key' : ByteArray} {t : Int} {vs : List VV} (h : Below w.heap.size w wz ∧ Row wz rb 58 #[.string ty, .string key, .int .i64 t, .int .i64 0, .slice (some ⟨vb, 0, none⟩) n n] ∧ Row wz vb 92 (vcells vs).toArray ∧ w.heap.size ≤ vb ∧ rb ≠ vb) (h1 : ty = ty') (h2 : key = key') (hge : w.heap.size ≤ rb) :
    Below w.heap.size w (((((wz.setCell ⟨rb, 0, none⟩ (.string ty')).setCell ⟨rb, 1, none⟩ (.string key')).setCell ⟨rb, 2, none⟩ (.int .i64 t)).setCell ⟨rb, 3, none⟩ (.int .i64 0)).setCell ⟨rb, 4, none⟩ (.slice (some ⟨vb, 0, none⟩) n n)) ∧
      Row (((((wz.setCell ⟨rb, 0, none⟩ (.string ty')).setCell ⟨rb, 1, none⟩ (.string key')).setCell ⟨rb, 2, none⟩ (.int .i64 t)).setCell ⟨rb, 3, none⟩ (.int .i64 0)).setCell ⟨rb, 4, none⟩ (.slice (some ⟨vb, 0, none⟩) n n)) rb 58 #[.string ty', .string key', .int .i64 t, .int .i64 0, .slice (some ⟨vb, 0, none⟩) n n] ∧
      Row (((((wz.setCell ⟨rb, 0, none⟩ (.string ty')).setCell ⟨rb, 1, none⟩ (.string key')).setCell ⟨rb, 2, none⟩ (.int .i64 t)).setCell ⟨rb, 3, none⟩ (.int .i64 0)).setCell ⟨rb, 4, none⟩ (.slice (some ⟨vb, 0, none⟩) n n)) vb 92 (vcells vs).toArray ∧ w.heap.size ≤ vb := by
  obtain ⟨hb, hr, hv, hg, hne⟩ := h
  subst h1 h2
  exact ⟨((((hb.setCell (p := ⟨rb, 0, none⟩) hge _).setCell (p := ⟨rb, 1, none⟩) hge _).setCell (p := ⟨rb, 2, none⟩) hge _).setCell (p := ⟨rb, 3, none⟩) hge _).setCell (p := ⟨rb, 4, none⟩) hge _,
    ((((hr.put 0 _).put 1 _).put 2 _).put 3 _).put 4 _, ((((hv.past hne.symm _).past hne.symm _).past hne.symm _).past hne.symm _).past hne.symm _, hg⟩
set_option maxHeartbeats 4000000 in
theorem event_any (x : EI) (w : World) (h : EIOk w w.heap.size x) :
    Calls Try.prog 35 #[.agg #[.string x.ty, .string x.key, .int .i64 x.t, .int .i64 x.q, .slice x.va x.vn x.vc]] w fun e w' => ∃ vb, e = .returned (.agg (x.made vb).cells.toArray) ∧ EvOk w' w.heap.size (fun _ => False) (x.made vb) ∧ Below w.heap.size w w' := by
  obtain ⟨ty, key, t, q, va, vn, vc, f⟩ := x
  have H := Lib.hid h
  obtain ⟨X, hX⟩ : ∃ X : EI, X = ⟨ty, key, t, q, va, vn, vc, f⟩ := ⟨_, rfl⟩
  have HX := Lib.hid hX
  dsimp only
  rw [← hX]
  try dsimp only at h
  obtain ⟨⟨l1, l2⟩, ⟨z1, z2⟩, ⟨t1, t2⟩, ⟨q1, q2⟩, _, _⟩ := h
  have a1 := and255 q
  have a2 := and15 t
  obtain ⟨k, hk⟩ : ∃ k, X.k = k := ⟨_, rfl⟩
  have hkl : k < 3 := by rw [← hk]; exact X.k_lt
  have hkq : q % 256 % 3 = (k : Int) := by rw [← hk, hX]; show _ = (((q % 256 % 3).toNat : Nat) : Int); omega
  have hkr : (q % 256).tmod 3 = (k : Int) := by rw [Int.tmod_eq_emod_of_nonneg (by omega)]; exact hkq
  obtain ⟨bb, hbb⟩ : ∃ b, X.b = b := ⟨_, rfl⟩
  have HK := Lib.hid hk
  have HBB := Lib.hid hbb
  have hb' : decide (0 < bits .and .i64 t 64) = bb := by rw [← hbb, hX]; rfl
  clear hbb hk hX
  go_enter Try.func35, Try.ntmps35
  go_upto_region 2 with fail
  go_quiet (fail)
  generalize hW : ((w.alloc (.cells #[.string ty, .string key, .int .i64 t, .int .i64 q, .slice va vn vc] 58)).alloc (.cells #[.string { data := #[] }, .string { data := #[] }, .int .i64 0, .int .i64 0, .slice none 0 0] 58)).drewN nq = W
  have r0 : Row W w.heap.size 58 #[.string ty, .string key, .int .i64 t, .int .i64 q, .slice va vn vc] := by
    rw [← hW]; exact ((Row.made w _ _).alloc _).drewN _
  have r1 : Row W (w.heap.size + 1) 58 #[.string { data := #[] }, .string { data := #[] }, .int .i64 0, .int .i64 0, .slice none 0 0] := by
    rw [← hW]; have := (Row.made (w.alloc (.cells #[.string ty, .string key, .int .i64 t, .int .i64 q, .slice va vn vc] 58)) 58 #[.string { data := #[] }, .string { data := #[] }, .int .i64 0, .int .i64 0, .slice none 0 0]).drewN nq
    rw [World.size_alloc] at this; exact this
  have hb : Below w.heap.size w W := by rw [← hW]; exact below_drewN (((Below.refl _ w).alloc (Nat.le_refl _) _).alloc (by simp) _) _
  clear hW
  have R0 := Lib.hid r0
  have R1 := Lib.hid r1
  have HB := Lib.hid hb
  have c4 : W.cell? ⟨w.heap.size, 4, none⟩ = some (.slice va vn vc) := r0.cell 4
  clear r0 r1 hb
  go_upto_if 20 with fail
  go_cut [4, 5] (fun s4 s5 wx => s4 = .int .i64 X.n ∧ s5 = .string X.s ∧ W = wx)
  case first =>
    by_cases hv : 0 < vn
    · obtain ⟨g, o, hA, hg, v0, v1, v2, v3⟩ := H.out.vl 0 hv
      try dsimp only at hA hg v1 v3
      subst hA
      have d1 : W.cell? ⟨g, o + 1, none⟩ = some (.int .i64 (f 0).i) := (HB.out.cell (p := ⟨g, _, none⟩) hg).trans (by simpa using v1)
      have d3 : W.cell? ⟨g, o + 3, none⟩ = some (.bool (f 0).b) := (HB.out.cell (p := ⟨g, _, none⟩) hg).trans (by simpa using v3)
      obtain ⟨b1, b2⟩ := H.out.vb 0
      try dsimp only at b1 b2
      have a3 := and3 (f 0).i
      have hn : X.n = (f 0).i % 4 := by rw [HX.out]; exact if_pos hv
      have HN := Lib.hid hn
      obtain ⟨vb, hvb⟩ : ∃ b, (f 0).b = b := ⟨_, rfl⟩
      have hs : X.s = if vb = true then textV else textU := by rw [HX.out]; show (if 0 < vn ∧ (f 0).b = true then textV else textU) = _; rw [hvb]; simp [hv]
      rw [hvb] at d3
      have HS := Lib.hid hs
      clear hn hvb hs v0 v1 v2 v3
      cases vb with
      | true =>
        go_wp2
        go_meet
        exact ⟨by rw [HN.out], by rw [HS.out]; rfl, rfl⟩
      | false =>
        go_wp2
        go_meet
        exact ⟨by rw [HN.out], by rw [HS.out]; rfl, rfl⟩
    · have hn : X.n = 0 := by rw [HX.out]; exact if_neg hv
      have hs : X.s = textU := by rw [HX.out]; exact if_neg (by rintro ⟨h, _⟩; exact hv h)
      have HN := Lib.hid hn
      have HS := Lib.hid hs
      clear hn hs
      go_wp2
      go_meet
      exact ⟨by rw [HN.out], by rw [HS.out]; rfl, rfl⟩
  case rest =>
    obtain ⟨rfl, rfl, rfl⟩ := hcut
    clear c4
    obtain ⟨kk, hkk⟩ : ∃ kk, key.size % 3 = kk := ⟨_, rfl⟩
    have hkl3 : kk < 3 := by omega
    have hkt : (key.size : Int).tmod 3 = (kk : Int) := by rw [Int.tmod_eq_emod_of_nonneg (by omega)]; omega
    have HKK := Lib.hid hkk
    have c1 : W.cell? ⟨w.heap.size, 1, none⟩ = some (.string key) := R0.out.cell 1
    have c2 : W.cell? ⟨w.heap.size, 2, none⟩ = some (.int .i64 t) := R0.out.cell 2
    have cl := R1.out.lt
    have cl0 := R0.out.lt
    have e0 : W.cell? ⟨w.heap.size + 1, 0, none⟩ = some (.string { data := #[] }) := R1.out.cell 0
    have e1 : W.cell? ⟨w.heap.size + 1, 1, none⟩ = some (.string { data := #[] }) := R1.out.cell 1
    have e2 : W.cell? ⟨w.heap.size + 1, 2, none⟩ = some (.int .i64 0) := R1.out.cell 2
    have e3 : W.cell? ⟨w.heap.size + 1, 3, none⟩ = some (.int .i64 0) := R1.out.cell 3
    have e4 : W.cell? ⟨w.heap.size + 1, 4, none⟩ = some (.slice none 0 0) := R1.out.cell 4
    have g0 := R1.out.free 0
    have g1 := R1.out.free 1
    have g2 := R1.out.free 2
    have g3 := R1.out.free 3
    have g4 := R1.out.free 4
    clear hkk hkr hkq hb' a1
    go_upto_region 7 with fail
    go_cut [] (fun wx => Hid (Below w.heap.size w wx ∧ Row wx (w.heap.size + 1) 58 #[.string (ty3 k), .string (key3 kk), .int .i64 (t % 16), .int .i64 0, .slice none 0 0]))
    case first =>
      have hty : ∀ h : k < ([Value.string { data := #[65] }, Value.string { data := #[66] }, Value.string { data := #[67] }] : List Value).length, ([Value.string { data := #[65] }, Value.string { data := #[66] }, Value.string { data := #[67] }] : List Value)[k]'h = .string (ty3 k) := by
        rcases (show k = 0 ∨ k = 1 ∨ k = 2 by omega) with rfl | rfl | rfl <;> exact fun _ => rfl
      have hky : ∀ h : kk < ([Value.string { data := #[107] }, Value.string { data := #[108] }, Value.string { data := #[109] }] : List Value).length, ([Value.string { data := #[107] }, Value.string { data := #[108] }, Value.string { data := #[109] }] : List Value)[kk]'h = .string (key3 kk) := by
        rcases (show kk = 0 ∨ kk = 1 ∨ kk = 2 by omega) with rfl | rfl | rfl <;> exact fun _ => rfl
      have hki : (k : Int) < 3 := by omega
      have hkki : (kk : Int) < 3 := by omega
      have HD : Hid (Below w.heap.size w (((((W.setCell ⟨w.heap.size + 1, 0, none⟩ (.string (ty3 k))).setCell ⟨w.heap.size + 1, 1, none⟩ (.string (key3 kk))).setCell ⟨w.heap.size + 1, 2, none⟩ (.int .i64 (t % 16))).setCell ⟨w.heap.size + 1, 3, none⟩ (.int .i64 0)).setCell ⟨w.heap.size + 1, 4, none⟩ (.slice none 0 0)) ∧ Row (((((W.setCell ⟨w.heap.size + 1, 0, none⟩ (.string (ty3 k))).setCell ⟨w.heap.size + 1, 1, none⟩ (.string (key3 kk))).setCell ⟨w.heap.size + 1, 2, none⟩ (.int .i64 (t % 16))).setCell ⟨w.heap.size + 1, 3, none⟩ (.int .i64 0)).setCell ⟨w.heap.size + 1, 4, none⟩ (.slice none 0 0)) (w.heap.size + 1) 58 #[.string (ty3 k), .string (key3 kk), .int .i64 (t % 16), .int .i64 0, .slice none 0 0]) :=
        ⟨((((HB.out.setCell (p := ⟨w.heap.size + 1, 0, none⟩) (by simp) _).setCell (p := ⟨w.heap.size + 1, 1, none⟩) (by simp) _).setCell (p := ⟨w.heap.size + 1, 2, none⟩) (by simp) _).setCell (p := ⟨w.heap.size + 1, 3, none⟩) (by simp) _).setCell (p := ⟨w.heap.size + 1, 4, none⟩) (by simp) _, ((((R1.out.put 0 _).put 1 _).put 2 _).put 3 _).put 4 _⟩
      go_region
      all_goals
        go_wp2_with fail
        go_meet
        exact Lib.hid ⟨below_drewN ((HD.out.1.alloc HD.out.1.size _).alloc (Nat.le_trans HD.out.1.size (by simp)) _) 1, ((HD.out.2.alloc _).alloc _).drewN 1⟩
    case rest =>
      obtain ⟨HB2, HR2⟩ := hcut.out
      clear hcut c1 c2 cl cl0 e0 e1 e2 e3 e4 g0 g1 g2 g3 g4 hkt a2
      have H1 := Lib.hid HB2
      have H2 := Lib.hid HR2
      have cl := HR2.lt
      clear HB2 HR2
      go_upto_region 9 with fail
      have HV : Hid (Below w.heap.size w ((wc.alloc (.cells #[.int .i64 1, .int .i64 X.n, .string { data := #[] }, .bool false] 92)).alloc (.cells #[.int .i64 2, .int .i64 0, .string X.s, .bool false] 92)) ∧
          Row ((wc.alloc (.cells #[.int .i64 1, .int .i64 X.n, .string { data := #[] }, .bool false] 92)).alloc (.cells #[.int .i64 2, .int .i64 0, .string X.s, .bool false] 92)) (w.heap.size + 1) 58 #[.string (ty3 k), .string (key3 kk), .int .i64 (t % 16), .int .i64 0, .slice none 0 0] ∧
          Row ((wc.alloc (.cells #[.int .i64 1, .int .i64 X.n, .string { data := #[] }, .bool false] 92)).alloc (.cells #[.int .i64 2, .int .i64 0, .string X.s, .bool false] 92)) wc.heap.size 92 #[.int .i64 1, .int .i64 X.n, .string { data := #[] }, .bool false] ∧
          Row ((wc.alloc (.cells #[.int .i64 1, .int .i64 X.n, .string { data := #[] }, .bool false] 92)).alloc (.cells #[.int .i64 2, .int .i64 0, .string X.s, .bool false] 92)) (wc.heap.size + 1) 92 #[.int .i64 2, .int .i64 0, .string X.s, .bool false]) :=
        ⟨(H1.out.alloc H1.out.size _).alloc (by have := H1.out.size; simp; omega) _, (H2.out.alloc _).alloc _, (Row.made wc _ _).alloc _, by
          have := Row.made (wc.alloc (.cells #[.int .i64 1, .int .i64 X.n, .string { data := #[] }, .bool false] 92)) 92 #[.int .i64 2, .int .i64 0, .string X.s, .bool false]
          rw [World.size_alloc] at this; exact this⟩
      have hge : w.heap.size ≤ w.heap.size + 1 := by omega
      clear H1 H2
      generalize (wc.alloc (.cells #[.int .i64 1, .int .i64 X.n, .string { data := #[] }, .bool false] 92)).alloc (.cells #[.int .i64 2, .int .i64 0, .string X.s, .bool false] 92) = wd at HV ⊢
      generalize wc.heap.size + 1 = b2 at HV ⊢
      generalize wc.heap.size = b1 at HV cl ⊢
      generalize w.heap.size + 1 = rb at HV cl hge R1 ⊢
      have d0 := HV.out.2.1.is 0 (v := .string (ty3 k)) rfl
      have d1 := HV.out.2.1.is 1 (v := .string (key3 kk)) rfl
      have d2 := HV.out.2.1.is 2 (v := .int .i64 (t % 16)) rfl
      have d3 := HV.out.2.1.is 3 (v := .int .i64 0) rfl
      have d4 := HV.out.2.1.is 4 (v := .slice none 0 0) rfl
      have f0 := HV.out.2.1.free 0
      have f1 := HV.out.2.1.free 1
      have f2 := HV.out.2.1.free 2
      have f3 := HV.out.2.1.free 3
      have f4 := HV.out.2.1.free 4
      have p0 := HV.out.2.2.1.is 0 (v := .int .i64 1) rfl
      have p1 := HV.out.2.2.1.is 1 (v := .int .i64 X.n) rfl
      have p2 := HV.out.2.2.1.is 2 (v := .string { data := #[] }) rfl
      have p3 := HV.out.2.2.1.is 3 (v := .bool false) rfl
      have q0 := HV.out.2.2.2.is 0 (v := .int .i64 2) rfl
      have q1 := HV.out.2.2.2.is 1 (v := .int .i64 0) rfl
      have q2 := HV.out.2.2.2.is 2 (v := .string X.s) rfl
      have q3 := HV.out.2.2.2.is 3 (v := .bool false) rfl
      have l0 := HV.out.2.1.lt
      have l1 := HV.out.2.2.1.lt
      have l2 := HV.out.2.2.2.lt
      clear cl
      obtain ⟨tyk, htyk⟩ : ∃ y, ty3 k = y := ⟨_, rfl⟩
      obtain ⟨keyk, hkeyk⟩ : ∃ y, key3 kk = y := ⟨_, rfl⟩
      rw [htyk] at d0
      rw [hkeyk] at d1
      have HTY := Lib.hid htyk
      have HKY := Lib.hid hkeyk
      clear htyk hkeyk
      by_cases hk2 : k = 2
      · have hki : ((k : Int) == 2) = true := by simp; omega
        have HK2 := Lib.hid hk2
        clear hk2
        go_upto_region 12 with fail
        have HZ := Lib.hid (last_step HV.out.1 HV.out.2.1 hge l0 [⟨2, 0, X.s, false⟩, ⟨1, X.n, ByteArray.empty, false⟩, ⟨3, 0, ByteArray.empty, bb⟩])
        generalize hwz : (wd.setCell ⟨rb, 4, none⟩ (.slice (some ⟨wd.heap.size, 0, none⟩) 3 3)).alloc (.cells #[.int .i64 2, .int .i64 0, .string X.s, .bool false, .int .i64 1, .int .i64 X.n, .string { data := #[] }, .bool false, .int .i64 3, .int .i64 0, .string { data := #[] }, .bool bb] 92) = wz
        have hz : Below w.heap.size w wz ∧ Row wz rb 58 #[.string (ty3 k), .string (key3 kk), .int .i64 (t % 16), .int .i64 0, .slice (some ⟨wd.heap.size, 0, none⟩) 3 3] ∧ Row wz wd.heap.size 92 (vcells [⟨2, 0, X.s, false⟩, ⟨1, X.n, ByteArray.empty, false⟩, ⟨3, 0, ByteArray.empty, bb⟩]).toArray ∧ w.heap.size ≤ wd.heap.size ∧ rb ≠ wd.heap.size := by
          rw [← hwz]; exact HZ.out
        clear HZ hwz
        have HZ := Lib.hid hz
        clear hz HV d0 d1 d2 d3 d4 f0 f1 f2 f3 f4 p0 p1 p2 p3 q0 q1 q2 q3 l0 l1 l2
        generalize wd.heap.size = vb at HZ ⊢
        have d0 := HZ.out.2.1.is 0 (v := .string tyk) (by rw [← HTY.out]; rfl)
        have d1 := HZ.out.2.1.is 1 (v := .string keyk) (by rw [← HKY.out]; rfl)
        have d2 := HZ.out.2.1.is 2 (v := .int .i64 (t % 16)) rfl
        have d3 := HZ.out.2.1.is 3 (v := .int .i64 0) rfl
        have d4 := HZ.out.2.1.is 4 (v := .slice (some ⟨vb, 0, none⟩) 3 3) rfl
        have f0 := HZ.out.2.1.free 0
        have f1 := HZ.out.2.1.free 1
        have f2 := HZ.out.2.1.free 2
        have f3 := HZ.out.2.1.free 3
        have f4 := HZ.out.2.1.free 4
        go_wp2
        have HF := Lib.hid (last_put HZ.out HTY.out HKY.out hge)
        generalize ((((wz.setCell ⟨rb, 0, none⟩ (.string tyk)).setCell ⟨rb, 1, none⟩ (.string keyk)).setCell ⟨rb, 2, none⟩ (.int .i64 (t % 16))).setCell ⟨rb, 3, none⟩ (.int .i64 0)).setCell ⟨rb, 4, none⟩ (.slice (some ⟨vb, 0, none⟩) 3 3) = wq at HF ⊢
        clear d0 d1 d2 d3 d4 f0 f1 f2 f3 f4
        have d0 := HF.out.2.1.is 0 (v := .string tyk) rfl
        have d1 := HF.out.2.1.is 1 (v := .string keyk) rfl
        have d2 := HF.out.2.1.is 2 (v := .int .i64 (t % 16)) rfl
        have d3 := HF.out.2.1.is 3 (v := .int .i64 0) rfl
        have d4 := HF.out.2.1.is 4 (v := .slice (some ⟨vb, 0, none⟩) 3 3) rfl
        have hm : X.made vb = ⟨tyk, keyk, t % 16, 0, vb, [⟨2, 0, X.s, false⟩, ⟨1, X.n, ByteArray.empty, false⟩, ⟨3, 0, ByteArray.empty, bb⟩]⟩ := by
          have hxk := HX.out
          have : X.made vb = ⟨ty3 X.k, key3 (key.size % 3), t % 16, 0, vb, evVals X.k X.n X.s X.b⟩ := by rw [hxk]; rfl
          rw [this, HK.out, HKK.out, HBB.out, HTY.out, HKY.out]
          unfold evVals
          rw [if_pos HK2.out]
        exact bodyPost_ret (v := .agg #[.string tyk, .string keyk, .int .i64 (t % 16), .int .i64 0, .slice (some ⟨vb, 0, none⟩) 3 3]) (by simp [results, Try.results35, go_sem, d0, d1, d2, d3, d4]) rfl ⟨vb, by rw [hm]; rfl, by rw [hm]; exact ⟨HF.out.2.2.1, HF.out.2.2.2, fun h => h, by dsimp only; omega, by simp⟩, HF.out.1⟩
      · have hki : ((k : Int) == 2) = false := by simp; omega
        have HK2 := Lib.hid hk2
        clear hk2
        go_upto_region 12 with fail
        have HZ := Lib.hid (last_step HV.out.1 HV.out.2.1 hge l0 [⟨1, X.n, ByteArray.empty, false⟩, ⟨2, 0, X.s, false⟩])
        generalize hwz : (wd.setCell ⟨rb, 4, none⟩ (.slice (some ⟨wd.heap.size, 0, none⟩) 2 2)).alloc (.cells #[.int .i64 1, .int .i64 X.n, .string { data := #[] }, .bool false, .int .i64 2, .int .i64 0, .string X.s, .bool false] 92) = wz
        have hz : Below w.heap.size w wz ∧ Row wz rb 58 #[.string (ty3 k), .string (key3 kk), .int .i64 (t % 16), .int .i64 0, .slice (some ⟨wd.heap.size, 0, none⟩) 2 2] ∧ Row wz wd.heap.size 92 (vcells [⟨1, X.n, ByteArray.empty, false⟩, ⟨2, 0, X.s, false⟩]).toArray ∧ w.heap.size ≤ wd.heap.size ∧ rb ≠ wd.heap.size := by
          rw [← hwz]; exact HZ.out
        clear HZ hwz
        have HZ := Lib.hid hz
        clear hz HV d0 d1 d2 d3 d4 f0 f1 f2 f3 f4 p0 p1 p2 p3 q0 q1 q2 q3 l0 l1 l2
        generalize wd.heap.size = vb at HZ ⊢
        have d0 := HZ.out.2.1.is 0 (v := .string tyk) (by rw [← HTY.out]; rfl)
        have d1 := HZ.out.2.1.is 1 (v := .string keyk) (by rw [← HKY.out]; rfl)
        have d2 := HZ.out.2.1.is 2 (v := .int .i64 (t % 16)) rfl
        have d3 := HZ.out.2.1.is 3 (v := .int .i64 0) rfl
        have d4 := HZ.out.2.1.is 4 (v := .slice (some ⟨vb, 0, none⟩) 2 2) rfl
        have f0 := HZ.out.2.1.free 0
        have f1 := HZ.out.2.1.free 1
        have f2 := HZ.out.2.1.free 2
        have f3 := HZ.out.2.1.free 3
        have f4 := HZ.out.2.1.free 4
        go_wp2
        have HF := Lib.hid (last_put HZ.out HTY.out HKY.out hge)
        generalize ((((wz.setCell ⟨rb, 0, none⟩ (.string tyk)).setCell ⟨rb, 1, none⟩ (.string keyk)).setCell ⟨rb, 2, none⟩ (.int .i64 (t % 16))).setCell ⟨rb, 3, none⟩ (.int .i64 0)).setCell ⟨rb, 4, none⟩ (.slice (some ⟨vb, 0, none⟩) 2 2) = wq at HF ⊢
        clear d0 d1 d2 d3 d4 f0 f1 f2 f3 f4
        have d0 := HF.out.2.1.is 0 (v := .string tyk) rfl
        have d1 := HF.out.2.1.is 1 (v := .string keyk) rfl
        have d2 := HF.out.2.1.is 2 (v := .int .i64 (t % 16)) rfl
        have d3 := HF.out.2.1.is 3 (v := .int .i64 0) rfl
        have d4 := HF.out.2.1.is 4 (v := .slice (some ⟨vb, 0, none⟩) 2 2) rfl
        have hm : X.made vb = ⟨tyk, keyk, t % 16, 0, vb, [⟨1, X.n, ByteArray.empty, false⟩, ⟨2, 0, X.s, false⟩]⟩ := by
          have hxk := HX.out
          have : X.made vb = ⟨ty3 X.k, key3 (key.size % 3), t % 16, 0, vb, evVals X.k X.n X.s X.b⟩ := by rw [hxk]; rfl
          rw [this, HK.out, HKK.out, HBB.out, HTY.out, HKY.out]
          unfold evVals
          rw [if_neg HK2.out]
        exact bodyPost_ret (v := .agg #[.string tyk, .string keyk, .int .i64 (t % 16), .int .i64 0, .slice (some ⟨vb, 0, none⟩) 2 2]) (by simp [results, Try.results35, go_sem, d0, d1, d2, d3, d4]) rfl ⟨vb, by rw [hm]; rfl, by rw [hm]; exact ⟨HF.out.2.2.1, HF.out.2.2.2, fun h => h, by dsimp only; omega, by simp⟩, HF.out.1⟩
end Go.Proofs.Ytaimbkikiokenaa.Ev
