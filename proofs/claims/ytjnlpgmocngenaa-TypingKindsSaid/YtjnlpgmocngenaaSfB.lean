/- Types of few names, made. -/
import Derived.Test.YtjnlpgmocngenaaSfA
import Derived.Deep.RegionLaw
import Derived.Deep.Cut
import Derived.Deep.DeepCutAuto
import Derived.Deep.CutBlock
namespace Go.Proofs.Ytjnlpgmocngenaa.Sch
open Go.RowKit Go.Proofs.Ytjnlpgmocngenaa
set_option linter.unusedVariables false
set_option maxRecDepth 100000
theorem seg_row {w : World} {e : TypeId} {size n : Nat} {v : Value} {xs : List Value} {g : Nat} (h : Seg w e size v n xs (some g)) : ∃ c, Row w g e c := by
  obtain ⟨_, A, cap, _, _, _, ⟨_, h2, _⟩ | ⟨g', o, cur, _, h2, h3, _⟩⟩ := h
  · cases h2
  · cases h2; exact ⟨_, h3⟩
theorem row_ne {w : World} {b b' : Nat} {t t' : TypeId} {c c' : Array Value} (h : Row w b t c) (g : Row w b' t' c') (hn : t ≠ t') : b ≠ b' := by
  intro e
  subst e
  unfold Row at h g
  rw [h] at g
  cases g
  exact hn rfl
def nmsC : Array Value := #[.string ⟨#[65]⟩, .string ⟨#[66]⟩, .string ⟨#[67]⟩, .string ⟨#[68]⟩, .string ⟨#[69]⟩]
theorem nms_at : ∀ k, k < 5 → ∃ s : ByteArray, nmsC[k]? = some (.string s)
  | 0, _ => ⟨_, rfl⟩
  | 1, _ => ⟨_, rfl⟩
  | 2, _ => ⟨_, rfl⟩
  | 3, _ => ⟨_, rfl⟩
  | 4, _ => ⟨_, rfl⟩
  | k + 5, h => absurd h (by omega)
/-- What near holds between rounds. -/
structure Nr (w wr : World) (v : Value) (nb k : Nat) : Prop where
  tl : ∃ ts, ts.length = k ∧ Tl w wr v ts
  nr : Row wr nb 9 nmsC
section
variable {w wr wr' W : World} {v : Value} {nb k : Nat}
theorem Nr.call (h : Nr w wr v nb k) (g : Below wr.heap.size wr wr') : Nr w wr' v nb k := by
  obtain ⟨ts, h1, h2⟩ := h.tl
  exact ⟨⟨ts, h1, h2.call g⟩, h.nr.below g h.nr.lt⟩
theorem Nr.start (w : World) : Nr w ((w.alloc (.cells #[] 35)).alloc (.cells nmsC 9)) (.slice (some ⟨w.heap.size, 0, none⟩) 0 0) (w.heap.size + 1) 0 :=
  ⟨⟨[], rfl, (Tl.start w).call ((Below.refl _ _).alloc (Nat.le_refl _) _)⟩, made_two w _ _ _⟩
theorem Nr.name (h : Nr w wr v nb k) (j : Nat) (hj : j < 5) : ∃ s : ByteArray, wr.cell? ⟨nb, j, none⟩ = some (.string s) := by
  obtain ⟨s, hs⟩ := nms_at j hj
  exact ⟨s, (h.nr.cell j).trans hs⟩
end
/-- A type is at hand, and what is behind it. -/
structure Nt (w W wr : World) (v : Value) (nb k : Nat) (nm : ByteArray) (fv : Value) (fs : List Fld) : Prop where
  nr : Nr w W v nb k
  tm : Tm W wr nm fv fs
theorem Nt.nb {w W wr : World} {v : Value} {nb k : Nat} {nm : ByteArray} {fv : Value} {fs : List Fld} (h : Nt w W wr v nb k nm fv fs) (j : Nat) (hj : j < 5) : ∃ s : ByteArray, wr.cell? ⟨nb, j, none⟩ = some (.string s) := by
  obtain ⟨s, hs⟩ := h.nr.name j hj
  exact ⟨s, (h.tm.be.cell (p := ⟨nb, j, none⟩) h.nr.nr.lt).trans hs⟩
theorem Nt.name {w W wr : World} {v : Value} {nb k : Nat} {nm : ByteArray} {fv : Value} {fs : List Fld} (h : Nt w W wr v nb k nm fv fs) (nm' : ByteArray) : Nt w W (wr.setCell ⟨W.heap.size, 0, none⟩ (.string nm')) v nb k nm' fv fs := ⟨h.nr, h.tm.name nm'⟩
theorem Nt.call {w W wr wr' : World} {v : Value} {nb k : Nat} {nm : ByteArray} {fv : Value} {fs : List Fld} (h : Nt w W wr v nb k nm fv fs) (g : Below wr.heap.size wr wr') : Nt w W wr' v nb k nm fv fs := ⟨h.nr, h.tm.call g⟩
/-- A field is at hand, too, in the block that W1 has first. -/
structure Nf (w W W1 wx : World) (v : Value) (nb k : Nat) (nm : ByteArray) (fv : Value) (fs : List Fld) (f : Fld) : Prop where
  nt : Nt w W W1 v nb k nm fv fs
  be : Below W1.heap.size W1 wx
  row : Row wx W1.heap.size 41 #[.string f.1, .int .i64 f.2]
section
variable {w W W1 wx wy : World} {v : Value} {nb k : Nat} {nm : ByteArray} {fv : Value} {fs : List Fld} {f : Fld}
theorem Nf.start (h : Nt w W W1 v nb k nm fv fs) (f : Fld) : Nf w W W1 (W1.alloc (.cells #[.string f.1, .int .i64 f.2] 41)) v nb k nm fv fs f := ⟨h, (Below.refl _ W1).alloc (Nat.le_refl _) _, Row.made _ _ _⟩
theorem Nf.call (h : Nf w W W1 wx v nb k nm fv fs f) (g : Below wx.heap.size wx wy) : Nf w W W1 wy v nb k nm fv fs f := ⟨h.nt, h.be.trans (g.mono h.be.size), h.row.below g h.row.lt⟩
theorem Nf.kind (h : Nf w W W1 wx v nb k nm fv fs f) (z : Int) : Nf w W W1 (wx.setCell ⟨W1.heap.size, 1, none⟩ (.int .i64 z)) v nb k nm fv fs (f.1, z) := ⟨h.nt, h.be.setCell (p := ⟨W1.heap.size, 1, none⟩) (Nat.le_refl _) _, by simpa using h.row.put 1 (.int .i64 z)⟩
theorem Nf.name (h : Nf w W W1 wx v nb k nm fv fs f) (s : ByteArray) : Nf w W W1 (wx.setCell ⟨W1.heap.size, 0, none⟩ (.string s)) v nb k nm fv fs (s, f.2) := ⟨h.nt, h.be.setCell (p := ⟨W1.heap.size, 0, none⟩) (Nat.le_refl _) _, by simpa using h.row.put 0 (.string s)⟩
theorem Nf.nw (h : Nf w W W1 wx v nb k nm fv fs f) : Nt w W wx v nb k nm fv fs := h.nt.call h.be
end
theorem mod3 (z : Int) : ∃ q : Nat, ((z % 256).tmod 3 = (q : Int)) ∧ q < 3 := ⟨((z % 256) % 3).toNat, by rw [Int.tmod_eq_emod_of_nonneg (by omega)]; omega, by omega⟩
theorem cells_push (fs : List Fld) (f : Fld) : cellsF (fs ++ [f]) = cellsF fs ++ [.string f.1, .int .i64 f.2] := by simp [cellsF]
def NearPost (w : World) (e : Ending) (w' : World) : Prop := ∃ v ts, e = .returned v ∧ Tl w w' v ts
theorem mod5 (n : Nat) : ∃ q : Nat, ((n : Int).tmod 5 = (q : Int)) ∧ q < 5 := ⟨n % 5, by rw [Int.tmod_eq_emod_of_nonneg (by omega)]; omega, by omega⟩
set_option maxHeartbeats 4000000 in
theorem near_any (A : Option Addr) (n c : Nat) (tl : List Ty) (w : World) (hn : tl.length = n) (hts : Ts w w.heap.size (.slice A n c) tl) (hsh : ∀ t ∈ tl, Short t) (od : Int) :
    Calls Try.prog 9 #[.slice A n c, .int .i64 od] w (NearPost w) := by
  have H15 := and15 od
  obtain ⟨od4, hod4⟩ : ∃ x, od % 16 = x := ⟨_, rfl⟩
  rw [hod4] at H15
  obtain ⟨A1, c1, e1, hnc, hc9, hx0⟩ := id hts
  injection e1 with e1 e2 e3
  subst e3
  rw [hn] at hnc
  clear hx0 e1 e2 A1
  have HT := Lib.hid hts
  have HN := Lib.hid hn
  have HSH := Lib.hid hsh
  clear hts hn hsh hod4
  obtain ⟨m, hm⟩ : ∃ m : Nat, min n 5 = m := ⟨_, rfl⟩
  have hmn : m ≤ n := by omega
  have hm5 : m ≤ 5 := by omega
  have HM := Lib.hid hm
  clear hm
  have HS0 := Lib.hid (Nr.start w)
  unfold nmsC at HS0
  go_enter Try.func9, Try.ntmps9
  go_upto_region 3 with fail
  generalize ((w.alloc (.cells #[] 35)).alloc (.cells #[.string ⟨#[65]⟩, .string ⟨#[66]⟩, .string ⟨#[67]⟩, .string ⟨#[68]⟩, .string ⟨#[69]⟩] 9)) = W0 at HS0 ⊢
  generalize w.heap.size + 1 = nb at HS0 ⊢
  go_wp2
  go_loopw [7, 5, 8, 9, 10] (fun v7 v5 s8 s9 s10 wr => ∃ k : Nat, k ≤ m ∧ v7 = .int .i64 k ∧ Hid (Nr w wr v5 nb k)) (fun v7 _ _ _ _ _ => m - (intOf v7).toNat)
  case atStart => exact ⟨0, by omega, rfl, HS0⟩
  case round =>
    clear HS0
    obtain ⟨k, hkm, rfl, hT⟩ := hrel
    have HR := Lib.hid hT.out
    clear hT
    by_cases hlt : k < m
    · have hk1 : (k : Int) < (n : Int) := by omega
      have hk2 : (k : Int) < 5 := by omega
      obtain ⟨ts, hts1, hts2⟩ := HR.out.tl
      obtain ⟨A', c', e1, hx1, hx2, h3⟩ := HT.out.below hts2.be (Nat.le_refl _)
      injection e1 with e1 e2 e3
      subst e1 e3
      clear hx1 hx2 e2
      have hkl : k < tl.length := by rw [HN.out]; omega
      obtain ⟨g, o, fv, rfl, hg, c0, c1, hf⟩ := h3 k hkl
      obtain ⟨hsh1, hsh2⟩ := HSH.out _ (List.getElem_mem hkl)
      obtain ⟨tn, htn⟩ : ∃ tn, tl[k].1 = tn := ⟨_, rfl⟩
      obtain ⟨tf, htf⟩ : ∃ tf, tl[k].2 = tf := ⟨_, rfl⟩
      rw [htn] at c0 hsh1
      rw [htf] at hf hsh2
      obtain ⟨A2, c2, rfl, hn2, hcm2, h4⟩ := hf
      have hgw : g < wr.heap.size := Nat.lt_of_lt_of_le hg hts2.be.size
      obtain ⟨s0, hs0⟩ := HR.out.name k (by omega)
      have hb1 : Below wr.heap.size wr (wr.alloc (.cells #[.string s0, .slice none 0 0] 35)) := (Below.refl _ wr).alloc (Nat.le_refl _) _
      have d0 := (hb1.cell (p := ⟨g, o + k * 2, none⟩) hgw).trans c0
      have d1 := (hb1.cell (p := ⟨g, o + k * 2 + 1, none⟩) hgw).trans c1
      have hT1 : Nt w wr (wr.alloc (.cells #[.string s0, .slice none 0 0] 35)) u5 nb k s0 (.slice none 0 0) [] := ⟨HR.out, Tm.start wr s0⟩
      have HH4 := Lib.hid h4
      have HSF := Lib.hid hsh2
      have HBW := Lib.hid hts2.be
      have HB1 := Lib.hid hb1
      have HT1 := Lib.hid hT1
      clear htn htf h3 h4 hts2 hts1 hb1 hT1 hsh2
      have t0 : (wr.alloc (.cells #[.string s0, .slice none 0 0] 35)).cell? ⟨wr.heap.size, 0, none⟩ = some (.string s0) := (HT1.out.tm.row.cell 0).trans rfl
      have z0 := HT1.out.tm.row.free 0
      obtain ⟨q, hq, hq5⟩ := mod5 tn.size
      have hqi : (q : Int) < 5 := by omega
      obtain ⟨sq, hsq⟩ := HT1.out.nb q hq5
      have HC0 := Lib.hid c0
      have HC1 := Lib.hid c1
      go_upto_region 7 with fail
      generalize (wr.alloc (.cells #[.string s0, .slice none 0 0] 35)) = W1 at HT1 HB1 d0 d1 t0 z0 hsq ⊢
      clear hs0 c0 c1 HB1
      go_upto_if 30 with fail
      go_cut [] (fun wx => Hid (∃ s1, Nt w wr wx u5 nb k s1 (.slice none 0 0) []))
      case first =>
        by_cases h0 : od4 = 0
        · go_wp2
          go_meet
          exact Lib.hid ⟨_, HT1.out.name sq⟩
        · have hb0 : (od4 == 0) = false := by simpa using h0
          go_wp2
          go_meet
          exact Lib.hid ⟨_, HT1.out⟩
      case rest =>
        obtain ⟨s1, hN1⟩ := hcut.out
        have hbx := hN1.tm.be
        have d0 := (hbx.cell (p := ⟨g, o + k * 2, none⟩) hgw).trans HC0.out
        have t0 : wc.cell? ⟨wr.heap.size, 0, none⟩ = some (.string s1) := (hN1.tm.row.cell 0).trans rfl
        have z0 := hN1.tm.row.free 0
        have HN1 := Lib.hid hN1
        clear hcut hN1 hbx HT1 hsq hq hqi
        obtain ⟨mm, hmm⟩ : ∃ mm : Nat, (if 18 < tn.size then (18 : Int) else (tn.size : Int)) = (mm : Int) := ⟨min tn.size 18, by split <;> omega⟩
        have hmm2 : mm ≤ tn.size := by split at hmm <;> omega
        go_upto_if 44 with fail
        go_cut [] (fun wy => Hid (∃ s2, Nt w wr wy u5 nb k s2 (.slice none 0 0) []))
        case first =>
          by_cases h0 : od4 = 1
          · go_wp2
            go_region
            all_goals go_wp2
            all_goals
              go_meet
              exact Lib.hid ⟨_, (HN1.out.name _).call (below_dN (Below.refl _ _) 1)⟩
          · have hb0 : (od4 == 1) = false := by simpa using h0
            go_wp2
            go_meet
            exact Lib.hid ⟨_, HN1.out⟩
        case rest =>
          clear HN1 d0 t0 z0 hmm hmm2
          obtain ⟨m2, hm2⟩ : ∃ m2 : Nat, min tf.length 4 = m2 := ⟨_, rfl⟩
          have hm2n : m2 ≤ tf.length := by omega
          have hm24 : m2 ≤ 4 := by omega
          obtain ⟨fn, hfn⟩ : ∃ fn, tf.length = fn := ⟨_, rfl⟩
          rw [hfn] at hn2 hm2n hm2
          have HC1' := Lib.hid (hfn ▸ HC1.out : wr.cell? ⟨g, o + k * 2 + 1, none⟩ = some (.slice A2 fn c2))
          have HFN := Lib.hid hfn
          have HM2 := Lib.hid hm2
          have HI := hcut
          clear hcut hfn hm2 HC1
          obtain ⟨V, rfl⟩ : ∃ V, V = wr := ⟨_, rfl⟩
          go_wp2
          go_loopw [9, 10] (fun v9 s10 wx => ∃ j : Nat, j ≤ m2 ∧ v9 = .int .i64 j ∧ Hid (∃ s fv fs, fs.length = j ∧ Nt w V wx u5 nb k s fv fs)) (fun v9 _ _ => m2 - (intOf v9).toNat)
          case atStart =>
            obtain ⟨s2, hN2⟩ := HI.out
            exact ⟨0, by omega, rfl, Lib.hid ⟨s2, _, [], rfl, hN2⟩⟩
          case round =>
            clear HI
            obtain ⟨j, hjm, rfl, hJ⟩ := hrel
            obtain ⟨s2, fv2, fs2, hfl, hN2⟩ := hJ.out
            clear hJ
            have hbx := hN2.tm.be
            have d1 := (hbx.cell (p := ⟨g, o + k * 2 + 1, none⟩) hgw).trans HC1'.out
            have HBX := Lib.hid hbx
            have HN2 := Lib.hid hN2
            have HFL := Lib.hid hfl
            clear hN2 hfl hbx
            by_cases hjl : j < m2
            · have hj1 : (j : Int) < (fn : Int) := by omega
              have hj2 : (j : Int) < 4 := by omega
              obtain ⟨g3, o3, rfl, hg3, e0, e1⟩ := HH4.out j (by rw [HFN.out]; omega)
              have hg3V : g3 < V.heap.size := Nat.lt_of_lt_of_le hg3 HBW.out.size
              obtain ⟨fnm, hfnm⟩ : ∃ x, (tf[j]'(by rw [HFN.out]; omega)).1 = x := ⟨_, rfl⟩
              obtain ⟨fkd, hfkd⟩ : ∃ x, (tf[j]'(by rw [HFN.out]; omega)).2 = x := ⟨_, rfl⟩
              have hfs := HSF.out _ (List.getElem_mem (show j < tf.length by rw [HFN.out]; omega))
              rw [hfnm] at e0 hfs
              rw [hfkd] at e1
              have f0 := (HBX.out.cell (p := ⟨g3, o3 + j * 2, none⟩) hg3V).trans e0
              have f1 := (HBX.out.cell (p := ⟨g3, o3 + j * 2 + 1, none⟩) hg3V).trans e1
              clear hfnm hfkd e0 e1
              have h255 := and255 fkd
              obtain ⟨q3, hq3, hq33⟩ := mod3 fkd
              have hq3i : (q3 : Int) < 3 := by omega
              obtain ⟨sj, hsj⟩ := HN2.out.nb j (by omega)
              obtain ⟨q, hq, hq5⟩ := mod5 fnm.size
              have hqi : (q : Int) < 5 := by omega
              obtain ⟨sq, hsq⟩ := HN2.out.nb q hq5
              have hj5 : (j : Int) < 5 := by omega
              have hgr : g < wr.heap.size := Nat.lt_of_lt_of_le hgw HBX.out.size
              have hg3r : g3 < wr.heap.size := Nat.lt_of_lt_of_le hg3V HBX.out.size
              have hnbr : nb < wr.heap.size := Nat.lt_of_lt_of_le HN2.out.nr.nr.lt HBX.out.size
              have hne1 : g ≠ wr.heap.size := by omega
              have hne2 : g3 ≠ wr.heap.size := by omega
              have hne3 : nb ≠ wr.heap.size := by omega
              go_upto_region 14 with fail
              go_region
              all_goals
                have hF : Nf w V wr (wr.alloc (.cells #[.string sj, .int .i64 ((q3 : Int) + 1)] 41)).drew u5 nb k s2 fv2 fs2 (sj, (q3 : Int) + 1) := (Nf.start HN2.out (sj, (q3 : Int) + 1)).call (below_dN (Below.refl _ _) 1)
                generalize (wr.alloc (.cells #[.string sj, .int .i64 ((q3 : Int) + 1)] 41)).drew = W4 at hF ⊢
                have HD1 := Lib.hid d1
                have HF0 := Lib.hid f0
                have HF1 := Lib.hid f1
                have HSQ := Lib.hid hsq
                clear d1 f0 f1 hsj hsq
                have d1 := (hF.be.cell (p := ⟨g, o + k * 2 + 1, none⟩) hgr).trans HD1.out
                have f1 := (hF.be.cell (p := ⟨g3, o3 + j * 2 + 1, none⟩) hg3r).trans HF1.out
                have b1 : W4.cell? ⟨wr.heap.size, 1, none⟩ = some (.int .i64 ((q3 : Int) + 1)) := (hF.row.cell 1).trans rfl
                have z1 := hF.row.free 1
                have HF := Lib.hid hF
                clear hF
                go_upto_region 15 with fail
                go_upto_if 92 with fail
                go_cut [] (fun wx => Hid (∃ f, Nf w V wr wx u5 nb k s2 fv2 fs2 f))
                case first =>
                  by_cases h0 : od4 = 2
                  · go_wp2
                    go_meet
                    exact Lib.hid ⟨_, HF.out.kind fkd⟩
                  · have hb0 : (od4 == 2) = false := by simpa using h0
                    go_wp2
                    go_meet
                    exact Lib.hid ⟨_, HF.out⟩
                case rest =>
                  clear HF d1 f1 b1 z1
                  obtain ⟨f, hF⟩ := hcut.out
                  have d1 := (hF.be.cell (p := ⟨g, o + k * 2 + 1, none⟩) hgr).trans HD1.out
                  have f0 := (hF.be.cell (p := ⟨g3, o3 + j * 2, none⟩) hg3r).trans HF0.out
                  have n0 := (hF.be.cell (p := ⟨nb, q, none⟩) hnbr).trans HSQ.out
                  have b0 : wc.cell? ⟨wr.heap.size, 0, none⟩ = some (.string f.1) := (hF.row.cell 0).trans rfl
                  have z0 := hF.row.free 0
                  have HF := Lib.hid hF
                  clear hF hcut
                  go_upto_if 105 with fail
                  go_cut [] (fun wx => Hid (∃ f, Nf w V wr wx u5 nb k s2 fv2 fs2 f))
                  case first =>
                    by_cases h0 : od4 = 3
                    · go_wp2
                      go_meet
                      exact Lib.hid ⟨_, HF.out.name sq⟩
                    · have hb0 : (od4 == 3) = false := by simpa using h0
                      go_wp2
                      go_meet
                      exact Lib.hid ⟨_, HF.out⟩
                  case rest =>
                    clear HF d1 f0 n0 b0 z0
                    obtain ⟨⟨fnm', fkd'⟩, hF⟩ := hcut.out
                    have hN := hF.nw
                    obtain ⟨ob, hs1, ho1⟩ := hN.tm.sg
                    obtain ⟨A4, c4, rfl, hc41, hc42⟩ := hs1.form
                    have hc49 : c4 ≤ 9223372036854775807 := by unfold maxLen at hc42; omega
                    have t1 : wc.cell? ⟨V.heap.size, 1, none⟩ = some (.slice A4 fs2.length c4) := (hN.tm.row.cell 1).trans rfl
                    have b0 : wc.cell? ⟨wr.heap.size, 0, none⟩ = some (.string fnm') := (hF.row.cell 0).trans rfl
                    have b1 : wc.cell? ⟨wr.heap.size, 1, none⟩ = some (.int .i64 fkd') := (hF.row.cell 1).trans rfl
                    rw [HFL.out] at t1 hs1 hc41
                    have HNN := Lib.hid hN
                    have HS1 := Lib.hid hs1
                    have HO1 := Lib.hid ho1
                    have hVr : V.heap.size < wc.heap.size := hN.tm.row.lt
                    clear hF hN hs1 ho1 hcut hc42
                    obtain ⟨i0, hi0, hz0, hz1, hz2⟩ := info_parts field_info
                    go_wp2_with (at_builtin; refine wpList_append_seg _ rfl _ _ 33 rfl 41 i0 _ 2 24 Try.underlying33 hi0 hz0 hz1 hz2 rfl (by decide) _ _ _ _ rfl (HS1.out.alloc _) ⟨wc.heap.size, 0, none⟩ 1 1 [.string fnm', .int .i64 fkd'] rfl rfl (two_news _ _ _ _) (by simp [Value.oneCell']) (by decide) (by unfold maxLen; omega) (by omega) ?_; intro v6 w6 ob6 hs6 ht6 ho6; have r6 := Row.turns (Row.alloc HNN.out.tm.row _) ht6 (fun e => by have := HO1.out _ e; omega); have g1 : w6.cell? ⟨V.heap.size, 1, none⟩ = some (.slice A4 fs2.length c4) := (r6.cell 1).trans rfl; have g2 := r6.free 1; rw [HFL.out] at g1; obtain ⟨A6, c6, rfl, hc61, hc62⟩ := hs6.form; have HS6 := Lib.hid hs6; have HT6 := Lib.hid ht6; have HO6 := Lib.hid ho6; clear r6 hs6 ht6 ho6 hc62)
                    have hs1' := HS1.out
                    have hs6' := HS6.out
                    rw [← HFL.out] at hs1' hs6'
                    have hP := Lib.hid (Tm.push (f := (fnm', fkd')) HNN.out.tm hs1' HO1.out hs6' HT6.out HO6.out)
                    rw [HFL.out] at hP
                    clear hs1' hs6'
                    go_roundw
                    case rel => exact ⟨j + 1, by omega, by go_num, Lib.hid ⟨s2, _, fs2 ++ [(fnm', fkd')], by rw [List.length_append, HFL.out]; rfl, HNN.out.nr, hP.out⟩⟩
                    case measure => simp [intOf]; omega
            · obtain rfl : j = m2 := by omega
              obtain ⟨ts, hts1, hts2⟩ := HN2.out.nr.tl
              obtain ⟨ob, xs, hs1, ho1, hx1⟩ := hts2.st
              obtain ⟨A4, c4, rfl, hc41, hc42⟩ := hs1.form
              have hc49 : c4 ≤ 9223372036854775807 := by unfold maxLen at hc42; omega
              obtain ⟨i0, hi0, hz0, hz1, hz2⟩ := info_parts type_info
              have t0 : wr.cell? ⟨V.heap.size, 0, none⟩ = some (.string s2) := (HN2.out.tm.row.cell 0).trans rfl
              have t1 : wr.cell? ⟨V.heap.size, 1, none⟩ = some fv2 := (HN2.out.tm.row.cell 1).trans rfl
              obtain ⟨fob, hfs1, hfo1⟩ := HN2.out.tm.sg
              obtain ⟨FA, FC, rfl, hfc1, hfc2⟩ := hfs1.form
              have hs2 := hs1.turns (Turns.of_below HN2.out.tm.be) (fun _ _ x => x)
              have hnr2 := (HN2.out.nr.nr.below HN2.out.tm.be HN2.out.nr.nr.lt).alloc (.cells #[.string s2, .slice FA fs2.length FC] 35)
              have hnbo : ob ≠ some nb := fun e => by
                rw [e] at hs1
                obtain ⟨c', hr'⟩ := seg_row hs1
                exact row_ne hr' HN2.out.nr.nr (by decide) rfl
              rw [hts1] at hs1 hs2 hc41 ⊢
              have HS1 := Lib.hid hs1
              have HS2 := Lib.hid hs2
              have HO1 := Lib.hid ho1
              have HX1 := Lib.hid hx1
              have HTL := Lib.hid hts2
              have HT1 := Lib.hid hts1
              have HNR := Lib.hid hnr2
              have HNB := Lib.hid hnbo
              have hk5 : k < 5 := by omega
              have hfl4 : fs2.length ≤ 4 := by rw [HFL.out]; omega
              have HF4 := Lib.hid hfl4
              clear hs1 ho1 hx1 hts2 hts1 hs2 hnr2 hnbo hc42 hfs1 hfo1 hfc2 hfl4
              have hor : ((j : Int) < (fn : Int) ∧ ¬ (j : Int) < 4) ∨ ¬ (j : Int) < (fn : Int) := by have := HM2.out; omega
              rcases hor with ⟨hj1, hj2⟩ | hj1
              all_goals
                go_wp2_with (at_builtin; refine wpList_append_seg _ rfl _ _ 22 rfl 35 i0 _ 2 40 Try.underlying22 hi0 hz0 hz1 hz2 rfl (by decide) _ _ _ _ rfl (HS2.out.alloc _) ⟨wr.heap.size, 0, none⟩ 1 1 [.string s2, .slice FA fs2.length FC] rfl rfl (two_news _ _ _ _) (by simp [Value.oneCell']) (by decide) (by unfold maxLen; omega) (by omega) ?_; intro v6 w6 ob6 hs6 ht6 ho6; have HS6 := Lib.hid hs6; have HT6 := Lib.hid ht6; have HO6 := Lib.hid ho6; clear hs6 ht6 ho6)
                have hs1' := HS1.out
                have hs6' := HS6.out
                rw [← HT1.out] at hs1' hs6'
                have htl := HTL.out
                have hx1 := HX1.out
                have hP := Lib.hid (Tl.push htl hs1' HO1.out hx1 HN2.out.tm HF4.out (by rw [HT1.out]; exact hk5) hs6' HT6.out HO6.out)
                have hR := Lib.hid (HNR.out.turns HT6.out HNB.out)
                clear hs1' hs6' htl hx1
                go_roundw
                case rel => exact ⟨k + 1, by omega, by go_num, Lib.hid ⟨⟨ts ++ [(s2, fs2)], by rw [List.length_append, HT1.out]; rfl, hP.out⟩, hR.out⟩⟩
                case measure => simp [intOf]; omega
    · obtain rfl : k = m := by omega
      obtain ⟨ts, hts1, hts2⟩ := HR.out.tl
      have HTL := Lib.hid hts2
      clear hts1 hts2
      have hor : ((k : Int) < (n : Int) ∧ ¬ (k : Int) < 5) ∨ ¬ (k : Int) < (n : Int) := by have := HM.out; omega
      rcases hor with ⟨hj1, hj2⟩ | hj1
      all_goals
        go_wp2
        go_ret
        exact ⟨_, ts, rfl, HTL.out⟩
end Go.Proofs.Ytjnlpgmocngenaa.Sch
