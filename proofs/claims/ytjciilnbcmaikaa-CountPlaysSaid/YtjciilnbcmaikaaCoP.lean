/- The walk of the law CountPlays. -/
import Derived.Test.YtjciilnbcmaikaaCoS
namespace Go.Proofs.Ytjciilnbcmaikaa.Co
open Go.RowKit Go.Proofs.Ytjciilnbcmaikaa
set_option linter.unusedVariables false
set_option maxRecDepth 100000

theorem sm_up2 (f : Nat → Nat → Int) (p k j : Nat) : ∀ N, sm (up2 f p k (f p k + 1)) j N = sm f j N + (if j = k ∧ p < N then 1 else 0)
  | 0 => by simp [sm]
  | N + 1 => by
    have ih := sm_up2 f p k j N
    simp only [sm, ih]
    unfold up2
    by_cases e : j = k
    · subst e
      by_cases e2 : N = p
      · subst e2; simp; omega
      · by_cases e3 : p < N
        · rw [if_pos ⟨rfl, e3⟩, if_neg (by omega), if_pos ⟨rfl, by omega⟩]; omega
        · rw [if_neg (by omega), if_neg (by omega), if_neg (by omega)]; omega
    · rw [if_neg (by omega), if_neg (by omega), if_neg (by omega)]; omega
/-- What holds between two rounds. -/
structure Pl (w0 w : World) (b mb m2 sb N : Nat) (f : Nat → Nat → Int) (i : Nat) : Prop where
  cs : Cs w b mb N f
  tab : Tab w m2 26 (N * 6) (tv f)
  row : Row w sb 26 (sh fun k => sm f k N)
  be : Below w0.heap.size w0 w
  ge : w0.heap.size ≤ b ∧ w0.heap.size ≤ mb ∧ w0.heap.size ≤ m2 ∧ w0.heap.size ≤ sb
  ne : b ≠ m2 ∧ b ≠ sb ∧ mb ≠ m2 ∧ mb ≠ sb ∧ m2 ≠ sb
  lo : ∀ p k, 0 ≤ f p k ∧ f p k ≤ i
section
variable {w0 w w' : World} {b mb m2 sb N i : Nat} {f : Nat → Nat → Int}
theorem Pl.call (h : Pl w0 w b mb m2 sb N f i) (g : Below w.heap.size w w') : Pl w0 w' b mb m2 sb N f i :=
  ⟨h.cs.call g, h.tab.turns (Turns.of_below g) (fun h => h), h.row.turns (Turns.of_below g) (fun h => h), h.be.trans (g.mono h.be.size), h.ge, h.ne, h.lo⟩
theorem Pl.drewN (h : Pl w0 w b mb m2 sb N f i) (n : Nat) : Pl w0 (w.drewN n) b mb m2 sb N f i := ⟨h.cs.drewN n, h.tab.drewN n, h.row, below_drewN h.be n, h.ge, h.ne, h.lo⟩
theorem Pl.drew (h : Pl w0 w b mb m2 sb N f i) : Pl w0 w.drew b mb m2 sb N f i := ⟨Cs.drew h.cs, h.tab, h.row, ⟨h.be.os, h.be.tape, h.be.output, h.be.size, h.be.block⟩, h.ge, h.ne, h.lo⟩
theorem Pl.next (h : Pl w0 w b mb m2 sb N f i) : Pl w0 w b mb m2 sb N f (i + 1) := ⟨h.cs, h.tab, h.row, h.be, h.ge, h.ne, fun p k => by have := h.lo p k; omega⟩
theorem Pl.cell (h : Pl w0 w b mb m2 sb N f i) {p k : Nat} (hp : p < N) (hk : k < 6) : w.cell? ⟨m2, p * 6 + k, none⟩ = some (.int .i64 (f p k)) := by
  rw [← tv_at f p k hk]; exact h.tab.cell (by omega)
theorem Pl.sum (h : Pl w0 w b mb m2 sb N f i) {k : Nat} (hk : k < 6) : w.cell? ⟨sb, k, none⟩ = some (.int .i64 (sm f k N)) := (h.row.cell k).trans (sh_get _ hk)
theorem Pl.cell1 (h : Pl w0 w b mb m2 sb N f i) (ht : Turns w w' (fun k => k = mb)) {p k : Nat} (hp : p < N) (hk : k < 6) : w'.cell? ⟨m2, p * 6 + k, none⟩ = some (.int .i64 (f p k)) := by
  rw [← tv_at f p k hk]; exact (h.tab.turns ht (fun e => h.ne.2.2.1 e.symm)).cell (by omega)
theorem Pl.sum1 (h : Pl w0 w b mb m2 sb N f i) (ht : Turns w w' (fun k => k = mb)) {k : Nat} (hk : k < 6) : w'.cell? ⟨sb, k, none⟩ = some (.int .i64 (sm f k N)) := ((h.row.turns ht (fun e => h.ne.2.2.2.1 e.symm)).cell k).trans (sh_get _ hk)
theorem Pl.free1 (h : Pl w0 w b mb m2 sb N f i) (ht : Turns w w' (fun k => k = mb)) (q : Nat) : w'.frozen? ⟨m2, q, none⟩ = false := (h.tab.turns ht (fun e => h.ne.2.2.1 e.symm)).free q
theorem Pl.free2 (h : Pl w0 w b mb m2 sb N f i) (ht : Turns w w' (fun k => k = mb)) (q : Nat) : w'.frozen? ⟨sb, q, none⟩ = false := (h.row.turns ht (fun e => h.ne.2.2.2.1 e.symm)).free q
theorem Pl.lt1 (h : Pl w0 w b mb m2 sb N f i) (ht : Turns w w' (fun k => k = mb)) : m2 < w'.heap.size ∧ sb < w'.heap.size := ⟨(h.tab.turns ht (fun e => h.ne.2.2.1 e.symm)).lt, (h.row.turns ht (fun e => h.ne.2.2.2.1 e.symm)).lt⟩
/-- All three count one more. -/
theorem Pl.more (h : Pl w0 w b mb m2 sb N f i) {p k : Nat} (hp : p < N) (hk : k < 6) (hi : i < 60) {w1 : World} (hc : Cs w1 b mb N (up2 f p k (f p k + 1))) (ht : Turns w w1 (fun k => k = mb)) (u v : Value) (hu : u = .int .i64 (f p k + 1)) (hv : v = .int .i64 (sm f k N + 1)) :
    Pl w0 ((w1.setCell ⟨m2, p * 6 + k, none⟩ u).setCell ⟨sb, k, none⟩ v) b mb m2 sb N (up2 f p k (f p k + 1)) (i + 1) := by
  obtain ⟨g0, g1, g2, g3⟩ := h.ge
  obtain ⟨n0, n1, n2, n3, n4⟩ := h.ne
  subst hu hv
  have hb1 : Below w0.heap.size w0 w1 := ht.below h.be h.be.size (fun q hq e => by omega)
  refine ⟨(hc.past n0 n2 _).past n1 n3 _, ((h.tab.turns ht (fun e => n2 e.symm)).put (p * 6 + k) _ (fun i hi hne => by unfold tv up2; rw [if_neg (by omega)]) (fun _ => by rw [tv_at _ _ _ hk]; unfold up2; rw [if_pos ⟨rfl, rfl⟩])).past n4 _, ?_,
    (hb1.setCell (p := ⟨m2, p * 6 + k, none⟩) g2 _).setCell (p := ⟨sb, k, none⟩) g3 _, h.ge, h.ne, fun q j => ?_⟩
  · have := ((h.row.turns ht (fun e => n3 e.symm)).past (p := ⟨m2, p * 6 + k, none⟩) (fun e => n4 e.symm) (.int .i64 (f p k + 1))).put k (.int .i64 (sm f k N + 1))
    rw [sh_set _ (fun j => sm (up2 f p k (f p k + 1)) j N) hk _ (by rw [sm_up2, if_pos ⟨rfl, hp⟩]) (fun j hj hne => by rw [sm_up2, if_neg (fun e => hne e.1)]; omega)] at this
    exact this
  · unfold up2
    have := h.lo p k
    have := h.lo q j
    split <;> omega
end
theorem Cs.lo60 {w : World} {b mb N : Nat} {f : Nat → Nat → Int} (h : Cs w b mb N f) : True := trivial
set_option maxHeartbeats 4000000 in
theorem plays_law (a : Int) (wa : (Lit.int .i64 a).wf = true) (A : Option Addr) (n c : Nat) (F G : Nat → Int) (ln : n ≤ c) (lc : c ≤ 9223372036854775807) (lf : ∀ k, -9223372036854775808 ≤ F k ∧ F k ≤ 9223372036854775807) (lg : ∀ k, -9223372036854775808 ≤ G k ∧ G k ≤ 9223372036854775807)
    (w : World) (lies : LiesTwo w w.heap.size A n (fun k => .int .i64 (F k)) (fun k => .int .i64 (G k))) :
    Calls Try.prog 3 #[.int .i64 a, .slice A n c] w fun e w' => e = .returned (.bool true) ∧ Below w.heap.size w w' := by
  clear wa
  have HL := Lib.hid lies
  have HF := Lib.hid lf
  have HG := Lib.hid lg
  clear lies lf lg
  go_enter Try.func3, Try.ntmps3
  go_upto_region 1 with fail
  go_cut [5, 6] (fun s5 s6 wx => ∃ N : Nat, s5 = .pointer (some ⟨w.heap.size + 1, 0, none⟩) ∧ s6 = .int .i64 N ∧ Hid (Cs wx (w.heap.size + 1) w.heap.size N (fun _ _ => 0) ∧ Below w.heap.size w wx))
  case first =>
    go_wp2_with fail
    refine (new_any a _).mono ?_
    rintro e w1 ⟨rfl, hc, hb⟩
    have HC := Lib.hid (And.intro hc hb)
    clear hc hb
    rcases (show (a < 1 ∧ partsV a = 1) ∨ (1 ≤ a ∧ a ≤ 64 ∧ a = (partsV a : Int)) ∨ (64 < a ∧ partsV a = 64) from by unfold partsV; omega) with ⟨g, e⟩ | ⟨g, g1, e⟩ | ⟨g, e⟩
    · rw [e] at HC
      clear e
      go_wp2
      go_meet
      exact ⟨1, rfl, rfl, HC⟩
    · have HE := Lib.hid e
      clear e
      go_wp2
      go_meet
      exact ⟨partsV a, rfl, by rw [← HE.out], HC⟩
    · rw [e] at HC
      clear e
      go_wp2
      go_meet
      exact ⟨64, rfl, rfl, HC⟩
  case rest =>
    obtain ⟨N, rfl, rfl, HC⟩ := hcut
    have hn := HC.out.1.n1
    have hmk := run_make_sh .i64 .i64 N hn.2
    obtain ⟨hn1, hn2⟩ := hn
    have hP : Pl w (((wc.alloc (.cells (madeCells #[.int .i64 0, .int .i64 0, .int .i64 0, .int .i64 0, .int .i64 0, .int .i64 0] (N * 6)) 26)).alloc (.cells #[.int .i64 0, .int .i64 0, .int .i64 0, .int .i64 0, .int .i64 0, .int .i64 0] 26))) (w.heap.size + 1) w.heap.size wc.heap.size (wc.heap.size + 1) N (fun _ _ => 0) 0 := by
      have h1 := HC.out.2.size
      have h2 := HC.out.1.row.lt
      have hz : ∀ k, sm (fun _ _ => 0) k N = 0 := fun k => by
        have : ∀ M, sm (fun _ _ => 0) k M = 0 := fun M => by induction M with | zero => rfl | succ M ih => simp only [sm, ih]; rfl
        exact this N
      refine ⟨(HC.out.1.alloc _).alloc _, (tab_zero wc N).alloc _, ?_, (HC.out.2.alloc h1 _).alloc (by rw [World.size_alloc]; omega) _, by omega, by omega, fun p k => by omega⟩
      have := Row.made (wc.alloc (.cells (madeCells #[.int .i64 0, .int .i64 0, .int .i64 0, .int .i64 0, .int .i64 0, .int .i64 0] (N * 6)) 26)) 26 (sh fun k => sm (fun _ _ => 0) k N)
      rw [World.size_alloc, sh_congr (g := fun _ => 0) (fun i _ => hz i)] at this
      rw [sh_congr (g := fun _ => 0) (fun i _ => hz i)]
      exact this
    have HP := Lib.hid hP
    clear hP HC
    go_wp2
    clear hmk
    generalize wc.heap.size = m2 at HP ⊢
    go_loopw [9] (fun v wr => ∃ i : Nat, i ≤ n ∧ i ≤ 60 ∧ v = .int .i64 i ∧ Hid (∃ f, Pl w wr (w.heap.size + 1) w.heap.size m2 (m2 + 1) N f i)) (fun v _ => n - (intOf v).toNat)
    case atStart => exact ⟨0, by omega, by omega, rfl, _, HP.out⟩
    case round =>
      clear HP
      obtain ⟨i, hi, hi60, rfl, hP⟩ := hrel
      obtain ⟨f, hP⟩ := hP.out
      have HP := Lib.hid hP
      clear hP
      by_cases hlt : i < n ∧ i < 60
      · obtain ⟨hin, hi6⟩ := hlt
        have e60 : decide ((i : Int) < 60) = true := by simp; omega
        obtain ⟨g, o, rfl, hg, hc1, hc2⟩ := HL.out i hin
        have c1 := (HP.out.be.cell (p := ⟨g, o + i * 2, none⟩) hg).trans hc1
        have c2 := (HP.out.be.cell (p := ⟨g, o + i * 2 + 1, none⟩) hg).trans hc2
        obtain ⟨b0, b1⟩ := HF.out i
        obtain ⟨b2, b3⟩ := HG.out i
        have a1 := and7 (F i)
        have a2 := and7 (G i)
        have a3 := and7 i
        clear hc1 hc2
        go_upto_region 7 with fail
        go_quiet (fail)
        have HP1 := Lib.hid (HP.out.drewN nq)
        have d1 : (wr.drewN nq).cell? ⟨g, o + i * 2, none⟩ = some (.int .i64 (F i)) := c1
        have d2 : (wr.drewN nq).cell? ⟨g, o + i * 2 + 1, none⟩ = some (.int .i64 (G i)) := c2
        clear HP c1 c2 hP
        generalize wr.drewN nq = W at HP1 d1 d2 ⊢
        go_upto_if 46 with fail
        go_cut [10, 11] (fun s10 s11 wx => ∃ X Y : Int, s10 = .int .i64 X ∧ s11 = .int .i64 Y ∧ Hid (Pl w wx (w.heap.size + 1) w.heap.size m2 (m2 + 1) N f i))
        case first =>
          by_cases h7 : (i : Int) % 8 = 7
          · have e7 : ((i : Int) % 8 == 7) = true := by simpa using h7
            clear h7
            go_upto_region 9 with fail
            go_quiet (fail)
            go_wp2
            go_meet
            exact ⟨F i, G i, rfl, rfl, HP1.out.drewN _⟩
          · have e7 : ((i : Int) % 8 == 7) = false := by simpa using h7
            clear h7
            go_wp2
            go_meet
            exact ⟨_, _, rfl, rfl, HP1⟩
        case rest =>
          clear HP1 d1 d2 W a1 a2 a3
          obtain ⟨X, Y, rfl, rfl, HP⟩ := hcut
          by_cases hin : 0 ≤ X ∧ X < (N : Int) ∧ 0 ≤ Y ∧ Y < 6
          · obtain ⟨x0, x1, y0, y1⟩ := hin
            obtain ⟨p, rfl⟩ := Int.eq_ofNat_of_zero_le x0
            obtain ⟨k, rfl⟩ := Int.eq_ofNat_of_zero_le y0
            have hp : p < N := by omega
            have hk : k < 6 := by omega
            obtain ⟨v0, v1⟩ := HP.out.lo p k
            obtain ⟨u0, u1⟩ := sm_lo f (fun p k => by have := HP.out.lo p k; omega) k N
            have HC := Lib.hid HP.out.cs
            go_wp2_with fail
            refine (add_yes _ _ _ _ _ HC.out p k hp hk (by omega)).mono ?_
            rintro e w1 ⟨rfl, hc, ht⟩
            have c1 := HP.out.cell1 ht hp hk
            have c2 := HP.out.sum1 ht hk
            have f1 := HP.out.free1 ht (p * 6 + k)
            have f2 := HP.out.free2 ht k
            have bl := HP.out.lt1 ht
            obtain ⟨bl1, bl2⟩ := bl
            have HM := Lib.hid (fun u v hu hv => HP.out.more hp hk hi6 hc ht u v hu hv)
            clear hc ht HC HP
            go_wp2
            go_region
            all_goals
              go_wp2
              go_roundw
              case measure => simp [intOf]; omega
              case rel => exact ⟨i + 1, by omega, by omega, by go_num, _, Pl.drew (HM.out _ _ rfl rfl)⟩
          · rcases (show X < 0 ∨ (0 ≤ X ∧ (N : Int) ≤ X) ∨ (0 ≤ X ∧ X < (N : Int) ∧ Y < 0) ∨ (0 ≤ X ∧ X < (N : Int) ∧ 0 ≤ Y ∧ 6 ≤ Y) from by omega) with hx | ⟨hx, hy⟩ | ⟨hx, hy, hz⟩ | ⟨hx, hy, hz, hu⟩
            all_goals
              have HC := Lib.hid HP.out.cs
              clear hin
              go_wp2_with fail
              refine (add_no _ _ _ _ _ HC.out X Y (by omega)).mono ?_
              rintro e w1 ⟨rfl, rfl⟩
              go_wp2
              go_roundw
              case measure => simp [intOf]; omega
              case rel => exact ⟨i + 1, by omega, by omega, by go_num, _, HP.out.next⟩
      · have HP1 := HP
        clear HP hP
        by_cases hin : i < n
        all_goals
          try have e60 : decide ((i : Int) < 60) = false := by simp; omega
          clear hlt
          go_wp2
          go_loopw [13] (fun v wr => ∃ j : Nat, j ≤ N ∧ v = .int .i64 j ∧ Hid (Pl w wr (w.heap.size + 1) w.heap.size m2 (m2 + 1) N f i)) (fun v _ => N - (intOf v).toNat)
          case atStart => exact ⟨0, by omega, rfl, HP1⟩
          case round =>
            clear HP1
            obtain ⟨j, hj, rfl, HP⟩ := hrel
            by_cases hjn : j < N
            · have hji : (j : Int) < (N : Int) := by omega
              have q0 := eq6 (f j 0) (f j 1) (f j 2) (f j 3) (f j 4) (f j 5)
              have c0 : wr.cell? ⟨m2, j * 6, none⟩ = some (.int .i64 (f j 0)) := HP.out.cell hjn (k := 0) (by omega)
              have c1 := HP.out.cell hjn (k := 1) (by omega)
              have c2 := HP.out.cell hjn (k := 2) (by omega)
              have c3 := HP.out.cell hjn (k := 3) (by omega)
              have c4 := HP.out.cell hjn (k := 4) (by omega)
              have c5 := HP.out.cell hjn (k := 5) (by omega)
              have bl := HP.out.tab.lt
              go_upto_region 19 with fail
              go_region_law (first
                | (go_simp; go_at_call 17; refine (of_yes _ _ _ _ _ HP.out.drew.cs j hjn).mono ?_; rintro e w1 ⟨rfl, hb⟩; have M1 := Lib.hid (HP.out.drew.call hb); have d0 : w1.cell? ⟨m2, j * 6, none⟩ = some (.int .i64 (f j 0)) := M1.out.cell hjn (k := 0) (by omega); have d1 := M1.out.cell hjn (k := 1) (by omega); have d2 := M1.out.cell hjn (k := 2) (by omega); have d3 := M1.out.cell hjn (k := 3) (by omega); have d4 := M1.out.cell hjn (k := 4) (by omega); have d5 := M1.out.cell hjn (k := 5) (by omega); have bl2 := M1.out.tab.lt; clear hb))
              all_goals
                go_wp2
                go_roundw
                case measure => simp [intOf]; omega
                case rel => exact ⟨j + 1, by omega, by go_num, M1⟩
            · obtain rfl : j = N := by omega
              have q0 := eq6 0 0 0 0 0 0
              have q1 := eq6 (sm f 0 j) (sm f 1 j) (sm f 2 j) (sm f 3 j) (sm f 4 j) (sm f 5 j)
              have hj1 : (j : Int) < 0 ∨ (j : Int) ≤ (j : Int) := .inr (Int.le_refl _)
              have HJ1 := Lib.hid hj1
              have HJ2 : Hid ((-1 : Int) < 0 ∨ (j : Int) ≤ (-1 : Int)) := .inl (by omega)
              clear hj1
              have hS : ∀ X, Below wr.heap.size wr X → X.cell? ⟨m2 + 1, 0, none⟩ = some (.int .i64 (sm f 0 j)) ∧ X.cell? ⟨m2 + 1, 1, none⟩ = some (.int .i64 (sm f 1 j)) ∧ X.cell? ⟨m2 + 1, 2, none⟩ = some (.int .i64 (sm f 2 j)) ∧ X.cell? ⟨m2 + 1, 3, none⟩ = some (.int .i64 (sm f 3 j)) ∧ X.cell? ⟨m2 + 1, 4, none⟩ = some (.int .i64 (sm f 4 j)) ∧ X.cell? ⟨m2 + 1, 5, none⟩ = some (.int .i64 (sm f 5 j)) := fun X hX =>
                have h := HP.out.call hX
                ⟨h.sum (by omega), h.sum (by omega), h.sum (by omega), h.sum (by omega), h.sum (by omega), h.sum (by omega)⟩
              have k1 := hS _ (Below.refl _ _)
              have HS := Lib.hid hS
              clear hS
              go_wp2
              go_region_held3 (fun X => X.cell? ⟨m2 + 1, 0, none⟩ = some (.int .i64 (sm f 0 j)) ∧ X.cell? ⟨m2 + 1, 1, none⟩ = some (.int .i64 (sm f 1 j)) ∧ X.cell? ⟨m2 + 1, 2, none⟩ = some (.int .i64 (sm f 2 j)) ∧ X.cell? ⟨m2 + 1, 3, none⟩ = some (.int .i64 (sm f 3 j)) ∧ X.cell? ⟨m2 + 1, 4, none⟩ = some (.int .i64 (sm f 4 j)) ∧ X.cell? ⟨m2 + 1, 5, none⟩ = some (.int .i64 (sm f 5 j)))
                (first
                  | exact k1
                  | exact HS.out _ HB4.out
                  | exact HS.out _ HB3.out
                  | exact HS.out _ HB2.out
                  | exact HS.out _ HB1.out
                  | fail)
                ((first
                  | (
                      go_at_call 18
                      (with_reducible refine (awake_any _).mono ?_)
                      rintro e w1 ⟨rfl, hb⟩
                      have h1 : Below wr.heap.size wr w1 := Below.trans (by go_grown) hb
                      have HB1 := Lib.hid h1
                      have M1 := Lib.hid (HP.out.call h1)
                      clear hb h1)
                  | (
                      go_at_call 19
                      (with_reducible refine (sum_any _ _ _ _ _ M1.out.cs).mono ?_)
                      rintro e w2 ⟨rfl, hb⟩
                      have h2 : Below wr.heap.size wr w2 := HB1.out.trans (hb.mono HB1.out.size)
                      have HB2 := Lib.hid h2
                      have M2 := Lib.hid (HP.out.call h2)
                      clear hb h2)
                  | (
                      go_at_call 20
                      (with_reducible refine (len_any _ _ _ _ _ M2.out.cs).mono ?_)
                      rintro e w' ⟨rfl, rfl⟩)
                  | (
                      go_at_call 17
                      (with_reducible refine (of_no _ _ _ _ _ M2.out.cs j HJ1.out).mono ?_)
                      rintro e w3 ⟨rfl, hb⟩
                      have h3 : Below wr.heap.size wr w3 := HB2.out.trans (hb.mono HB2.out.size)
                      have HB3 := Lib.hid h3
                      have M3 := Lib.hid (HP.out.call h3)
                      clear hb h3)
                  | (
                      go_at_call 17
                      (with_reducible refine (of_no _ _ _ _ _ M3.out.cs (-1) HJ2.out).mono ?_)
                      rintro e w4 ⟨rfl, hb⟩
                      have h4 : Below wr.heap.size wr w4 := HB3.out.trans (hb.mono HB3.out.size)
                      have HB4 := Lib.hid h4
                      have M4 := Lib.hid (HP.out.call h4)
                      clear hb h4)))
              go_wp2
              go_ret
              exact ⟨rfl, M4.out.be⟩
end Go.Proofs.Ytjciilnbcmaikaa.Co
