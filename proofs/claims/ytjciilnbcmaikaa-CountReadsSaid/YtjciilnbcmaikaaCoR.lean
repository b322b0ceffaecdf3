/- The walk of the law CountReads. -/
import Derived.Test.YtjciilnbcmaikaaCoS
import Derived.Deep.CutBlock
namespace Go.Proofs.Ytjciilnbcmaikaa.Co
open Go.RowKit Go.Proofs.Ytjciilnbcmaikaa
set_option linter.unusedVariables false
set_option maxRecDepth 100000

/-- What holds ahead of the reading. -/
structure Ra (w0 w : World) (b mb N : Nat) (f : Nat → Nat → Int) (i : Nat) : Prop where
  cs : Cs w b mb N f
  be : Below w0.heap.size w0 w
  ge : w0.heap.size ≤ b ∧ w0.heap.size ≤ mb
  lo : ∀ p k, 0 ≤ f p k ∧ f p k ≤ i
/-- What holds while it is read: ws the sums when it began; s those read so far, of the first q; between what was and what is. -/
structure Rb (w0 w : World) (b mb N : Nat) (f : Nat → Nat → Int) (i : Nat) (sb rb q : Nat) (g s : Nat → Int) (F : Nat → Nat → Int) : Prop where
  ra : Ra w0 w b mb N f i
  row : Row w sb 26 (sh g)
  rd : Rd w rb (some ⟨b, 0, none⟩) q s
  ge : w0.heap.size ≤ sb ∧ w0.heap.size ≤ rb
  ne : b ≠ rb ∧ mb ≠ rb ∧ sb ≠ rb ∧ mb ≠ sb
  qn : q ≤ N
  was : ∀ k, g k = sm F k N
  up : ∀ p k, F p k ≤ f p k
  lo : ∀ k, sm F k q ≤ s k
  hi : ∀ k, s k ≤ sm f k q
  n0 : ∀ p k, 0 ≤ F p k
theorem sm_mono (F f : Nat → Nat → Int) (h : ∀ p k, F p k ≤ f p k) (k : Nat) : ∀ q, sm F k q ≤ sm f k q
  | 0 => Int.le_refl _
  | q + 1 => by have := sm_mono F f h k q; have := h q k; simp only [sm]; omega
section
variable {w0 w w' : World} {b mb N i sb rb q : Nat} {f F : Nat → Nat → Int} {g s : Nat → Int}
theorem Ra.call (h : Ra w0 w b mb N f i) (g : Below w.heap.size w w') : Ra w0 w' b mb N f i := ⟨h.cs.call g, h.be.trans (g.mono h.be.size), h.ge, h.lo⟩
theorem Ra.next (h : Ra w0 w b mb N f i) : Ra w0 w b mb N f (i + 1) := ⟨h.cs, h.be, h.ge, fun p k => by have := h.lo p k; omega⟩
theorem Ra.drew (h : Ra w0 w b mb N f i) : Ra w0 w.drew b mb N f i := ⟨Cs.drew h.cs, ⟨h.be.os, h.be.tape, h.be.output, h.be.size, h.be.block⟩, h.ge, h.lo⟩
theorem Ra.add (h : Ra w0 w b mb N f i) {p k : Nat} (hc : Cs w' b mb N (up2 f p k (f p k + 1))) (ht : Turns w w' (fun k => k = mb)) : Ra w0 w' b mb N (up2 f p k (f p k + 1)) (i + 1) :=
  ⟨hc, ht.below h.be h.be.size (fun j hj e => by have := h.ge; omega), h.ge, fun q j => by
    unfold up2
    have := h.lo p k
    have := h.lo q j
    split <;> omega⟩
theorem Rb.call (h : Rb w0 w b mb N f i sb rb q g s F) (hb : Below w.heap.size w w') : Rb w0 w' b mb N f i sb rb q g s F :=
  ⟨h.ra.call hb, h.row.turns (Turns.of_below hb) (fun h => h), h.rd.call hb, h.ge, h.ne, h.qn, h.was, h.up, h.lo, h.hi, h.n0⟩
theorem Rb.drewN (h : Rb w0 w b mb N f i sb rb q g s F) (n : Nat) : Rb w0 (w.drewN n) b mb N f i sb rb q g s F :=
  ⟨⟨h.ra.cs.drewN n, below_drewN h.ra.be n, h.ra.ge, h.ra.lo⟩, h.row, h.rd, h.ge, h.ne, h.qn, h.was, h.up, h.lo, h.hi, h.n0⟩
theorem Rb.next (h : Rb w0 w b mb N f i sb rb q g s F) : Rb w0 w b mb N f (i + 1) sb rb q g s F :=
  ⟨h.ra.next, h.row, h.rd, h.ge, h.ne, h.qn, h.was, h.up, h.lo, h.hi, h.n0⟩
theorem Rb.add (h : Rb w0 w b mb N f i sb rb q g s F) {p k : Nat} (hc : Cs w' b mb N (up2 f p k (f p k + 1))) (ht : Turns w w' (fun k => k = mb)) : Rb w0 w' b mb N (up2 f p k (f p k + 1)) (i + 1) sb rb q g s F :=
  have hu : ∀ x y, f x y ≤ up2 f p k (f p k + 1) x y := fun x y => by
    unfold up2
    by_cases e : x = p ∧ y = k
    · rw [if_pos e, e.1, e.2]; omega
    · rw [if_neg e]; exact Int.le_refl _
  ⟨h.ra.add hc ht, h.row.turns ht (fun e => h.ne.2.2.2 e.symm), h.rd.turns ht (fun e => h.ne.2.1 e.symm), h.ge, h.ne, h.qn, h.was, fun x y => Int.le_trans (h.up x y) (hu x y), h.lo, fun y => Int.le_trans (h.hi y) (sm_mono _ _ hu y q), h.n0⟩
theorem Rb.step (h : Rb w0 w b mb N f i sb rb q g s F) (hq : q < N) (hr : Rd w' rb (some ⟨b, 0, none⟩) (q + 1) (fun k => s k + f q k)) (ht : Turns w w' (fun k => k = rb)) : Rb w0 w' b mb N f i sb rb (q + 1) g (fun k => s k + f q k) F :=
  ⟨⟨h.ra.cs.of_turns ht h.ne.1 h.ne.2.1, ht.below h.ra.be h.ra.be.size (fun j hj e => by have := h.ge; omega), h.ra.ge, h.ra.lo⟩, h.row.turns ht h.ne.2.2.1, hr, h.ge, h.ne, by omega, h.was, h.up,
    fun k => by have := h.lo k; have := h.up q k; simp only [sm]; omega, fun k => by have := h.hi k; simp only [sm]; omega, h.n0⟩
end
set_option maxHeartbeats 4000000 in
theorem reads_law (a : Int) (wa : (Lit.int .i64 a).wf = true) (A : Option Addr) (n c : Nat) (V : Nat → Int) (ln : n ≤ c) (lc : c ≤ 9223372036854775807) (lb : ∀ k, -9223372036854775808 ≤ V k ∧ V k ≤ 9223372036854775807)
    (w : World) (lies : Lies w w.heap.size A n (fun k => .int .i64 (V k))) :
    Calls Try.prog 4 #[.int .i64 a, .slice A n c] w fun e w' => e = .returned (.bool true) ∧ Below w.heap.size w w' := by
  clear wa
  have HL := Lib.hid lies
  have HV := Lib.hid lb
  clear lies lb
  obtain ⟨N0, hk, hk8⟩ : ∃ k : Nat, bits .and .i64 a 7 = (k : Int) ∧ k < 8 := ⟨(a % 8).toNat, by rw [and7]; omega, by omega⟩
  have hpv : partsV ((N0 : Int) + 1) = N0 + 1 := by unfold partsV; omega
  have HPV := Lib.hid hpv
  clear hpv
  go_enter Try.func4, Try.ntmps4
  go_wp2_with fail
  refine (new_any ((N0 : Int) + 1) _).mono ?_
  rintro e w1 ⟨rfl, hc, hb⟩
  rw [HPV.out] at hc
  have HR : Hid (∃ f, Ra w w1 (w.heap.size + 1) w.heap.size (N0 + 1) f 0) := ⟨_, hc, hb, by omega, fun p k => by omega⟩
  clear hc hb hk
  go_upto_block 0 with fail
  go_cut [] (fun wx => Hid (∃ (i : Nat) (f : Nat → Nat → Int), i ≤ 20 ∧ Ra w wx (w.heap.size + 1) w.heap.size (N0 + 1) f i))
  case first =>
   go_wp2
   go_loopw [7] (fun v wr => ∃ i : Nat, i ≤ n ∧ i ≤ 20 ∧ v = .int .i64 i ∧ Hid (∃ f, Ra w wr (w.heap.size + 1) w.heap.size (N0 + 1) f i)) (fun v _ => n - (intOf v).toNat)
   case atStart => exact ⟨0, by omega, by omega, rfl, HR⟩
   case round =>
     clear HR
     obtain ⟨i, hi, hi20, rfl, hR⟩ := hrel
     obtain ⟨f, hR⟩ := hR.out
     have HR := Lib.hid hR
     clear hR
     by_cases hlt : i < n ∧ i < 20
     · obtain ⟨hin, hi2⟩ := hlt
       have e20 : decide ((i : Int) < 20) = true := by simp; omega
       obtain ⟨g, o, rfl, hg, hc1⟩ := HL.out i hin
       have c1 : wr.cell? ⟨g, o + i, none⟩ = some (.int .i64 (V i)) := (HR.out.be.cell (p := ⟨g, o + i, none⟩) hg).trans hc1
       obtain ⟨b0, b1⟩ := HV.out i
       have a1 := and7 (V i)
       have a2 := and7 (V i / 8)
       clear hc1
       go_upto_region 6 with fail
       by_cases hin2 : V i % 8 < ((N0 + 1 : Nat) : Int) ∧ V i / 8 % 8 < 6
       · obtain ⟨x0, y0⟩ := hin2
         obtain ⟨p, hp⟩ : ∃ p : Nat, V i % 8 = (p : Int) := ⟨(V i % 8).toNat, by omega⟩
         obtain ⟨k, hk⟩ : ∃ k : Nat, V i / 8 % 8 = (k : Int) := ⟨(V i / 8 % 8).toNat, by omega⟩
         rw [hp] at a1
         rw [hk] at a2
         have hpN : p < N0 + 1 := by omega
         have hk6 : k < 6 := by omega
         have hv := HR.out.lo p k
         obtain ⟨v0, v1⟩ := hv
         clear hp hk x0 y0
         go_region_law (first
           | (go_simp; go_at_call 16; refine (add_yes _ _ _ _ _ (Cs.drew HR.out.cs) p k hpN hk6 (by omega)).mono ?_; rintro e w2 ⟨rfl, hc, ht⟩; have HR2 := Lib.hid (HR.out.add hc ((Turns.drew (Turns.refl _ _)).trans ht (fun _ _ h => h))); clear hc ht))
         all_goals
           go_wp2
           go_roundw
           case measure => simp [intOf]; omega
           case rel => exact ⟨i + 1, by omega, by omega, by go_num, _, HR2.out⟩
       · have hno : V i % 8 < 0 ∨ ((N0 + 1 : Nat) : Int) ≤ V i % 8 ∨ V i / 8 % 8 < 0 ∨ 6 ≤ V i / 8 % 8 := by omega
         have HNO := Lib.hid hno
         clear hno hin2
         go_region_law (first
           | (go_simp; go_at_call 16; refine (add_no _ _ _ _ _ (Cs.drew HR.out.cs) _ _ HNO.out).mono ?_; rintro e w2 ⟨rfl, rfl⟩))
         all_goals
           go_wp2
           go_roundw
           case measure => simp [intOf]; omega
           case rel => exact ⟨i + 1, by omega, by omega, by go_num, _, Ra.drew HR.out.next⟩
     · by_cases hin : i < n
       all_goals
         try have e20 : decide ((i : Int) < 20) = false := by simp; omega
         clear hlt
         go_wp2
         go_meet
         exact ⟨i, f, hi20, HR.out⟩
  case rest =>
    clear HR
    obtain ⟨i, f, hi20, hR⟩ := hcut.out
    have HR := Lib.hid hR
    clear hR hcut
    go_wp2_with fail
    refine (sum_any _ _ _ _ _ HR.out.cs).mono ?_
    rintro e w2 ⟨rfl, hb⟩
    have HR2 := Lib.hid (HR.out.call hb)
    clear hb HR
    go_wp2_with fail
    refine (read_any _ _).mono ?_
    rintro e w3 ⟨rfl, hrd, hb⟩
    have HRB : Hid (∃ g F f2, ∃ j, j ≤ 20 + 0 ∧ Rb w (w3.alloc (.cells (sh fun k => sm f k (N0 + 1)) 26)) (w.heap.size + 1) w.heap.size (N0 + 1) f2 j w3.heap.size w2.heap.size 0 g (fun _ => 0) F) := by
      have h3 := HR2.out.call hb
      have z1 := HR2.out.cs.row.lt
      have z2 := hb.size
      have z3 := hrd.lt
      exact ⟨fun k => sm f k (N0 + 1), f, f, i, by omega, ⟨⟨h3.cs.alloc _, h3.be.alloc h3.be.size _, h3.ge, h3.lo⟩, Row.made _ _ _, Row.alloc hrd _, by omega, by omega, by omega, fun k => rfl, fun p k => Int.le_refl _, fun k => Int.le_refl _, fun k => Int.le_refl _, fun p k => (h3.lo p k).1⟩⟩
    clear hrd hb HR2
    go_upto_block 2 with fail
    generalize w3.heap.size = sb at HRB ⊢
    generalize w2.heap.size = rb at HRB ⊢
    have HQ0 : Hid (decide (0 = N0 + 1) = false) := by show decide (0 = N0 + 1) = false; simp
    go_cut [10, 11] (fun s10 s11 wx => ∃ (q : Nat) (d : Bool), s10 = .int .i64 q ∧ s11 = .bool d ∧ Hid (decide (q = N0 + 1) = d) ∧ Hid (∃ g s f F j, j ≤ 80 ∧ Rb w wx (w.heap.size + 1) w.heap.size (N0 + 1) f j sb rb q g s F))
    case first =>
      go_wp2
      go_loopw [10, 11, 12] (fun v10 v11 v12 wr => ∃ (x q : Nat) (d : Bool), x ≤ 60 ∧ v12 = .int .i64 x ∧ v10 = .int .i64 q ∧ v11 = .bool d ∧ Hid (decide (q = N0 + 1) = d) ∧ Hid (∃ g s f F j, j ≤ 20 + x ∧ Rb w wr (w.heap.size + 1) w.heap.size (N0 + 1) f j sb rb q g s F)) (fun _ _ v _ => 60 - (intOf v).toNat)
      case atStart =>
        obtain ⟨g, F, f2, j, hj, hR⟩ := HRB.out
        exact ⟨0, 0, false, by omega, rfl, rfl, rfl, HQ0, g, _, f2, F, j, hj, hR⟩
      case round =>
        clear HRB HQ0
        obtain ⟨x, q, d, hx, rfl, rfl, rfl, HD, hR⟩ := hrel
        obtain ⟨g, s, f, F, j, hj, hR⟩ := hR.out
        have HR := Lib.hid hR
        clear hR
        by_cases hgo : x < 60 ∧ d = false
        · obtain ⟨hx6, rfl⟩ := hgo
          have hq := HR.out.qn
          have hqn : q < N0 + 1 := by have := HD.out; simp at this; omega
          clear hR
          go_upto_if 61 with fail
          go_cut [13] (fun s13 wx => ∃ X : Int, s13 = .int .i64 X ∧ -9223372036854775808 ≤ X ∧ X ≤ 9223372036854775807 ∧ wr = wx)
          case first =>
            by_cases hxn : x < n
            · obtain ⟨b0, b1⟩ := HV.out x
              obtain ⟨g', o, rfl, hg, hc1⟩ := HL.out x hxn
              have c1 : wr.cell? ⟨g', o + x, none⟩ = some (.int .i64 (V x)) := (HR.out.ra.be.cell (p := ⟨g', o + x, none⟩) hg).trans hc1
              clear hc1
              go_wp2
              go_meet
              exact ⟨V x, rfl, b0, b1, rfl⟩
            · go_wp2
              go_meet
              exact ⟨_, rfl, by omega, by omega, rfl⟩
          case rest =>
            obtain ⟨X, rfl, b0, b1, rfl⟩ := hcut
            cases hz : (bits .and .i64 (X / 64) 1 == 1) with
            | true =>
              have a1 := and7 (X / 128)
              have a2 := and7 (X / 1024)
              by_cases hin2 : X / 128 % 8 < ((N0 + 1 : Nat) : Int) ∧ X / 1024 % 8 < 6
              · obtain ⟨x0, y0⟩ := hin2
                obtain ⟨p, hp⟩ : ∃ p : Nat, X / 128 % 8 = (p : Int) := ⟨(X / 128 % 8).toNat, by omega⟩
                obtain ⟨k, hk⟩ : ∃ k : Nat, X / 1024 % 8 = (k : Int) := ⟨(X / 1024 % 8).toNat, by omega⟩
                rw [hp] at a1
                rw [hk] at a2
                have hpN : p < N0 + 1 := by omega
                have hk6 : k < 6 := by omega
                have hv := HR.out.ra.lo p k
                obtain ⟨v0, v1⟩ := hv
                clear hp hk x0 y0
                go_wp2_with fail
                refine (add_yes _ _ _ _ _ HR.out.ra.cs p k hpN hk6 (by omega)).mono ?_
                rintro e w4 ⟨rfl, hc, ht⟩
                have HR2 := Lib.hid (HR.out.add hc ht)
                clear hc ht
                go_wp2
                go_roundw
                case measure => simp [intOf]; omega
                case rel => exact ⟨x + 1, q, false, by omega, by go_num, rfl, rfl, HD, g, s, _, F, j + 1, by omega, HR2.out⟩
              · have hno : X / 128 % 8 < 0 ∨ ((N0 + 1 : Nat) : Int) ≤ X / 128 % 8 ∨ X / 1024 % 8 < 0 ∨ 6 ≤ X / 1024 % 8 := by omega
                have HNO := Lib.hid hno
                clear hno hin2
                go_wp2_with fail
                refine (add_no _ _ _ _ _ HR.out.ra.cs _ _ HNO.out).mono ?_
                rintro e w4 ⟨rfl, rfl⟩
                go_wp2
                go_roundw
                case measure => simp [intOf]; omega
                case rel => exact ⟨x + 1, q, false, by omega, by go_num, rfl, rfl, HD, g, s, f, F, j, by omega, HR.out⟩
            | false =>
              have hs : ∀ k, k < 6 → Fit (s k) (f q k) := fun k _ => by
                have h1 := HR.out.lo k
                have h2 := HR.out.hi k
                have h3 := sm_lo f HR.out.ra.cs.lo k q
                have h4 := HR.out.ra.cs.lo q k
                have h5 : 0 ≤ sm F k q := by
                  have : ∀ m, 0 ≤ sm F k m := fun m => by
                    induction m with
                    | zero => exact Int.le_refl _
                    | succ m ih => simp only [sm]; have := HR.out.n0 m k; omega
                  exact this q
                unfold Fit
                omega
              have HS := Lib.hid hs
              clear hs
              obtain ⟨d, hd⟩ : ∃ d, decide (q + 1 = N0 + 1) = d := ⟨_, rfl⟩
              have HD2 := Lib.hid hd
              clear hd
              go_wp2_with fail
              refine (step_more rb _ _ _ f s _ q hqn HR.out.rd HR.out.ra.cs HS.out HR.out.ne.1 HR.out.ne.2.1 d HD2.out).mono ?_
              rintro e w4 ⟨rfl, hrd, ht⟩
              have HR2 := Lib.hid (HR.out.step hqn hrd ht)
              clear hrd ht
              go_wp2
              go_roundw
              case measure => simp [intOf]; omega
              case rel => exact ⟨x + 1, q + 1, d, by omega, by go_num, by go_num, rfl, HD2, g, _, f, F, j, by omega, HR2.out⟩
        · rcases (show (x < 60 ∧ d = true) ∨ (¬ x < 60) from by cases d <;> simp_all <;> omega) with ⟨hx6, rfl⟩ | hx6
          · clear hgo
            go_wp2
            go_meet
            exact ⟨q, true, rfl, rfl, HD, g, s, f, F, j, by omega, HR.out⟩
          · clear hgo
            go_wp2
            go_meet
            exact ⟨q, d, rfl, rfl, HD, g, s, f, F, j, by omega, HR.out⟩
    case rest =>
      clear HRB HQ0
      obtain ⟨q, d, rfl, rfl, HD, hR⟩ := hcut
      go_upto_block 4 with fail
      go_cut [10, 11] (fun s10 s11 wx => s10 = .int .i64 ((N0 : Int) + 1) ∧ s11 = .bool true ∧ Hid (∃ g s f F j, Rb w wx (w.heap.size + 1) w.heap.size (N0 + 1) f j sb rb (N0 + 1) g s F))
      case first =>
        go_wp2
        go_loopw [10, 11, 14] (fun v10 v11 v14 wr => ∃ (y q : Nat) (d : Bool), y ≤ N0 + 1 ∧ y ≤ q ∧ v14 = .int .i64 y ∧ v10 = .int .i64 q ∧ v11 = .bool d ∧ Hid (decide (q = N0 + 1) = d) ∧ Hid (∃ g s f F j, j ≤ 80 ∧ Rb w wr (w.heap.size + 1) w.heap.size (N0 + 1) f j sb rb q g s F)) (fun _ _ v _ => N0 + 1 - (intOf v).toNat)
        case atStart => exact ⟨0, q, d, by omega, by omega, rfl, rfl, rfl, HD, hR⟩
        case round =>
          clear hR HD
          obtain ⟨y, q, d, hy, hyq, rfl, rfl, rfl, HD, hR⟩ := hrel
          obtain ⟨g, s, f, F, j, hj, hR⟩ := hR.out
          have HR := Lib.hid hR
          clear hR
          have hq := HR.out.qn
          cases d with
          | false =>
            have hqn : q < N0 + 1 := by have := HD.out; simp at this; omega
            have hs : ∀ k, k < 6 → Fit (s k) (f q k) := fun k _ => by
              have h1 := HR.out.lo k
              have h2 := HR.out.hi k
              have h3 := sm_lo f HR.out.ra.cs.lo k q
              have h4 := HR.out.ra.cs.lo q k
              have h5 : 0 ≤ sm F k q := by
                have : ∀ m, 0 ≤ sm F k m := fun m => by
                  induction m with
                  | zero => exact Int.le_refl _
                  | succ m ih => simp only [sm]; have := HR.out.n0 m k; omega
                exact this q
              unfold Fit
              omega
            have HS := Lib.hid hs
            have hyi : (y : Int) < (N0 : Int) + 1 := by omega
            clear hs
            obtain ⟨d, hd⟩ : ∃ d, decide (q + 1 = N0 + 1) = d := ⟨_, rfl⟩
            have HD2 := Lib.hid hd
            clear hd
            go_wp2_with fail
            refine (step_more rb _ _ _ f s _ q hqn HR.out.rd HR.out.ra.cs HS.out HR.out.ne.1 HR.out.ne.2.1 d HD2.out).mono ?_
            rintro e w4 ⟨rfl, hrd, ht⟩
            have HR2 := Lib.hid (HR.out.step hqn hrd ht)
            clear hrd ht
            go_wp2
            go_roundw
            case measure => simp [intOf]; omega
            case rel => exact ⟨y + 1, q + 1, d, by omega, by omega, by go_num, by go_num, rfl, HD2, g, _, f, F, j, by omega, HR2.out⟩
          | true =>
            have hqn : q = N0 + 1 := by have := HD.out; simpa using this
            have HR3 : Hid (∃ g s f F j, Rb w wr (w.heap.size + 1) w.heap.size (N0 + 1) f j sb rb (N0 + 1) g s F) := ⟨g, s, f, F, j, by have h := HR.out; rw [hqn] at h; exact h⟩
            have HQ : Hid ((q : Int) = (N0 : Int) + 1) := by show (q : Int) = (N0 : Int) + 1; omega
            clear hqn
            by_cases hyi : (y : Int) < (N0 : Int) + 1
            all_goals
              go_wp2
              go_meet
              exact ⟨by rw [HQ.out], rfl, HR3⟩
      case rest =>
        clear hR HD
        obtain ⟨rfl, rfl, hR⟩ := hcut
        obtain ⟨g, s, f, F, j, hR⟩ := hR.out
        have HR := Lib.hid hR
        clear hR
        have hS : ∀ X, Below wc.heap.size wc X → X.cell? ⟨sb, 0, none⟩ = some (.int .i64 (g 0)) ∧ X.cell? ⟨sb, 1, none⟩ = some (.int .i64 (g 1)) ∧ X.cell? ⟨sb, 2, none⟩ = some (.int .i64 (g 2)) ∧ X.cell? ⟨sb, 3, none⟩ = some (.int .i64 (g 3)) ∧ X.cell? ⟨sb, 4, none⟩ = some (.int .i64 (g 4)) ∧ X.cell? ⟨sb, 5, none⟩ = some (.int .i64 (g 5)) := fun X hX =>
          have h := (HR.out.call hX).row
          ⟨h.cell 0, h.cell 1, h.cell 2, h.cell 3, h.cell 4, h.cell 5⟩
        have k1 := hS _ (Below.refl _ _)
        have HS := Lib.hid hS
        have q0 := eq6 0 0 0 0 0 0
        have HB5 : Hid (decide (g 0 ≤ s 0 ∧ g 1 ≤ s 1 ∧ g 2 ≤ s 2 ∧ g 3 ≤ s 3 ∧ g 4 ≤ s 4 ∧ g 5 ≤ s 5) = true) := by
          have h := HR.out.lo
          have h2 := HR.out.was
          show decide _ = true
          rw [decide_eq_true_eq, h2, h2, h2, h2, h2, h2]
          exact ⟨h 0, h 1, h 2, h 3, h 4, h 5⟩
        have HB6 : Hid (decide (s 0 ≤ sm f 0 (N0 + 1) ∧ s 1 ≤ sm f 1 (N0 + 1) ∧ s 2 ≤ sm f 2 (N0 + 1) ∧ s 3 ≤ sm f 3 (N0 + 1) ∧ s 4 ≤ sm f 4 (N0 + 1) ∧ s 5 ≤ sm f 5 (N0 + 1)) = true) := by
          have h := HR.out.hi
          show decide _ = true
          rw [decide_eq_true_eq]
          exact ⟨h 0, h 1, h 2, h 3, h 4, h 5⟩
        clear hS
        go_wp2
        go_region_held3 (fun X => X.cell? ⟨sb, 0, none⟩ = some (.int .i64 (g 0)) ∧ X.cell? ⟨sb, 1, none⟩ = some (.int .i64 (g 1)) ∧ X.cell? ⟨sb, 2, none⟩ = some (.int .i64 (g 2)) ∧ X.cell? ⟨sb, 3, none⟩ = some (.int .i64 (g 3)) ∧ X.cell? ⟨sb, 4, none⟩ = some (.int .i64 (g 4)) ∧ X.cell? ⟨sb, 5, none⟩ = some (.int .i64 (g 5)))
          (first
            | exact k1
            | exact HS.out _ HBb.out
            | exact HS.out _ HBa.out
            | exact HS.out _ HB9.out
            | exact HS.out _ HB8.out
            | exact HS.out _ HB7.out
            | exact HS.out _ HB4.out
            | exact HS.out _ HB3.out
            | exact HS.out _ HB2.out
            | exact HS.out _ HB1.out
            | fail)
          ((first
            | (
                go_at_call 18
                (with_reducible refine (awake_any _).mono ?_)
                rintro e w1 ⟨rfl, hb⟩
                have h1 : Below wc.heap.size wc w1 := Below.trans (by go_grown) hb
                have HB1 := Lib.hid h1
                have M1 := Lib.hid (HR.out.call h1)
                clear hb h1)
            | (
                go_at_call 23
                (with_reducible refine (below_any _ _ _ _ _ _ _ _ _ _ _ _ _ true HB5.out).mono ?_)
                rintro e w3 ⟨rfl, hb⟩
                have h3 : Below wc.heap.size wc w3 := HB2.out.trans (hb.mono HB2.out.size)
                have HB3 := Lib.hid h3
                have M3 := Lib.hid (HR.out.call h3)
                clear hb h3)
            | (
                go_at_call 24
                (with_reducible refine (rsum_any _ _ _ _ _ M3.out.rd).mono ?_)
                rintro e w4 ⟨rfl, hb⟩
                have h4 : Below wc.heap.size wc w4 := HB3.out.trans (hb.mono HB3.out.size)
                have HB4 := Lib.hid h4
                have M4 := Lib.hid (HR.out.call h4)
                clear hb h4)
            | (
                go_at_call 24
                (with_reducible refine (rsum_any _ _ _ _ _ M1.out.rd).mono ?_)
                rintro e w2 ⟨rfl, hb⟩
                have h2 : Below wc.heap.size wc w2 := HB1.out.trans (hb.mono HB1.out.size)
                have HB2 := Lib.hid h2
                clear hb h2)
            | (
                go_at_call 19
                (with_reducible refine (sum_nil _).mono ?_)
                rintro e w9 ⟨rfl, hb⟩
                have h9 : Below wc.heap.size wc w9 := HB8.out.trans (hb.mono HB8.out.size)
                have HB9 := Lib.hid h9
                clear hb h9)
            | (
                go_at_call 19
                (with_reducible refine (sum_any _ _ _ _ _ M4.out.ra.cs).mono ?_)
                rintro e w7 ⟨rfl, hb⟩
                have h7 : Below wc.heap.size wc w7 := HB4.out.trans (hb.mono HB4.out.size)
                have HB7 := Lib.hid h7
                clear hb h7)
            | (
                go_at_call 23
                (with_reducible refine (below_any _ _ _ _ _ _ _ _ _ _ _ _ _ true HB6.out).mono ?_)
                rintro e w8 ⟨rfl, hb⟩
                have h8 : Below wc.heap.size wc w8 := HB7.out.trans (hb.mono HB7.out.size)
                have HB8 := Lib.hid h8
                have M8 := Lib.hid (HR.out.call h8)
                clear hb h8)
            | (
                go_at_call 20
                (with_reducible refine (len_nil _).mono ?_)
                rintro e w' ⟨rfl, rfl⟩)
            | (
                go_at_call 21
                (with_reducible refine (read_any _ _).mono ?_)
                rintro e wa ⟨rfl, hrd, hb⟩
                have ha : Below wc.heap.size wc wa := HB9.out.trans (hb.mono HB9.out.size)
                have HBa := Lib.hid ha
                have HRD := Lib.hid hrd
                clear hb ha hrd)
            | (
                go_at_call 22
                (with_reducible refine (step_nil _ _ _ HRD.out).mono ?_)
                rintro e wb ⟨rfl, m, rfl⟩
                have hbb : Below wc.heap.size wc (wa.drewN m) := below_drewN HBa.out m
                have HBb := Lib.hid hbb
                clear hbb)
            | (
                go_at_call 22
                (with_reducible refine (step_last _ _ _ _ _ _ _ M8.out.rd M8.out.ra.cs).mono ?_)
                rintro e wb ⟨rfl, m, hm⟩
                have hbb : Below wc.heap.size wc wb := hm ▸ below_drewN HB8.out m
                have HB8 := Lib.hid hbb
                clear hbb hm)))
        go_wp2
        go_ret
        exact ⟨rfl, HR.out.ra.be.trans (HBb.out.mono HR.out.ra.be.size)⟩
end Go.Proofs.Ytjciilnbcmaikaa.Co
