/- The law's least of a list of stamps. -/
import Derived.Test.YtbjkeclfcccilaaHpP
import Derived.BigQuiet
namespace Go.Proofs.Ytbjkeclfcccilaa.Hp
open Go.RowKit Go.Proofs.Ytbjkeclfcccilaa
set_option linter.unusedVariables false
set_option maxRecDepth 100000
set_option maxHeartbeats 4000000 in
theorem least_any (v : Value) (ob : Option Nat) (m : List St) (w : World) (h : Sl w v ob m) (h64 : m.length ≤ 65536) :
    Calls Try.prog 12 #[v] w fun e w' => e = .returned (.int .i64 (lk m m.length)) ∧ Below w.heap.size w w' := by
  obtain ⟨A, c, rfl, h1, h2⟩ := h.form
  have h3 : c ≤ 9223372036854775807 := by unfold maxLen at h2; omega
  have H := Lib.hid h
  obtain ⟨n, hn⟩ : ∃ n, m.length = n := ⟨_, rfl⟩
  rw [hn] at h1 h64 ⊢
  have HN := Lib.hid hn
  clear h h2 hn
  go_enter Try.func12, Try.ntmps12
  go_wp2
  go_loopw [3, 4] (fun s3 s4 wr => ∃ i : Nat, i ≤ n ∧ s4 = .int .i64 i ∧ Hid (s3 = .int .i64 (lk m i)) ∧ Hid (Below w.heap.size w wr)) (fun _ s4 _ => n - (intOf s4).toNat)
  case atStart => exact ⟨0, Nat.zero_le _, rfl, Lib.hid rfl, Lib.hid (Below.refl _ _)⟩
  case round =>
    obtain ⟨i, hin, rfl, hs, hd⟩ := hrel
    have hd := hd.out
    obtain ⟨V, rfl⟩ : ∃ V, V = wr := ⟨_, rfl⟩
    have HV : Hid (Sl V (.slice A n c) ob m) := Lib.hid (by have := H.out.turns (Turns.of_below hd) (fun _ _ x => x); rw [HN.out] at this; unfold Sl; rw [HN.out]; exact this)
    have HD := Lib.hid hd
    clear hd
    have e3 := hs.out
    clear hs
    by_cases hlt : i < n
    · have hii : (i : Int) < (n : Int) := by omega
      obtain ⟨g, o, cap, e, hob, k1, k2, hcl⟩ := HV.out.at (by rw [HN.out]; omega)
      rw [HN.out] at k1
      injection e with e1 e2 e4
      subst e1 e4
      obtain ⟨i0, i1, i2⟩ := hcl i (by rw [HN.out]; exact hlt)
      rcases lk_spec m i with ⟨rfl, hk⟩ | ⟨h0, k, hki, hk, _⟩
      · have hnew : lk m 1 = ((0 : Nat) : Int) := by unfold lk; rw [if_pos (.inl (by rw [hk]; decide))]
        have HNEW := Lib.hid hnew
        rw [hk] at e3
        subst e3
        clear hk hnew hcl e2 hob
        go_upto_region 5 with fail
        try simp only [List.append_eq, List.cons_append, List.nil_append]
        go_quiet (fail)
        go_wp2
        go_roundw
        case rel => exact ⟨1, by omega, by go_num, Lib.hid (by rw [HNEW.out]), Lib.hid (below_drewN HD.out _)⟩
        case measure => simp [intOf]; omega
      · obtain ⟨j0, j1, j2⟩ := hcl k (by rw [HN.out]; omega)
        obtain ⟨x, hx⟩ : ∃ x, gt m i = x := ⟨_, rfl⟩
        obtain ⟨y, hy⟩ : ∃ y, gt m k = y := ⟨_, rfl⟩
        have hyes : lt x y → lk m (i + 1) = (i : Int) := fun h => by
          unfold lk
          rw [hk, if_pos (.inr (by rw [hx, show ((k : Int)).toNat = k from by omega, hy]; exact h))]
        have hno : ¬ lt x y → lk m (i + 1) = (k : Int) := fun h => by
          unfold lk
          rw [hk, if_neg]
          rintro (g | g)
          · omega
          · rw [hx, show ((k : Int)).toNat = k from by omega, hy] at g; exact h g
        have HYES := Lib.hid hyes
        have HNO := Lib.hid hno
        rw [hx] at i0 i1 i2
        rw [hy] at j0 j1 j2
        rw [hk] at e3
        subst e3
        have hk0 : ¬ (k : Int) < 0 := by omega
        have hkd : decide ((k : Int) < 0) = false := decide_eq_false hk0
        have hkn : (k : Int) < (n : Int) := by omega
        obtain ⟨xt, xq, xa⟩ := x
        obtain ⟨yt, yq, ya⟩ := y
        simp only at i0 i1 i2 j0 j1 j2
        clear hk hyes hno hcl e2 hob hx hy
        by_cases ht : xt < yt
        · have td : decide (xt < yt) = true := decide_eq_true ht
          go_upto_region 5 with fail
          try simp only [List.append_eq, List.cons_append, List.nil_append]
          go_quiet (fail)
          go_wp2
          go_roundw
          case rel => exact ⟨i + 1, by omega, by go_num, Lib.hid (by rw [HYES.out (.inl ht)]), Lib.hid (below_drewN HD.out _)⟩
          case measure => simp [intOf]; omega
        · have td : decide (xt < yt) = false := decide_eq_false ht
          by_cases hte : xt = yt
          · subst hte
            by_cases hq : xq < yq
            · have qd : decide (xq < yq) = true := decide_eq_true hq
              go_upto_region 5 with fail
              try simp only [List.append_eq, List.cons_append, List.nil_append]
              go_quiet (fail)
              go_wp2
              go_roundw
              case rel => exact ⟨i + 1, by omega, by go_num, Lib.hid (by rw [HYES.out (.inr ⟨rfl, .inl hq⟩)]), Lib.hid (below_drewN HD.out _)⟩
              case measure => simp [intOf]; omega
            · have qd : decide (xq < yq) = false := decide_eq_false hq
              by_cases hqe : xq = yq
              · subst hqe
                by_cases ha : xa < ya
                · have ad : decide (xa < ya) = true := decide_eq_true ha
                  go_upto_region 5 with fail
                  try simp only [List.append_eq, List.cons_append, List.nil_append]
                  go_quiet (fail)
                  go_wp2
                  go_roundw
                  case rel => exact ⟨i + 1, by omega, by go_num, Lib.hid (by rw [HYES.out (.inr ⟨rfl, .inr ⟨rfl, ha⟩⟩)]), Lib.hid (below_drewN HD.out _)⟩
                  case measure => simp [intOf]; omega
                · have ad : decide (xa < ya) = false := decide_eq_false ha
                  have HN2 := Lib.hid (HNO.out (by unfold lt; simp; omega))
                  go_upto_region 5 with fail
                  try simp only [List.append_eq, List.cons_append, List.nil_append]
                  go_quiet (fail)
                  go_wp2
                  go_roundw
                  case rel => exact ⟨i + 1, by omega, by go_num, Lib.hid (by rw [HN2.out]), Lib.hid (below_drewN HD.out _)⟩
                  case measure => simp [intOf]; omega
              · have qb : (xq == yq) = false := by simpa using hqe
                have HN2 := Lib.hid (HNO.out (by unfold lt; simp; omega))
                go_upto_region 5 with fail
                try simp only [List.append_eq, List.cons_append, List.nil_append]
                go_quiet (fail)
                go_wp2
                go_roundw
                case rel => exact ⟨i + 1, by omega, by go_num, Lib.hid (by rw [HN2.out]), Lib.hid (below_drewN HD.out _)⟩
                case measure => simp [intOf]; omega
          · have tb : (xt == yt) = false := by simpa using hte
            have HN2 := Lib.hid (HNO.out (by unfold lt; simp; omega))
            go_upto_region 5 with fail
            try simp only [List.append_eq, List.cons_append, List.nil_append]
            go_quiet (fail)
            go_wp2
            go_roundw
            case rel => exact ⟨i + 1, by omega, by go_num, Lib.hid (by rw [HN2.out]), Lib.hid (below_drewN HD.out _)⟩
            case measure => simp [intOf]; omega
    · obtain rfl : i = n := by omega
      subst e3
      go_wp2
      go_ret
      exact ⟨rfl, HD.out⟩
end Go.Proofs.Ytbjkeclfcccilaa.Hp
