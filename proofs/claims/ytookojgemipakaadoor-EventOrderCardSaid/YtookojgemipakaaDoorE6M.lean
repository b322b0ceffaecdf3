/- ref03.Same, of whatever events. -/
import Derived.Test.YtookojgemipakaaDoorE6L
namespace Go.Proofs.YtookojgemipakaaDoor.E6
open Go.RowKit Go.Proofs.YtookojgemipakaaDoor Go.Proofs.YtookojgemipakaaDoor.Ev Go.Proofs.YtookojgemipakaaDoor.Evl Go.Proofs.YtookojgemipakaaDoor.E4
set_option linter.unusedVariables false
set_option maxRecDepth 100000
set_option maxHeartbeats 4000000 in
theorem ref_same (ty key ty' key' : ByteArray) (t q t' q' : Int) (A B : Option Addr) (n m c d : Nat) (L M : List VV) (w : World) (h : VL w w.heap.size (.slice A n c) L) (g : VL w w.heap.size (.slice B m d) M) :
    Calls Tryd.prog 20 #[.agg #[.string ty, .string key, .int .i64 t, .int .i64 q, .slice A n c], .agg #[.string ty', .string key', .int .i64 t', .int .i64 q', .slice B m d]] w fun e w' => e = .returned (.bool (sameE ty key t q L ty' key' t' q' M)) ∧ Below w.heap.size w w' := by
  obtain ⟨b0, h0⟩ : ∃ b, (ty.toList == ty'.toList) = b := ⟨_, rfl⟩
  obtain ⟨b1, h1⟩ : ∃ b, (key.toList == key'.toList) = b := ⟨_, rfl⟩
  obtain ⟨b2, h2⟩ : ∃ b, (t == t') = b := ⟨_, rfl⟩
  obtain ⟨b3, h3⟩ : ∃ b, (q == q') = b := ⟨_, rfl⟩
  have n2 : (t != t') = !b2 := by unfold bne; rw [h2]
  have n3 : (q != q') = !b3 := by unfold bne; rw [h3]
  cases b0 with
  | false =>
    have HNO := Lib.hid (show sameE ty key t q L ty' key' t' q' M = false from by unfold sameE; simp [h0])
    try simp only [Bool.not_true] at n2
    try simp only [Bool.not_false] at n2
    try simp only [Bool.not_true] at n3
    try simp only [Bool.not_false] at n3
    go_enter Tryd.func20, Tryd.ntmps20
    go_wp2
    go_ret
    exact ⟨by rw [HNO.out]; rfl, by go_grown⟩
  | true =>
    cases b1 with
    | false =>
      have HNO := Lib.hid (show sameE ty key t q L ty' key' t' q' M = false from by unfold sameE; simp [h0, h1])
      try simp only [Bool.not_true] at n2
      try simp only [Bool.not_false] at n2
      try simp only [Bool.not_true] at n3
      try simp only [Bool.not_false] at n3
      go_enter Tryd.func20, Tryd.ntmps20
      go_wp2
      go_ret
      exact ⟨by rw [HNO.out]; rfl, by go_grown⟩
    | true =>
      cases b2 with
      | false =>
        have HNO := Lib.hid (show sameE ty key t q L ty' key' t' q' M = false from by unfold sameE; simp [h0, h1, h2])
        try simp only [Bool.not_true] at n2
        try simp only [Bool.not_false] at n2
        try simp only [Bool.not_true] at n3
        try simp only [Bool.not_false] at n3
        go_enter Tryd.func20, Tryd.ntmps20
        go_wp2
        go_ret
        exact ⟨by rw [HNO.out]; rfl, by go_grown⟩
      | true =>
        cases b3 with
        | false =>
          have HNO := Lib.hid (show sameE ty key t q L ty' key' t' q' M = false from by unfold sameE; simp [h0, h1, h2, h3])
          try simp only [Bool.not_true] at n2
          try simp only [Bool.not_false] at n2
          try simp only [Bool.not_true] at n3
          try simp only [Bool.not_false] at n3
          go_enter Tryd.func20, Tryd.ntmps20
          go_wp2
          go_ret
          exact ⟨by rw [HNO.out]; rfl, by go_grown⟩
        | true =>
          have HS := Lib.hid (show sameE ty key t q L ty' key' t' q' M = eqVs L M from by unfold sameE; simp [h0, h1, h2, h3])
          obtain ⟨hn, hnc, hc9⟩ := vl_n h
          obtain ⟨hm, hmd, hd9⟩ := vl_n g
          have H := Lib.hid h
          have G := Lib.hid g
          have HN := Lib.hid hn
          have HM := Lib.hid hm
          clear h g
          by_cases hnm : n = m
          · subst hnm
            clear hn hm
            obtain ⟨W, hW⟩ : ∃ W, (w.alloc (.cells #[.string ty, .string key, .int .i64 t, .int .i64 q, .slice A n c] 24)).alloc (.cells #[.string ty', .string key', .int .i64 t', .int .i64 q', .slice B n d] 24) = W := ⟨_, rfl⟩
            have hR1 : Row W w.heap.size 24 #[.string ty, .string key, .int .i64 t, .int .i64 q, .slice A n c] := by rw [← hW]; exact (Row.made w _ _).alloc _
            have hR2 : Row W (w.heap.size + 1) 24 #[.string ty', .string key', .int .i64 t', .int .i64 q', .slice B n d] := by
              rw [← hW]
              simpa using Row.made (w.alloc (.cells #[.string ty, .string key, .int .i64 t, .int .i64 q, .slice A n c] 24)) 24 #[.string ty', .string key', .int .i64 t', .int .i64 q', .slice B n d]
            have hB : Below w.heap.size w W := by rw [← hW]; exact ((Below.refl _ w).alloc (Nat.le_refl _) _).alloc (by simp) _
            have HB := Lib.hid hB
            have HR := Lib.hid (And.intro hR1 hR2)
            have u0 : W.cell? ⟨w.heap.size, 0, none⟩ = some (.string ty) := (hR1.cell 0).trans rfl
            have v0 : W.cell? ⟨w.heap.size + 1, 0, none⟩ = some (.string ty') := (hR2.cell 0).trans rfl
            have u1 : W.cell? ⟨w.heap.size, 1, none⟩ = some (.string key) := (hR1.cell 1).trans rfl
            have v1 : W.cell? ⟨w.heap.size + 1, 1, none⟩ = some (.string key') := (hR2.cell 1).trans rfl
            have u2 : W.cell? ⟨w.heap.size, 2, none⟩ = some (.int .i64 t) := (hR1.cell 2).trans rfl
            have v2 : W.cell? ⟨w.heap.size + 1, 2, none⟩ = some (.int .i64 t') := (hR2.cell 2).trans rfl
            have u3 : W.cell? ⟨w.heap.size, 3, none⟩ = some (.int .i64 q) := (hR1.cell 3).trans rfl
            have v3 : W.cell? ⟨w.heap.size + 1, 3, none⟩ = some (.int .i64 q') := (hR2.cell 3).trans rfl
            have u4 : W.cell? ⟨w.heap.size, 4, none⟩ = some (.slice A n c) := (hR1.cell 4).trans rfl
            have v4 : W.cell? ⟨w.heap.size + 1, 4, none⟩ = some (.slice B n d) := (hR2.cell 4).trans rfl
            clear hB hR1 hR2
            try simp only [Bool.not_true] at n2
            try simp only [Bool.not_false] at n2
            try simp only [Bool.not_true] at n3
            try simp only [Bool.not_false] at n3
            go_enter Tryd.func20, Tryd.ntmps20
            go_wp2
            try rw [hW]
            clear hW
            clear u0 u1 u2 u3 u4 v0 v1 v2 v3 v4
            go_loopw [5] (fun v wr => ∃ k : Nat, k ≤ n ∧ v = .int .i64 k ∧ Hid (Below w.heap.size w wr) ∧ Hid (eqVs L M = eqVs (L.drop k) (M.drop k)) ∧ Hid (Row wr w.heap.size 24 #[.string ty, .string key, .int .i64 t, .int .i64 q, .slice A n c] ∧ Row wr (w.heap.size + 1) 24 #[.string ty', .string key', .int .i64 t', .int .i64 q', .slice B n d])) (fun v _ => n - (intOf v).toNat)
            case atStart => exact ⟨0, by omega, rfl, HB, Lib.hid rfl, HR⟩
            case round =>
              obtain ⟨k, hk, rfl, hb, HI, hrr⟩ := hrel
              have hr1 := Lib.hid hrr.out.1
              have hr2 := Lib.hid hrr.out.2
              have r4 : wr.cell? ⟨w.heap.size, 4, none⟩ = some (.slice A n c) := (hrr.out.1.cell 4).trans rfl
              have s4 : wr.cell? ⟨w.heap.size + 1, 4, none⟩ = some (.slice B n d) := (hrr.out.2.cell 4).trans rfl
              by_cases hlt : k < n
              · have hki : (k : Int) < (n : Int) := by omega
                have hkL : k < L.length := by rw [HN.out]; exact hlt
                have hkM : k < M.length := by rw [HM.out]; exact hlt
                obtain ⟨x, hx⟩ : ∃ x, L[k]? = some x := ⟨L[k], List.getElem?_eq_getElem hkL⟩
                obtain ⟨y, hy⟩ : ∃ y, M[k]? = some y := ⟨M[k], List.getElem?_eq_getElem hkM⟩
                obtain ⟨g1, o1, rfl, _, p0, p1, p2, p3⟩ := vl_at (H.out.below hb.out hb.out.size) hx
                obtain ⟨g2, o2, rfl, _, q0, q1, q2, q3⟩ := vl_at (G.out.below hb.out hb.out.size) hy
                have HX := Lib.hid hx
                have HY := Lib.hid hy
                obtain ⟨xk, xi, xs, xb⟩ := x
                obtain ⟨yk, yi, ys, yb⟩ := y
                dsimp only at p0 p1 p2 p3 q0 q1 q2 q3
                obtain ⟨d0, e0⟩ : ∃ b, (xk == yk) = b := ⟨_, rfl⟩
                obtain ⟨d1, e1⟩ : ∃ b, (xi == yi) = b := ⟨_, rfl⟩
                obtain ⟨d2, e2⟩ : ∃ b, (xs.toList == ys.toList) = b := ⟨_, rfl⟩
                obtain ⟨d3, e3⟩ : ∃ b, (xb == yb) = b := ⟨_, rfl⟩
                clear hx hy hkL hkM
                cases d0 with
                | false =>
                  have HNO := Lib.hid (show eqVs L M = false from by rw [HI.out, eqVs_step HX.out HY.out]; simp [eqV, e0])
                  go_upto_region 6 with fail
                  go_quiet (fail)
                  go_wp2
                  go_ret
                  exact ⟨by rw [HS.out, HNO.out]; rfl, by first | exact hb.out | exact below_drewN hb.out _⟩
                | true =>
                  cases d1 with
                  | false =>
                    have HNO := Lib.hid (show eqVs L M = false from by rw [HI.out, eqVs_step HX.out HY.out]; simp [eqV, e0, e1])
                    go_upto_region 6 with fail
                    go_quiet (fail)
                    go_wp2
                    go_ret
                    exact ⟨by rw [HS.out, HNO.out]; rfl, by first | exact hb.out | exact below_drewN hb.out _⟩
                  | true =>
                    cases d2 with
                    | false =>
                      have HNO := Lib.hid (show eqVs L M = false from by rw [HI.out, eqVs_step HX.out HY.out]; simp [eqV, e0, e1, e2])
                      go_upto_region 6 with fail
                      go_quiet (fail)
                      go_wp2
                      go_ret
                      exact ⟨by rw [HS.out, HNO.out]; rfl, by first | exact hb.out | exact below_drewN hb.out _⟩
                    | true =>
                      cases d3 with
                      | false =>
                        have HNO := Lib.hid (show eqVs L M = false from by rw [HI.out, eqVs_step HX.out HY.out]; simp [eqV, e0, e1, e2, e3])
                        go_upto_region 6 with fail
                        go_quiet (fail)
                        go_wp2
                        go_ret
                        exact ⟨by rw [HS.out, HNO.out]; rfl, by first | exact hb.out | exact below_drewN hb.out _⟩
                      | true =>
                        have HYES := Lib.hid (show eqVs L M = eqVs (L.drop (k + 1)) (M.drop (k + 1)) from by rw [HI.out, eqVs_step HX.out HY.out]; simp [eqV, e0, e1, e2, e3])
                        go_upto_region 6 with fail
                        go_quiet (fail)
                        go_wp2
                        go_roundw
                        case rel => exact ⟨k + 1, by omega, by go_num, by first | exact hb.out | exact below_drewN hb.out _, Lib.hid HYES.out, Lib.hid (by first | exact ⟨hr1.out, hr2.out⟩ | exact ⟨hr1.out.drewN _, hr2.out.drewN _⟩)⟩
                        case measure => simp [intOf]; omega
              · have hki : ¬ (k : Int) < (n : Int) := by omega
                have HE := Lib.hid (HI.out.trans (eqVs_end (by rw [HN.out]; omega) (by rw [HM.out]; omega)))
                go_wp2
                go_ret
                exact ⟨by rw [HS.out, HE.out]; rfl, hb.out⟩
          · have hni : ((n : Int) == (m : Int)) = false := by simp; omega
            have hnn : decide ((n : Int) = (m : Int)) = false := by simp; omega
            have HE := Lib.hid (eqVs_len (L := L) (M := M) (by rw [HN.out, HM.out]; exact hnm))
            clear hnm hn hm
            try simp only [Bool.not_true] at n2
            try simp only [Bool.not_false] at n2
            try simp only [Bool.not_true] at n3
            try simp only [Bool.not_false] at n3
            go_enter Tryd.func20, Tryd.ntmps20
            go_wp2
            go_ret
            exact ⟨by rw [HS.out, HE.out]; rfl, by go_grown⟩
end Go.Proofs.YtookojgemipakaaDoor.E6
