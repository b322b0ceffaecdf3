/- Whether any parts are a predicate. -/
import Derived.Test.YtlpkeinablekpaaDoorEvlJ2
namespace Go.Proofs.YtlpkeinablekpaaDoor.Evl
open Go.RowKit Go.Proofs.YtlpkeinablekpaaDoor Go.Proofs.YtlpkeinablekpaaDoor.Ev Go.Proofs.YtlpkeinablekpaaDoor.Sch Go.Proofs.YtlpkeinablekpaaDoor.Ty
set_option linter.unusedVariables false
set_option maxRecDepth 100000
set_option maxHeartbeats 2000000 in
theorem own_1q (k i : Int) (s : ByteArray) (b : Bool) (w : World) : Calls Tryd.prog 38 #[.agg #[.int .i64 1, .int .i64 k, .int .i64 i, .string s, .bool b, .string ⟨#[]⟩, .string ⟨#[]⟩]] w (QPost (OkV k i s b) w) := by
  go_enter Tryd.func38, Tryd.ntmps38
  go_wp2_with fail
  refine (const_q k i s b _).mono ?_
  rintro e w1 ⟨r, rfl, hr, hb⟩
  have HB := Lib.hid hb
  have HR := Lib.hid hr
  clear hb hr
  go_wp2
  go_ret
  exact qpost HR.out (((Below.refl _ w).alloc (Nat.le_refl _) _).trans (HB.out.mono (by simp)))
set_option maxHeartbeats 2000000 in
theorem own_2q (v f : ByteArray) (w : World) : Calls Tryd.prog 38 #[.agg #[.int .i64 2, .int .i64 0, .int .i64 0, .string ⟨#[]⟩, .bool false, .string v, .string f]] w (QPost (nameB v.data.toList = true ∧ nameB f.data.toList = true) w) := by
  obtain ⟨r1, h1⟩ : ∃ r, nameB v.data.toList = r := ⟨_, rfl⟩
  obtain ⟨r2, h2⟩ : ∃ r, nameB f.data.toList = r := ⟨_, rfl⟩
  have H1 := Lib.hid h1
  have H2 := Lib.hid h2
  rw [h1, h2]
  clear h1 h2
  cases r1 with
  | false =>
    go_enter Tryd.func38, Tryd.ntmps38
    go_wp2_with fail
    refine (name_is v false _ H1.out).mono ?_
    rintro e w1 ⟨rfl, rfl⟩
    go_wp2
    go_ret
    exact qpost_no (by go_grown)
  | true =>
    go_enter Tryd.func38, Tryd.ntmps38
    go_wp2_with fail
    refine (name_is v true _ H1.out).mono ?_
    rintro e w1 ⟨rfl, rfl⟩
    go_wp2_with fail
    refine (name_is f r2 _ H2.out).mono ?_
    rintro e w1 ⟨rfl, rfl⟩
    go_wp2
    go_ret
    exact qpost (fun h => ⟨trivial, h⟩) (by go_grown)
theorem parts_op {o : Int} (h : 0 ≤ partsI o) (h1 : ¬ o = 1) (h2 : ¬ o = 2) : 3 ≤ o ∧ o ≤ 15 := by
  unfold partsI at h
  rw [if_neg (by omega)] at h
  split at h
  · omega
  · split at h
    · omega
    · omega
theorem own_q (n : Nd) (w : World) : Calls Tryd.prog 38 #[.agg #[.int .i64 n.op, .int .i64 n.k, .int .i64 n.i, .string n.s, .bool n.b, .string n.v, .string n.f]] w (QPost (0 ≤ partsI n.op → OkN n) w) := by
  obtain ⟨op, k, i, s, b, v, f⟩ := n
  have no : ∀ {P : Prop} {e : Ending} {w' : World}, (e = .returned (.bool false) ∧ Below w.heap.size w w') → QPost P w e w' := fun ⟨h, hb⟩ => by subst h; exact qpost_no hb
  have im : ∀ {P Q : Prop} {e : Ending} {w' : World}, (P → Q) → QPost P w e w' → QPost Q w e w' := fun h ⟨r, h1, h2, h3⟩ => ⟨r, h1, fun x => h (h2 x), h3⟩
  dsimp only
  by_cases h1 : op = 1
  · subst h1
    by_cases hv : v.toList = []
    · obtain rfl := bytes_nil hv
      by_cases hf : f.toList = []
      · obtain rfl := bytes_nil hf
        exact (own_1q k i s b w).mono fun _ _ h => im (fun ho _ => .const ho) h
      · exact (own1n_1 k i s b f hf w).mono fun _ _ h => no h
    · exact (own1n_0 k i s b v f hv w).mono fun _ _ h => no h
  · by_cases h2 : op = 2
    · subst h2
      by_cases hk : k = 0
      · subst hk
        by_cases hi : i = 0
        · subst hi
          by_cases hs : s.toList = []
          · obtain rfl := bytes_nil hs
            cases b with
            | true => exact (own2n_3 v f w).mono fun _ _ h => no h
            | false => exact (own_2q v f w).mono fun _ _ h => im (fun ho _ => .field ho.1 ho.2) h
          · exact (own2n_2 s b v f hs w).mono fun _ _ h => no h
        · exact (own2n_1 i s b v f hi w).mono fun _ _ h => no h
      · exact (own2n_0 k i s b v f hk w).mono fun _ _ h => no h
    · have o1 : (op == 1) = false := by simpa using h1
      have o2 : (op == 2) = false := by simpa using h2
      by_cases hk : k = 0
      · subst hk
        by_cases hi : i = 0
        · subst hi
          by_cases hs : s.toList = []
          · obtain rfl := bytes_nil hs
            cases b with
            | true => exact (ownon_3 op o1 o2 v f w).mono fun _ _ h => no h
            | false =>
              by_cases hv : v.toList = []
              · obtain rfl := bytes_nil hv
                by_cases hf : f.toList = []
                · obtain rfl := bytes_nil hf
                  exact (own_op op o1 o2 w).mono fun _ _ ⟨h, hb⟩ => by
                    subst h
                    exact qpost (fun _ hp => by have := parts_op hp h1 h2; exact .op op this.1 this.2) hb
                · exact (ownon_5 op o1 o2 f hf w).mono fun _ _ h => no h
              · exact (ownon_4 op o1 o2 v f hv w).mono fun _ _ h => no h
          · exact (ownon_2 op o1 o2 s b v f hs w).mono fun _ _ h => no h
        · exact (ownon_1 op o1 o2 i s b v f hi w).mono fun _ _ h => no h
      · exact (ownon_0 op o1 o2 k i s b v f hk w).mono fun _ _ h => no h
/-- What was found of the first parts. -/
structure Gk (l : List Nd) (k : Nat) (d : Int) : Prop where
  dp : dep (l.take k) = d
  bd : 0 ≤ d ∧ d ≤ k
  ok : ∀ j (h : j < l.length), j < k → OkN l[j] ∧ partsI l[j].op ≤ dep (l.take j)
theorem Gk.good {l : List Nd} {n : Nat} (h : Gk l n 1) (hn : l.length = n) (h64 : n ≤ 64) : Ty.Good l := by
  subst hn
  have hd := h.dp
  rw [List.take_length] at hd
  exact ⟨h64, fun k hk => (h.ok k hk hk).1, fun k hk => (h.ok k hk hk).2, hd⟩
set_option maxHeartbeats 4000000 in
theorem tmay_any (v : Value) (l : List Nd) (w : World) (hl : Ns w w.heap.size v l) : Calls Tryd.prog 11 #[v] w (QPost (Ty.Good l) w) := by
  have HL := Lib.hid hl
  obtain ⟨A, c, rfl, hnc, hcm, hx0⟩ := hl
  obtain ⟨n, hn⟩ : ∃ n, l.length = n := ⟨_, rfl⟩
  rw [hn] at HL hnc ⊢
  have HN := Lib.hid hn
  clear hx0 hn
  by_cases h64 : n ≤ 64
  · have hd64 : decide ((64 : Int) < (n : Int)) = false := decide_eq_false (by omega)
    have hn64 : ¬ (64 : Int) < (n : Int) := by omega
    go_enter Tryd.func11, Tryd.ntmps11
    go_wp2
    go_loopw [12, 3, 5, 6] (fun v12 v3 s5 s6 wx => ∃ k : Nat, ∃ d : Int, k ≤ n ∧ v12 = .int .i64 k ∧ v3 = .int .i64 d ∧ Hid (Gk l k d) ∧ Hid (Below w.heap.size w wx)) (fun v12 _ _ _ _ => n - (intOf v12).toNat)
    case atStart => exact ⟨0, 0, by omega, rfl, rfl, Lib.hid ⟨rfl, by omega, fun j _ h => absurd h (by omega)⟩, Lib.hid (Below.refl _ _)⟩
    case round =>
      obtain ⟨k, d, hkn, rfl, rfl, HG, HB⟩ := hrel
      obtain ⟨hd0, hd1⟩ := HG.out.bd
      by_cases hlt : k < n
      · have hk1 : (k : Int) < (n : Int) := by omega
        have hkl : k < l.length := by rw [HN.out]; exact hlt
        obtain ⟨A', c', e1, hx1, hx2, h3⟩ := HL.out.below HB.out (Nat.le_refl _)
        injection e1 with e1 e2 e3
        subst e1 e3
        clear e2 hx1 hx2
        obtain ⟨g, o, rfl, hgw, hcl⟩ := h3 k hkl
        have hdt := dep_take hkl
        rw [HG.out.dp] at hdt
        obtain ⟨nd, hnd⟩ : ∃ nd, l[k] = nd := ⟨_, rfl⟩
        have HND := Lib.hid hnd
        rw [hnd] at hcl hdt
        obtain ⟨op, kd, i, s, b, vv, ff⟩ := nd
        obtain ⟨p, hp⟩ : ∃ p, partsI op = p := ⟨_, rfl⟩
        have hp2 : p ≤ 2 := by
          rw [← hp]; unfold partsI
          split
          · omega
          · split
            · omega
            · split <;> omega
        have hpm : -1 ≤ p := by
          rw [← hp]; unfold partsI
          split
          · omega
          · split
            · omega
            · split <;> omega
        dsimp only at hdt
        rw [hp] at hdt
        have HP := Lib.hid hp
        have HDT := Lib.hid hdt
        have c0 := hcl 0 (.int .i64 op) rfl
        have c1 := hcl 1 (.int .i64 kd) rfl
        have c2 := hcl 2 (.int .i64 i) rfl
        have c3 := hcl 3 (.string s) rfl
        have c4 := hcl 4 (.bool b) rfl
        have c5 := hcl 5 (.string vv) rfl
        have c6 := hcl 6 (.string ff) rfl
        simp only [Nat.add_zero] at c0
        clear hcl h3 hnd hp hdt
        obtain ⟨V, rfl⟩ : ∃ V, V = wr := ⟨_, rfl⟩
        have hBV : Below V.heap.size V (V.alloc (.cells #[.int .i64 op, .int .i64 kd, .int .i64 i, .string s, .bool b, .string vv, .string ff] 25)) := (Below.refl _ V).alloc (Nat.le_refl _) _
        have HBV := Lib.hid (HB.out.trans (hBV.mono HB.out.size))
        clear hBV
        by_cases hq : p < 0
        · have hq1 : decide (p < 0) = true := decide_eq_true hq
          go_wp2_with fail
          refine (parts_is op p _ HP.out).mono ?_
          rintro e w1 ⟨rfl, rfl⟩
          go_wp2
          go_ret
          exact qpost_no (by first | exact HBV.out | exact HB.out)
        · have hq1 : decide (p < 0) = false := decide_eq_false hq
          by_cases hqd : d < p
          · have hq2 : decide (d < p) = true := decide_eq_true hqd
            go_wp2_with fail
            refine (parts_is op p _ HP.out).mono ?_
            rintro e w1 ⟨rfl, rfl⟩
            go_wp2
            go_ret
            exact qpost_no (by first | exact HBV.out | exact HB.out)
          · have hq2 : decide (d < p) = false := decide_eq_false hqd
            go_wp2_with fail
            refine (parts_is op p _ HP.out).mono ?_
            rintro e w1 ⟨rfl, rfl⟩
            go_wp2_with fail
            refine (own_q ⟨op, kd, i, s, b, vv, ff⟩ _).mono ?_
            rintro e w2 ⟨r, rfl, hr, hb2⟩
            have HB2 := Lib.hid (HBV.out.trans (hb2.mono HBV.out.size))
            have HR := Lib.hid hr
            clear hb2 hr
            cases r with
            | false =>
              go_wp2
              go_ret
              exact qpost_no HB2.out
            | true =>
              have hok : OkN ⟨op, kd, i, s, b, vv, ff⟩ := HR.out rfl (by dsimp only; rw [HP.out]; omega)
              have HG2 : Hid (Gk l (k + 1) (d + (1 - p))) := Lib.hid ⟨HDT.out, by omega, fun j hj hjk => by
                by_cases hje : j < k
                · exact HG.out.ok j hj hje
                · obtain rfl : j = k := by omega
                  rw [HND.out]
                  refine ⟨hok, ?_⟩
                  dsimp only
                  rw [HP.out, HG.out.dp]
                  omega⟩
              clear hok
              go_wp2
              go_roundw
              case rel => exact ⟨k + 1, d + (1 - p), by omega, by go_num, rfl, HG2, HB2⟩
              case measure => simp [intOf]; omega
      · obtain rfl : k = n := by omega
        have hk1 : ¬ (k : Int) < (k : Int) := by omega
        by_cases h1 : d = 1
        · subst h1
          go_wp2
          go_ret
          exact qpost (fun _ => HG.out.good HN.out h64) HB.out
        · have hd1' : (d == 1) = false := by simpa using h1
          clear h1
          go_wp2
          go_ret
          exact qpost_no HB.out
  · have hd64 : decide ((64 : Int) < (n : Int)) = true := decide_eq_true (by omega)
    have hn64 : (64 : Int) < (n : Int) := by omega
    go_enter Tryd.func11, Tryd.ntmps11
    go_wp2
    go_ret
    exact qpost_no (Below.refl _ _)
end Go.Proofs.YtlpkeinablekpaaDoor.Evl
