/- Keys; whether an event is of a type; what is wrong with an event. -/
import Derived.Test.YtookojgemipakaaDoorOrEvl
import Derived.Test.YtookojgemipakaaDoorOrSf
import Derived.Deep.CutBlock
import Derived.Deep.RegionLaw
namespace Go.Proofs.YtookojgemipakaaDoor.E4
open Go.RowKit Go.Proofs.YtookojgemipakaaDoor Go.Proofs.YtookojgemipakaaDoor.Ev Go.Proofs.YtookojgemipakaaDoor.Sch Go.Proofs.YtookojgemipakaaDoor.Ty Go.Proofs.YtookojgemipakaaDoor.Evl
set_option linter.unusedVariables false
set_option maxRecDepth 100000
def keyB (s : ByteArray) : Bool := decide (1 ≤ s.size) && decide (s.size ≤ 32)
theorem size_zero {s : ByteArray} (h : ¬ s.toList = []) : 1 ≤ s.size := by
  rcases Nat.eq_zero_or_pos s.size with h0 | h0
  · refine absurd ?_ h
    obtain ⟨⟨l⟩⟩ := s
    have : l.length = 0 := h0
    obtain rfl := List.length_eq_zero_iff.1 this
    simp [ByteArray.toList_eq]
  · exact h0
theorem key_any (s : ByteArray) (w : World) : Calls Tryd.prog 12 #[.string s] w fun e w' => e = .returned (.bool (keyB s)) ∧ Below w.heap.size w w' := by
  by_cases hs : s.toList = []
  · obtain rfl := bytes_nil hs
    go_enter Tryd.func12, Tryd.ntmps12
    go_wp2
    go_ret
    exact ⟨rfl, Below.refl _ _⟩
  · have h1 : (s.toList == []) = false := beq_eq_false_iff_ne.2 hs
    have h2 := size_zero hs
    obtain ⟨b, hb⟩ : ∃ b, decide (s.size ≤ 32) = b := ⟨_, rfl⟩
    have hb2 : decide ((s.size : Int) ≤ 32) = b := by rw [← hb]; exact decide_eq_decide.2 (by omega)
    have HR : Hid (keyB s = b) := by rw [← hb]; show _ = _; unfold keyB; rw [decide_eq_true h2]; rfl
    clear hb
    go_enter Tryd.func12, Tryd.ntmps12
    go_wp2
    go_ret
    exact ⟨by rw [HR.out]; rfl, Below.refl _ _⟩
theorem vmay_yes {k i : Int} {s : ByteArray} {b : Bool} (h : OkM k i s b) (w : World) : Calls Tryd.prog 64 #[.agg #[.int .i64 k, .int .i64 i, .string s, .bool b]] w fun e w' => e = .returned (.bool true) ∧ Below w.heap.size w w' := by
  rcases h with ⟨rfl, rfl, rfl⟩ | ⟨rfl, rfl, rfl, hz⟩ | ⟨rfl, rfl, rfl⟩
  · exact may_1 i w
  · exact may_2 s hz w
  · exact may_3 b w
theorem vmay_is {k i : Int} {s : ByteArray} {b r : Bool} (h : r = true ↔ OkM k i s b) (w : World) : Calls Tryd.prog 64 #[.agg #[.int .i64 k, .int .i64 i, .string s, .bool b]] w fun e w' => e = .returned (.bool r) ∧ Below w.heap.size w w' := by
  cases r with
  | true => exact vmay_yes (h.1 rfl) w
  | false =>
    refine (vmay_q k i s b w).mono ?_
    rintro e w' ⟨r, rfl, h1, h2⟩
    cases r with
    | true => exact absurd (h.2 (h1 rfl)) (by simp)
    | false => exact ⟨rfl, h2⟩
/-- A value is of a field. -/
def fits (f : Fld) (v : VV) : Prop := OkM v.k v.i v.s v.b ∧ v.k = f.2
/-- Values are of the fields. -/
def fitsAll (fs : List Fld) (vs : List VV) : Prop := fs.length = vs.length ∧ ∀ k (h1 : k < fs.length) (h2 : k < vs.length), fits fs[k] vs[k]
/-- An event is of a type that there is. -/
def TypedP (ts : List Ty) (ty : ByteArray) (vs : List VV) : Prop := ∃ (i : Nat) (n' : ByteArray) (fs : List Fld), idx (ts.map Prod.fst) ty = i ∧ ts[i]? = some (n', fs) ∧ fitsAll fs vs
theorem typedP_no {ts : List Ty} {ty : ByteArray} {vs : List VV} (h : idx (ts.map Prod.fst) ty < 0) : ¬ TypedP ts ty vs := fun ⟨i, _, _, e, _, _⟩ => by omega
theorem typedP_at {ts : List Ty} {ty n' : ByteArray} {vs : List VV} {fs : List Fld} {i : Nat} (h : idx (ts.map Prod.fst) ty = i) (ht : ts[i]? = some (n', fs)) : TypedP ts ty vs ↔ fitsAll fs vs :=
  ⟨fun ⟨j, m', gs, e, e2, hf⟩ => by
    obtain rfl : j = i := by omega
    rw [e2] at ht
    cases ht
    exact hf, fun hf => ⟨i, n', fs, h, ht, hf⟩⟩
/-- What holds within the loop over an event's values. -/
structure Tw (w wr : World) (b5 : Nat) (A2 : Option Addr) (m c2 : Nat) (n' : ByteArray) (fs : List Fld) : Prop where
  be : Below w.heap.size w wr
  row : Row wr b5 67 #[.string n', .slice A2 m c2]
  fs : Fs wr wr.heap.size (.slice A2 m c2) fs
theorem Tw.call {w wr w' : World} {b5 : Nat} {A2 : Option Addr} {m c2 : Nat} {n' : ByteArray} {fs : List Fld} (h : Tw w wr b5 A2 m c2 n' fs) (hb : Below wr.heap.size wr w') : Tw w w' b5 A2 m c2 n' fs :=
  ⟨h.be.trans (hb.mono h.be.size), h.row.below hb h.row.lt, h.fs.below hb hb.size⟩
def upTo (fs : List Fld) (vs : List VV) (m : Nat) : Prop := ∀ k (h1 : k < fs.length) (h2 : k < vs.length), k < m → fits fs[k] vs[k]
set_option maxHeartbeats 4000000 in
theorem typed_any (p : Option Addr) (ts : List Ty) (ty key : ByteArray) (t q : Int) (A : Option Addr) (n c : Nat) (vs : List VV) (w : World) (hs : Sc w w.heap.size p ts) (hv : VL w w.heap.size (.slice A n c) vs) (hfl : ∀ t ∈ ts, t.2.length ≤ 1000000) (r : Bool) (hr : r = true ↔ TypedP ts ty vs) :
    Calls Tryd.prog 35 #[.pointer p, .agg #[.string ty, .string key, .int .i64 t, .int .i64 q, .slice A n c]] w fun e w' => e = .returned (.bool r) ∧ Below w.heap.size w w' := by
  have hX : Below w.heap.size w (w.alloc (.cells #[.string ty, .string key, .int .i64 t, .int .i64 q, .slice A n c] 24)) := (Below.refl _ w).alloc (Nat.le_refl _) _
  have HX := Lib.hid hX
  have HS := Lib.hid (hs.below hX hX.size)
  have HV := Lib.hid hv
  have HR := Lib.hid hr
  have HRW : Hid (Row (w.alloc (.cells #[.string ty, .string key, .int .i64 t, .int .i64 q, .slice A n c] 24)) w.heap.size 24 #[.string ty, .string key, .int .i64 t, .int .i64 q, .slice A n c]) := Lib.hid (Row.made w _ _)
  by_cases h0 : idx (ts.map Prod.fst) ty < 0
  · have hF := Lib.hid (find_no p ts ty _ HS.out h0)
    have hr0 : r = false := by
      cases r with
      | true => exact absurd (hr.1 rfl) (typedP_no h0)
      | false => rfl
    subst hr0
    clear hs hv hfl hr hX h0
    go_enter Tryd.func35, Tryd.ntmps35
    go_wp2_with fail
    refine hF.out.mono ?_
    rintro e w1 ⟨rfl, hb1⟩
    have HB1 := Lib.hid (HX.out.trans (hb1.mono HX.out.size))
    clear hb1
    go_wp2
    go_ret
    exact ⟨rfl, HB1.out.alloc HB1.out.size _⟩
  · obtain ⟨i, hi⟩ : ∃ i : Nat, idx (ts.map Prod.fst) ty = i := ⟨(idx (ts.map Prod.fst) ty).toNat, by omega⟩
    have hil : i < ts.length := by have := (idx_lt (l := ts.map Prod.fst) (nm := ty)).1; rw [List.length_map] at this; omega
    obtain ⟨⟨n', fs⟩, hti⟩ : ∃ x, ts[i] = x := ⟨_, rfl⟩
    have ht? : ts[i]? = some (n', fs) := by rw [List.getElem?_eq_getElem hil, hti]
    have hfl1 : fs.length ≤ 1000000 := by have := hfl _ (List.getElem_mem hil); rw [hti] at this; exact this
    have hF := Lib.hid (find_yes p ts ty i fs _ HS.out hi ht? hfl1)
    have HP := Lib.hid (typedP_at (vs := vs) hi ht?)
    obtain ⟨A', c', e1, hvc, hcm, _⟩ := hv
    injection e1 with e1 e2 e3
    subst e1 e3
    have HN := Lib.hid e2
    clear hs hfl hr hX h0 hi hil hti ht? e2
    go_enter Tryd.func35, Tryd.ntmps35
    go_wp2_with fail
    refine hF.out.mono ?_
    rintro e w1 ⟨v2, rfl, hfs, hb1⟩
    have HFS := Lib.hid hfs
    obtain ⟨A2, c2, rfl, hfc, hfm, _⟩ := hfs
    have HR1 := Lib.hid (HRW.out.below hb1 HRW.out.lt)
    have hb2 : Below w.heap.size w (w1.alloc (.cells #[.string n', .slice A2 fs.length c2] 67)) := (HX.out.trans (hb1.mono HX.out.size)).alloc (Nat.le_trans HX.out.size hb1.size) _
    obtain ⟨m, hm⟩ : ∃ m, fs.length = m := ⟨_, rfl⟩
    have HM := Lib.hid hm
    rw [hm] at hfc hfl1 hb2 HFS ⊢
    have hFs : Fs (w1.alloc (.cells #[.string n', .slice A2 m c2] 67)) (w1.alloc (.cells #[.string n', .slice A2 m c2] 67)).heap.size (.slice A2 m c2) fs :=
      HFS.out.keep fun g hg hs => ⟨Below.heap_alloc w1 _ g hg, by rw [World.size_alloc]; omega⟩
    have HT0 : Hid (Tw w (w1.alloc (.cells #[.string n', .slice A2 m c2] 67)) w1.heap.size A2 m c2 n' fs) := Lib.hid ⟨hb2, Row.made w1 _ _, hFs⟩
    have e4 : w1.cell? ⟨w.heap.size, 4, none⟩ = some (.slice A n c) := (HR1.out.cell 4).trans rfl
    have hlt1 := HR1.out.lt
    clear hb1 hb2 hFs HFS hF HR1 hm
    by_cases hmn : m = n
    · have hmz : ((m : Int) == (n : Int)) = true := by rw [hmn]; simp
      have HMN := Lib.hid hmn
      have hmz2 : ((m : Int) != (n : Int)) = false := by rw [hmn]; simp
      clear hmn
      go_wp2
      try simp only [hmz2]
      go_loopw [30, 4, 7, 8] (fun v30 v4 v7 v8 wr => ∃ k : Nat, k ≤ n ∧ v30 = .int .i64 k ∧ Hid (Tw w wr w1.heap.size A2 m c2 n' fs) ∧ Hid (upTo fs vs k)) (fun v30 _ _ _ _ => n - (intOf v30).toNat)
      case atStart => exact ⟨0, by omega, rfl, HT0, Lib.hid (fun _ _ _ h => absurd h (by omega))⟩
      case round =>
        clear HT0
        obtain ⟨k, hk, rfl, hT, hU⟩ := hrel
        by_cases hlt : k < n
        · have hkz : (k : Int) < (n : Int) := by omega
          have hkv : k < vs.length := by rw [← HN.out]; exact hlt
          have hkf : k < fs.length := by rw [HM.out, HMN.out]; exact hlt
          obtain ⟨A', c', e1, _, _, h3⟩ := HV.out.below hT.out.be (Nat.le_refl _)
          injection e1 with e1 e2 e3
          subst e1 e3
          obtain ⟨g, o, rfl, hg, hc⟩ := h3 k hkv
          obtain ⟨⟨xk, xi, xs, xb⟩, hx⟩ : ∃ x, vs[k] = x := ⟨_, rfl⟩
          rw [hx] at hc
          have c0 := hc 0 _ rfl
          have c1 := hc 1 _ rfl
          have c2' := hc 2 _ rfl
          have c3 := hc 3 _ rfl
          simp only [Nat.add_zero] at c0
          dsimp only at c0 c1 c2' c3
          obtain ⟨A3, c3', e4', _, _, h4⟩ := hT.out.fs
          injection e4' with e5 e6 e7
          subst e5 e7
          obtain ⟨g2, o2, rfl, hg2, _, d1⟩ := h4 k hkf
          obtain ⟨⟨fn, fk⟩, hf⟩ : ∃ x, fs[k] = x := ⟨_, rfl⟩
          rw [hf] at d1
          dsimp only at d1
          have HXV := Lib.hid hx
          have HXF := Lib.hid hf
          have HT := Lib.hid (hT.out.call ((Below.refl _ wr).alloc (Nat.le_refl _) (.cells #[.int .i64 xk, .int .i64 xi, .string xs, .bool xb] 33)))
          have hS : ∀ X, Below (wr.heap.size + 1) (wr.alloc (.cells #[.int .i64 xk, .int .i64 xi, .string xs, .bool xb] 33)) X → X.cell? ⟨wr.heap.size, 0, none⟩ = some (.int .i64 xk) ∧ X.cell? ⟨wr.heap.size, 1, none⟩ = some (.int .i64 xi) ∧ X.cell? ⟨wr.heap.size, 2, none⟩ = some (.string xs) ∧ X.cell? ⟨wr.heap.size, 3, none⟩ = some (.bool xb) ∧ X.cell? ⟨w1.heap.size, 1, none⟩ = some (.slice (some ⟨g2, o2, none⟩) m c2) ∧ X.cell? ⟨g2, o2 + k * 2 + 1, none⟩ = some (.int .i64 fk) := fun X h => by
            obtain ⟨q0, q1, q2, q3⟩ := v4_box wr xk xi xs xb h
            have hlr := hT.out.row.lt
            refine ⟨q0, q1, q2, q3, (h.cell (p := ⟨w1.heap.size, 1, none⟩) (by show w1.heap.size < wr.heap.size + 1; omega)).trans ?_, (h.cell (p := ⟨g2, o2 + k * 2 + 1, none⟩) (by show g2 < wr.heap.size + 1; omega)).trans ?_⟩
            · exact ((hT.out.row.alloc _).cell 1).trans rfl
            · exact ((Below.refl wr.heap.size wr).alloc (Nat.le_refl _) _).cell (p := ⟨g2, o2 + k * 2 + 1, none⟩) hg2 |>.trans d1
          have k1 := hS _ (Below.refl _ _)
          obtain ⟨k0, k1, k2, k3, k4, k5⟩ := k1
          have HS := Lib.hid hS
          have HWZ : Hid (wr.heap.size + 1 = (wr.alloc (.cells #[.int .i64 xk, .int .i64 xi, .string xs, .bool xb] 33)).heap.size) := by show wr.heap.size + 1 = _; simp
          have hkm : (k : Int) < (m : Int) := by rw [HMN.out]; exact hkz
          clear h3 hc hx hf h4 e2 e6 d1 hT hS
          go_upto_region 7 with fail
          obtain ⟨W, hW⟩ : ∃ W, (wr.alloc (.cells #[.int .i64 xk, .int .i64 xi, .string xs, .bool xb] 33)) = W := ⟨_, rfl⟩
          rw [hW] at k0 k1 k2 k3 k4 k5 HS HWZ HT ⊢
          clear hW
          have hgo : (¬ OkM xk xi xs xb ∨ ¬ xk = fk) → r = false := fun hno => by
            cases r with
            | true =>
              have h1 := (HP.out.1 (HR.out.1 rfl)).2 k hkf hkv
              rw [HXV.out, HXF.out] at h1
              rcases hno with h2 | h2
              · exact absurd h1.1 h2
              · exact absurd h1.2 h2
            | false => rfl
          by_cases hok : OkM xk xi xs xb
          · have HMY := Lib.hid (fun X => vmay_is (r := true) ⟨fun _ => hok, fun _ => rfl⟩ X)
            by_cases hkk : xk = fk
            · subst hkk
              have HFT := Lib.hid (show fits fs[k] vs[k] by rw [HXV.out, HXF.out]; exact ⟨hok, rfl⟩)
              have hne : (xk != xk) = false := by simp
              clear hgo hok
              first | go_region_law (
              (go_simp
               go_at_call 64
               refine (HMY.out _).mono ?_
               rintro e w3 ⟨rfl, hb⟩
               have hb3 := ((Below.refl _ W).drew.trans (hb.mono (Nat.le_refl _)))
               obtain ⟨d0, -, -, -, d5, d6⟩ := HS.out _ (by rw [HWZ.out]; exact hb3)
               have HF := Lib.hid hb3
               clear hb hb3)) | fail
              all_goals
                have HT2 := Lib.hid (HT.out.call HF.out)
                go_wp2
                go_roundw
                case rel => exact ⟨k + 1, by omega, by go_num, HT2.out, Lib.hid (fun j h1 h2 h3 => by
                  rcases Nat.lt_or_ge j k with h | h
                  · exact hU.out j h1 h2 h
                  · obtain rfl : j = k := by omega
                    exact HFT.out)⟩
                case measure => simp [intOf]; omega
            · have hr0 := hgo (.inr hkk)
              subst hr0
              have hne : (xk != fk) = true := by simp [hkk]
              have hne2 : (xk == fk) = false := by simp [hkk]
              clear hgo hok hkk
              first | go_region_law (
              (go_simp
               go_at_call 64
               refine (HMY.out _).mono ?_
               rintro e w3 ⟨rfl, hb⟩
               have hb3 := ((Below.refl _ W).drew.trans (hb.mono (Nat.le_refl _)))
               obtain ⟨d0, -, -, -, d5, d6⟩ := HS.out _ (by rw [HWZ.out]; exact hb3)
               have HF := Lib.hid hb3
               clear hb hb3)) | fail
              all_goals
                have HT2 := Lib.hid (HT.out.call HF.out)
                go_wp2
                go_ret
                exact ⟨rfl, HT2.out.be⟩
          · have hr0 := hgo (.inl hok)
            subst hr0
            have HMY := Lib.hid (fun X => vmay_is (r := false) ⟨fun h => absurd h (by simp), fun h => absurd h hok⟩ X)
            clear hgo hok
            first | go_region_law (
              (go_simp
               go_at_call 64
               refine (HMY.out _).mono ?_
               rintro e w3 ⟨rfl, hb⟩
               have hb3 := ((Below.refl _ W).drew.trans (hb.mono (Nat.le_refl _)))
               obtain ⟨d0, -, -, -, d5, d6⟩ := HS.out _ (by rw [HWZ.out]; exact hb3)
               have HF := Lib.hid hb3
               clear hb hb3)) | fail
            all_goals
              have HT2 := Lib.hid (HT.out.call HF.out)
              go_wp2
              go_ret
              exact ⟨rfl, HT2.out.be⟩
        · obtain rfl : k = n := by omega
          have hkz : ¬ (k : Int) < (k : Int) := by omega
          have hr1 : r = true := HR.out.2 (HP.out.2 ⟨by rw [HM.out, HMN.out, HN.out], fun j h1 h2 => hU.out j h1 h2 (by rw [HN.out]; exact h2)⟩)
          subst hr1
          go_wp2
          go_ret
          exact ⟨rfl, hT.out.be⟩
    · have hmz : ((m : Int) == (n : Int)) = false := by simp; omega
      have hr0 : r = false := by
        cases r with
        | true => exact absurd ((HM.out.symm.trans (HP.out.1 (HR.out.1 rfl)).1).trans HN.out.symm) hmn
        | false => rfl
      subst hr0
      clear hmn
      go_wp2
      go_ret
      exact ⟨rfl, HT0.out.be⟩
end Go.Proofs.YtookojgemipakaaDoor.E4
