/- Trees in memory, keys that are texts: what each call comes to (written by gen_omc). -/
import Derived.Test.YtnibmfijkbfaeaaOmC
import Derived.Deep.DeepCutAuto
import Derived.Deep.CutBlock
import Derived.BigRegion
import Derived.Deep.RegionLaw
import Derived.Deep.RegionHeld3
import Derived.Deep.RegionHeld
import Derived.BigQuiet
namespace Go.Proofs.Ytnibmfijkbfaeaa.Om
open Go.RowKit Go.Proofs.Ytnibmfijkbfaeaa
set_option linter.unusedVariables false
set_option linter.unusedSimpArgs false
set_option maxRecDepth 100000
open Key (lt)
theorem cmpK_str (a b : ByteArray) : cmpK a b = if Op.bytesLess a.toList b.toList = true then -1 else if (a.toList == b.toList) = true then 0 else 1 := by
  unfold cmpK
  by_cases h : Op.bytesLess a.toList b.toList = true
  · rw [if_pos h]; exact if_pos h
  · rw [if_neg h]
    refine (if_neg h).trans ?_
    by_cases e : (a.toList == b.toList) = true
    · rw [if_pos e]
      refine if_neg ?_
      show ¬ Op.bytesLess b.toList a.toList = true
      have e : a.toList = b.toList := by simpa using e
      rw [e, bl_self]; exact Bool.false_ne_true
    · rw [if_neg e]
      refine if_pos ?_
      show Op.bytesLess b.toList a.toList = true
      by_cases k : Op.bytesLess b.toList a.toList = true
      · exact k
      · exact absurd (by simpa using bl_total _ _ (by simpa using h) (by simpa using k)) e

abbrev TS : TypeId := 76
abbrev ekS (k : ByteArray) : Value := .string k
abbrev TmS (w : World) (t : Tr ByteArray Int) (p : Value) : Prop := Tm 76 (fun k : ByteArray => .string k) w t p
theorem nan_s (k : ByteArray) (w : World) : Calls Try.prog 53 #[.string k] w fun e w' => e = .returned (.bool false) ∧ w = w' := by
  go_enter Try.func53, Try.ntmps53
  go_wp2
  go_ret
  exact ⟨rfl, rfl⟩
theorem cmp_s (a b : ByteArray) (w : World) : Calls Try.prog 46 #[.string a, .string b] w fun e w' => e = .returned (.int .i64 (cmpK a b)) ∧ w = w' := by
  go_enter Try.func46, Try.ntmps46
  go_wp2_with fail
  refine (nan_s _ _).mono ?_
  rintro e w1 ⟨rfl, rfl⟩
  go_wp2_with fail
  refine (nan_s _ _).mono ?_
  rintro e w1 ⟨rfl, rfl⟩
  go_wp2
  all_goals
    go_ret
    refine ⟨ret_int ?_, rfl⟩
    rw [cmpK_str]
    simp_all
theorem size_s (t : Tr ByteArray Int) (p : Value) (w : World) (h : TmS w t p) : Calls Try.prog 42 #[p] w fun e w' => e = .returned (.int .i64 (t.size : Nat)) ∧ w = w' := by
  cases t with
  | leaf =>
    obtain rfl : p = .pointer none := h
    go_enter Try.func42, Try.ntmps42
    go_wp2
    go_ret
    exact ⟨rfl, rfl⟩
  | node l k v r =>
    obtain ⟨b, pl, pr, rfl, h2, h3, h4⟩ := h
    have c4 : w.cell? ⟨b, 4, none⟩ = some (.int .i64 ((Tr.node l k v r).size : Nat)) := (h2.cell 4).trans rfl
    obtain ⟨n, hn⟩ : ∃ n, (Tr.node l k v r).size = n := ⟨_, rfl⟩
    rw [hn] at c4 ⊢
    clear h2 h3 h4 hn
    go_enter Try.func42, Try.ntmps42
    go_wp2
    go_ret
    exact ⟨rfl, rfl⟩

set_option maxHeartbeats 2000000 in
theorem over_s (b : Nat) (k : ByteArray) (v : Int) (x2 x3 x4 : Value) (l r : Tr ByteArray Int) (pl pr : Value) (w : World) (hn : Row w b 76 #[.string k, .int .i64 v, x2, x3, x4]) (hl : TmS w l pl) (hr : TmS w r pr) (hs : l.size + r.size ≤ 1000000000) :
    Calls Try.prog 54 #[.pointer (some ⟨b, 0, none⟩), pl, pr] w fun e w' => ∃ p, e = .returned p ∧ TmS w' (.node l k v r) p ∧ Below w.heap.size w w' := by
  obtain ⟨ql, rfl⟩ := hl.isPtr
  obtain ⟨qr, rfl⟩ := hr.isPtr
  have HL := Lib.hid hl
  have HR := Lib.hid hr
  have c0 : w.cell? ⟨b, 0, none⟩ = some (.string k) := (hn.cell 0).trans rfl
  have c1 : w.cell? ⟨b, 1, none⟩ = some (.int .i64 v) := (hn.cell 1).trans rfl
  have bl : b < w.heap.size := hn.lt
  obtain ⟨x, hx⟩ : ∃ x, l.size = x := ⟨_, rfl⟩
  obtain ⟨y, hy⟩ : ∃ y, r.size = y := ⟨_, rfl⟩
  have HSL : Hid (∀ W, Below w.heap.size w W → Calls Try.prog 42 #[.pointer ql] W fun e w' => e = .returned (.int .i64 (x : Nat)) ∧ W = w') := Lib.hid (fun W hW => by rw [← hx]; exact size_s _ _ _ (hl.below hW))
  have HSR : Hid (∀ W, Below w.heap.size w W → Calls Try.prog 42 #[.pointer qr] W fun e w' => e = .returned (.int .i64 (y : Nat)) ∧ W = w') := Lib.hid (fun W hW => by rw [← hy]; exact size_s _ _ _ (hr.below hW))
  have w1 : IntKind.i64.wrap ((x : Int) + 1) = (x : Int) + 1 := by rw [IntKind.wrap_i64]; omega
  have w2 : IntKind.i64.wrap ((x : Int) + 1 + (y : Int)) = (x : Int) + 1 + (y : Int) := by rw [IntKind.wrap_i64]; omega
  have HX := Lib.hid hx
  have HY := Lib.hid hy
  clear hn hl hr hx hy hs
  go_enter Try.func54, Try.ntmps54
  go_upto_region 1 with fail
  refine wp_region_noPanic ?_
  refine wp_region_held_drew (S := (fun X => X.cell? ⟨b, 0, none⟩ = some (.string k) ∧ X.cell? ⟨b, 1, none⟩ = some (.int .i64 v))) (by kernel_rfl) ?_ (fun hHeld => ?_)
  · exact ⟨c0, c1⟩
  refine take_at 0 7 _ (v := ?vr4_0) rfl rfl (by kernel_rfl) (by kernel_rfl) (by kernel_rfl) (fun _ _ _ h => h) (Or.inl ⟨by rfl, ?hyr4_0⟩) (by assumption) ?restr4_0
  case hyr4_0 =>
    intro wX hSw
    try dsimp only at hSw
    go_simp
    first
    | done
    | (with_reducible rfl)
  try simp only [Act.put, List.setIfInBounds_toArray, List.set_cons_zero, List.set_cons_succ]
  refine take_at 1 8 _ (v := ?vr4_1) rfl rfl (by kernel_rfl) (by kernel_rfl) (by kernel_rfl) (fun _ _ _ h => h) (Or.inl ⟨by rfl, ?hyr4_1⟩) (by assumption) ?restr4_1
  case hyr4_1 =>
    intro wX hSw
    try dsimp only at hSw
    go_simp
    first
    | done
    | (with_reducible rfl)
  try simp only [Act.put, List.setIfInBounds_toArray, List.set_cons_zero, List.set_cons_succ]
  refine take_at 2 9 _ (v := ?vr4_2) rfl rfl (by kernel_rfl) (by kernel_rfl) (by kernel_rfl) (fun _ _ _ h => h) (Or.inl ⟨by rfl, ?hyr4_2⟩) (by assumption) ?restr4_2
  case hyr4_2 =>
    intro wX hSw
    try dsimp only at hSw
    go_simp
    first
    | done
    | (with_reducible rfl)
  try simp only [Act.put, List.setIfInBounds_toArray, List.set_cons_zero, List.set_cons_succ]
  refine take_at 3 10 _ (v := ?vr4_3) rfl rfl (by kernel_rfl) (by kernel_rfl) (by kernel_rfl) (fun _ _ _ h => h) (Or.inl ⟨by rfl, ?hyr4_3⟩) (by assumption) ?restr4_3
  case hyr4_3 =>
    intro wX hSw
    try dsimp only at hSw
    go_simp
    first
    | done
    | (with_reducible rfl)
  try simp only [Act.put, List.setIfInBounds_toArray, List.set_cons_zero, List.set_cons_succ]
  refine take_at 4 11 _ (v := ?vr4_4) rfl rfl (by kernel_rfl) (by kernel_rfl) (by kernel_rfl) (fun _ _ _ h => h) (Or.inl ⟨by rfl, ?hyr4_4⟩) (by assumption) ?restr4_4
  case hyr4_4 =>
    intro wX hSw
    try dsimp only at hSw
    go_simp
    first
    | done
    | (with_reducible rfl)
  try simp only [Act.put, List.setIfInBounds_toArray, List.set_cons_zero, List.set_cons_succ]
  refine take_at 5 12 _ (v := ?vr4_5) rfl rfl (by kernel_rfl) (by kernel_rfl) (by kernel_rfl) (fun _ _ _ h => h) (Or.inl ⟨by rfl, ?hyr4_5⟩) (by assumption) ?restr4_5
  case hyr4_5 =>
    intro wX hSw
    try dsimp only at hSw
    go_simp
    first
    | done
    | (with_reducible rfl)
  try simp only [Act.put, List.setIfInBounds_toArray, List.set_cons_zero, List.set_cons_succ]
  refine take_at 6 13 _ (v := ?vr4_6) rfl rfl (by kernel_rfl) (by kernel_rfl) (by kernel_rfl) (fun _ _ _ h => h) (Or.inl ⟨by rfl, ?hyr4_6⟩) (by assumption) ?restr4_6
  case hyr4_6 =>
    intro wX hSw
    try dsimp only at hSw
    go_simp
    first
    | done
    | (with_reducible rfl)
  try simp only [Act.put, List.setIfInBounds_toArray, List.set_cons_zero, List.set_cons_succ]
  refine take_at 7 14 _ (v := ?vr4_7) rfl rfl (by kernel_rfl) (by kernel_rfl) (by kernel_rfl) (fun _ _ _ h => h) (Or.inl ⟨by rfl, ?hyr4_7⟩) (by assumption) ?restr4_7
  case hyr4_7 =>
    intro wX hSw
    try dsimp only at hSw
    go_simp
    first
    | done
    | (with_reducible rfl)
  try simp only [Act.put, List.setIfInBounds_toArray, List.set_cons_zero, List.set_cons_succ]
  refine take_at 8 15 _ (v := ?vr4_8) rfl rfl (by kernel_rfl) (by kernel_rfl) (by kernel_rfl) (fun _ _ _ h => h) (Or.inl ⟨by rfl, ?hyr4_8⟩) (by assumption) ?restr4_8
  case hyr4_8 =>
    intro wX hSw
    try dsimp only at hSw
    go_simp
    first
    | done
    | (with_reducible rfl)
  try simp only [Act.put, List.setIfInBounds_toArray, List.set_cons_zero, List.set_cons_succ]
  refine take_at 9 16 _ (v := ?vr4_9) rfl rfl (by kernel_rfl) (by kernel_rfl) (by kernel_rfl) (fun _ _ _ h => h) (Or.inl ⟨by rfl, ?hyr4_9⟩) (by assumption) ?restr4_9
  case hyr4_9 =>
    intro wX hSw
    try dsimp only at hSw
    go_simp
    first
    | done
    | (with_reducible rfl)
  try simp only [Act.put, List.setIfInBounds_toArray, List.set_cons_zero, List.set_cons_succ]
  refine take_at 10 17 _ (v := ?vr4_10) rfl rfl (by kernel_rfl) (by kernel_rfl) (by kernel_rfl) (fun _ _ _ h => h) (Or.inl ⟨by rfl, ?hyr4_10⟩) (by assumption) ?restr4_10
  case hyr4_10 =>
    intro wX hSw
    try dsimp only at hSw
    go_simp
    first
    | done
    | (with_reducible rfl)
  try simp only [Act.put, List.setIfInBounds_toArray, List.set_cons_zero, List.set_cons_succ]
  refine take_at 13 20 _ (v := ?vr4_13) rfl rfl (by kernel_rfl) (by kernel_rfl) (by kernel_rfl) (fun _ _ _ h => h) (Or.inl ⟨by rfl, ?hyr4_13⟩) (by assumption) ?restr4_13
  case hyr4_13 =>
    intro wX hSw
    try dsimp only at hSw
    go_simp
    first
    | done
    | (with_reducible rfl)
  try simp only [Act.put, List.setIfInBounds_toArray, List.set_cons_zero, List.set_cons_succ]
  refine wpAnyH_ready (rs := [11]) (by kernel_rfl) (by simp) ?_
  refine AllReadyH.cons rfl (fun K hK => ?_) AllReadyH.nil
  go_simp
  go_at_call 42
  refine (HSL.out _ (Below.refl _ w).drew).mono ?_
  rintro e w' ⟨rfl, rfl⟩
  try go_wp2_with fail
  refine hK.out _ _ ?_ (fun hHeld2 => ?_)
  · exact ⟨c0, c1⟩
  clear hK K hHeld
  have hHeld := hHeld2
  clear hHeld2
  try simp only [Act.put, List.setIfInBounds_toArray, List.set_cons_zero, List.set_cons_succ]
  refine take_at 12 19 _ (v := ?vr4_12) rfl rfl (by kernel_rfl) (by kernel_rfl) (by kernel_rfl) (fun _ _ _ h => h) (Or.inl ⟨by rfl, ?hyr4_12⟩) (by assumption) ?restr4_12
  case hyr4_12 =>
    intro wX hSw
    try dsimp only at hSw
    go_simp
    first
    | done
    | (with_reducible rfl)
  try simp only [Act.put, List.setIfInBounds_toArray, List.set_cons_zero, List.set_cons_succ]
  refine wpAnyH_ready (rs := [14]) (by kernel_rfl) (by simp) ?_
  refine AllReadyH.cons rfl (fun K hK => ?_) AllReadyH.nil
  go_simp
  go_at_call 42
  refine (HSR.out _ (Below.refl _ w).drew).mono ?_
  rintro e w' ⟨rfl, rfl⟩
  try go_wp2_with fail
  refine hK.out _ _ ?_ (fun hHeld2 => ?_)
  · exact ⟨c0, c1⟩
  clear hK K hHeld
  have hHeld := hHeld2
  clear hHeld2
  try simp only [Act.put, List.setIfInBounds_toArray, List.set_cons_zero, List.set_cons_succ]
  refine take_at 15 22 _ (v := ?vr4_15) rfl rfl (by kernel_rfl) (by kernel_rfl) (by kernel_rfl) (fun _ _ _ h => h) (Or.inl ⟨by rfl, ?hyr4_15⟩) (by assumption) ?restr4_15
  case hyr4_15 =>
    intro wX hSw
    try dsimp only at hSw
    go_simp
    first
    | done
    | (with_reducible rfl)
  try simp only [Act.put, List.setIfInBounds_toArray, List.set_cons_zero, List.set_cons_succ]
  refine take_at 16 23 _ (v := ?vr4_16) rfl rfl (by kernel_rfl) (by kernel_rfl) (by kernel_rfl) (fun _ _ _ h => h) (Or.inl ⟨by rfl, ?hyr4_16⟩) (by assumption) ?restr4_16
  case hyr4_16 =>
    intro wX hSw
    try dsimp only at hSw
    go_simp
    first
    | done
    | (with_reducible rfl)
  try simp only [Act.put, List.setIfInBounds_toArray, List.set_cons_zero, List.set_cons_succ]
  refine wpAnyH_ready (rs := [17]) (by kernel_rfl) (by simp) ?_
  refine AllReadyH.cons rfl (fun K hK => ?_) AllReadyH.nil
  go_simp

  try go_wp2_with fail
  refine hK.out _ _ ?_ (fun hHeld2 => ?_)
  · exact ⟨(World.cell?_alloc_old _ _ _ (by show b ≠ w.heap.size; omega)).trans c0, (World.cell?_alloc_old _ _ _ (by show b ≠ w.heap.size; omega)).trans c1⟩
  clear hK K hHeld
  have hHeld := hHeld2
  clear hHeld2
  try simp only [Act.put, List.setIfInBounds_toArray, List.set_cons_zero, List.set_cons_succ]
  refine take_at 18 6 _ (v := ?vr4_18) rfl rfl (by kernel_rfl) (by kernel_rfl) (by kernel_rfl) (fun _ _ _ h => h) (Or.inl ⟨by rfl, ?hyr4_18⟩) (by assumption) ?restr4_18
  case hyr4_18 =>
    intro wX hSw
    try dsimp only at hSw
    go_simp
    first
    | done
    | (with_reducible rfl)
  try simp only [Act.put, List.setIfInBounds_toArray, List.set_cons_zero, List.set_cons_succ]
  refine wpAnyH_done (by kernel_rfl) ?_ _
  refine NoPanic.normal ?_
  obtain ⟨W, hW⟩ : ∃ W, (w.alloc (.cells #[.string k, .int .i64 v, .pointer ql, .pointer qr, .int .i64 ((x : Int) + 1 + (y : Int))] 76)).drew = W := ⟨_, rfl⟩
  have hb : Below w.heap.size w W := by rw [← hW]; exact ((Below.refl _ w).alloc (Nat.le_refl _) _).drew
  have hr : Row W w.heap.size 76 #[.string k, .int .i64 v, .pointer ql, .pointer qr, .int .i64 ((Tr.node l k v r).size : Nat)] := by
    have e : (((Tr.node l k v r).size : Nat) : Int) = (x : Int) + 1 + (y : Int) := by rw [← HX.out, ← HY.out]; simp only [Tr.size]; omega
    rw [e, ← hW]
    exact Row.drew (Row.made w _ _)
  rw [hW]
  clear hW hHeld
  go_wp2
  go_ret
  exact ⟨_, rfl, ⟨_, _, _, rfl, hr, HL.out.below hb, HR.out.below hb⟩, hb⟩

set_option maxHeartbeats 4000000 in
theorem lessHigh_s (b : Nat) (k : ByteArray) (v : Int) (x2 x3 x4 : Value) (l r : Tr ByteArray Int) (pl pr : Value) (w : World) (hn : Row w b 76 #[.string k, .int .i64 v, x2, x3, x4]) (hl : TmS w l pl) (hr : TmS w r pr) (h2 : 2 ≤ r.size) (hs : l.size + r.size ≤ 1000000000) :
    Calls Try.prog 55 #[.pointer (some ⟨b, 0, none⟩), pl, pr] w fun e w' => ∃ p, e = .returned p ∧ TmS w' (lessHigh l k v r) p ∧ Below w.heap.size w w' := by
  obtain ⟨m, hk, hv, hh, rfl⟩ := size_pos (by omega : 0 < r.size)
  obtain ⟨bh, pm, ph, rfl, rH, tM, tH⟩ := hr
  obtain ⟨ql, rfl⟩ := hl.isPtr
  obtain ⟨qm, rfl⟩ := tM.isPtr
  obtain ⟨qh, rfl⟩ := tH.isPtr
  have HL := Lib.hid hl
  have HM := Lib.hid tM
  have HH := Lib.hid tH
  have HN := Lib.hid hn
  have HRH := Lib.hid rH
  have hsz : (Tr.node m hk hv hh).size = m.size + 1 + hh.size := rfl
  obtain ⟨x, hx⟩ : ∃ x, m.size = x := ⟨_, rfl⟩
  obtain ⟨y, hy⟩ : ∃ y, hh.size = y := ⟨_, rfl⟩
  obtain ⟨z, hz⟩ : ∃ z, l.size = z := ⟨_, rfl⟩
  rw [hsz, hx, hy] at h2 hs
  rw [hz] at hs
  have HSM : Hid (∀ W, Below w.heap.size w W → Calls Try.prog 42 #[.pointer qm] W fun e w' => e = .returned (.int .i64 (x : Nat)) ∧ W = w') := Lib.hid (fun W hW => by rw [← hx]; exact size_s _ _ _ (tM.below hW))
  have HSH : Hid (∀ W, Below w.heap.size w W → Calls Try.prog 42 #[.pointer qh] W fun e w' => e = .returned (.int .i64 (y : Nat)) ∧ W = w') := Lib.hid (fun W hW => by rw [← hy]; exact size_s _ _ _ (tH.below hW))
  have w1 : IntKind.i64.wrap (2 * (y : Int)) = 2 * (y : Int) := by rw [IntKind.wrap_i64]; omega
  have HX := Lib.hid hx
  have HY := Lib.hid hy
  have HZ := Lib.hid hz
  have c2 : w.cell? ⟨bh, 2, none⟩ = some (.pointer qm) := (rH.cell 2).trans rfl
  have c3 : w.cell? ⟨bh, 3, none⟩ = some (.pointer qh) := (rH.cell 3).trans rfl
  have HS : Hid (∀ V : World, Below w.heap.size w V → V.cell? ⟨bh, 2, none⟩ = some (.pointer qm) ∧ V.cell? ⟨bh, 3, none⟩ = some (.pointer qh)) := Lib.hid (fun V hV => ⟨((rH.below hV rH.lt).cell 2).trans rfl, ((rH.below hV rH.lt).cell 3).trans rfl⟩)
  have HB : Hid (Below w.heap.size w w.drew) := Lib.hid (Below.refl _ w).drew
  clear hn hl rH tM tH hx hy hz hsz
  by_cases hc : x < 2 * y
  · have e : lessHigh l k v (.node m hk hv hh) = .node (.node l k v m) hk hv hh := by
      cases m with
      | leaf => rfl
      | node => simp only [lessHigh]; rw [if_pos (by rw [HX.out, HY.out]; exact hc)]
    rw [e]
    clear e
    have hc2 : (x : Int) < 2 * (y : Int) := by omega
    go_enter Try.func55, Try.ntmps55
    go_upto_region 2 with fail
    refine wp_region_noPanic ?_
    refine wp_region_held_drew (S := (fun V => V.cell? ⟨bh, 2, none⟩ = some (.pointer qm) ∧ V.cell? ⟨bh, 3, none⟩ = some (.pointer qh))) (by kernel_rfl) ?_ (fun hHeld => ?_)
    · exact HS.out _ HB.out
    refine take_at 0 12 _ (v := ?vr5_0) rfl rfl (by kernel_rfl) (by kernel_rfl) (by kernel_rfl) (fun _ _ _ h => h) (Or.inl ⟨by rfl, ?hyr5_0⟩) (by assumption) ?restr5_0
    case hyr5_0 =>
      intro wX hSw
      try dsimp only at hSw
      go_simp
      first
      | done
      | (with_reducible rfl)
    try simp only [Act.put, List.setIfInBounds_toArray, List.set_cons_zero, List.set_cons_succ]
    refine take_at 2 14 _ (v := ?vr5_2) rfl rfl (by kernel_rfl) (by kernel_rfl) (by kernel_rfl) (fun _ _ _ h => h) (Or.inl ⟨by rfl, ?hyr5_2⟩) (by assumption) ?restr5_2
    case hyr5_2 =>
      intro wX hSw
      try dsimp only at hSw
      go_simp
      first
      | done
      | (with_reducible rfl)
    try simp only [Act.put, List.setIfInBounds_toArray, List.set_cons_zero, List.set_cons_succ]
    refine take_at 3 15 _ (v := ?vr5_3) rfl rfl (by kernel_rfl) (by kernel_rfl) (by kernel_rfl) (fun _ _ _ h => h) (Or.inl ⟨by rfl, ?hyr5_3⟩) (by assumption) ?restr5_3
    case hyr5_3 =>
      intro wX hSw
      try dsimp only at hSw
      go_simp
      first
      | done
      | (with_reducible rfl)
    try simp only [Act.put, List.setIfInBounds_toArray, List.set_cons_zero, List.set_cons_succ]
    refine take_at 4 16 _ (v := ?vr5_4) rfl rfl (by kernel_rfl) (by kernel_rfl) (by kernel_rfl) (fun _ _ _ h => h) (Or.inl ⟨by rfl, ?hyr5_4⟩) (by assumption) ?restr5_4
    case hyr5_4 =>
      intro wX hSw
      try dsimp only at hSw
      go_simp
      first
      | done
      | (with_reducible rfl)
    try simp only [Act.put, List.setIfInBounds_toArray, List.set_cons_zero, List.set_cons_succ]
    refine take_at 5 17 _ (v := ?vr5_5) rfl rfl (by kernel_rfl) (by kernel_rfl) (by kernel_rfl) (fun _ _ _ h => h) (Or.inl ⟨by rfl, ?hyr5_5⟩) (by assumption) ?restr5_5
    case hyr5_5 =>
      intro wX hSw
      try dsimp only at hSw
      go_simp
      first
      | done
      | (with_reducible rfl)
    try simp only [Act.put, List.setIfInBounds_toArray, List.set_cons_zero, List.set_cons_succ]
    refine wpAnyH_ready (rs := [1]) (by kernel_rfl) (by simp) ?_
    refine AllReadyH.cons rfl (fun K hK => ?_) AllReadyH.nil
    go_simp
    go_at_call 42
    refine (HSM.out _ HB.out).mono ?_
    rintro e w' ⟨rfl, rfl⟩
    try go_wp2_with fail
    refine hK.out _ _ ?_ (fun hHeld2 => ?_)
    · exact HS.out _ HB.out
    clear hK K hHeld
    have hHeld := hHeld2
    clear hHeld2
    try simp only [Act.put, List.setIfInBounds_toArray, List.set_cons_zero, List.set_cons_succ]
    refine wpAnyH_ready (rs := [6]) (by kernel_rfl) (by simp) ?_
    refine AllReadyH.cons rfl (fun K hK => ?_) AllReadyH.nil
    go_simp
    go_at_call 42
    refine (HSH.out _ HB.out).mono ?_
    rintro e w' ⟨rfl, rfl⟩
    try go_wp2_with fail
    refine hK.out _ _ ?_ (fun hHeld2 => ?_)
    · exact HS.out _ HB.out
    clear hK K hHeld
    have hHeld := hHeld2
    clear hHeld2
    try simp only [Act.put, List.setIfInBounds_toArray, List.set_cons_zero, List.set_cons_succ]
    refine take_at 7 19 _ (v := ?vr5_7) rfl rfl (by kernel_rfl) (by kernel_rfl) (by kernel_rfl) (fun _ _ _ h => h) (Or.inl ⟨by rfl, ?hyr5_7⟩) (by assumption) ?restr5_7
    case hyr5_7 =>
      intro wX hSw
      try dsimp only at hSw
      go_simp
      first
      | done
      | (with_reducible rfl)
    try simp only [Act.put, List.setIfInBounds_toArray, List.set_cons_zero, List.set_cons_succ]
    refine take_at 8 20 _ (v := ?vr5_8) rfl rfl (by kernel_rfl) (by kernel_rfl) (by kernel_rfl) (fun _ _ _ h => h) (Or.inl ⟨by rfl, ?hyr5_8⟩) (by assumption) ?restr5_8
    case hyr5_8 =>
      intro wX hSw
      try dsimp only at hSw
      go_simp
      first
      | done
      | (with_reducible rfl)
    try simp only [Act.put, List.setIfInBounds_toArray, List.set_cons_zero, List.set_cons_succ]
    refine wpAnyH_done (by kernel_rfl) ?_ _
    refine NoPanic.normal ?_
    go_upto_region 3 with fail
    clear hHeld HB
    have HB : Hid (Below w.heap.size w w.drew.drew) := Lib.hid (Below.refl _ w).drew.drew
    refine wp_region_noPanic ?_
    refine wp_region_held_drew (S := (fun V => V.cell? ⟨bh, 2, none⟩ = some (.pointer qm) ∧ V.cell? ⟨bh, 3, none⟩ = some (.pointer qh))) (by kernel_rfl) ?_ (fun hHeld => ?_)
    · exact HS.out _ HB.out
    refine take_at 0 21 _ (v := ?vr6_0) rfl rfl (by kernel_rfl) (by kernel_rfl) (by kernel_rfl) (fun _ _ _ h => h) (Or.inl ⟨by rfl, ?hyr6_0⟩) (by assumption) ?restr6_0
    case hyr6_0 =>
      intro wX hSw
      try dsimp only at hSw
      go_simp
      first
      | done
      | (with_reducible rfl)
    try simp only [Act.put, List.setIfInBounds_toArray, List.set_cons_zero, List.set_cons_succ]
    refine take_at 1 22 _ (v := ?vr6_1) rfl rfl (by kernel_rfl) (by kernel_rfl) (by kernel_rfl) (fun _ _ _ h => h) (Or.inl ⟨by rfl, ?hyr6_1⟩) (by assumption) ?restr6_1
    case hyr6_1 =>
      intro wX hSw
      try dsimp only at hSw
      go_simp
      first
      | done
      | (with_reducible rfl)
    try simp only [Act.put, List.setIfInBounds_toArray, List.set_cons_zero, List.set_cons_succ]
    refine take_at 2 23 _ (v := ?vr6_2) rfl rfl (by kernel_rfl) (by kernel_rfl) (by kernel_rfl) (fun _ _ _ h => h) (Or.inl ⟨by rfl, ?hyr6_2⟩) (by assumption) ?restr6_2
    case hyr6_2 =>
      intro wX hSw
      try dsimp only at hSw
      go_simp
      first
      | done
      | (with_reducible rfl)
    try simp only [Act.put, List.setIfInBounds_toArray, List.set_cons_zero, List.set_cons_succ]
    refine take_at 3 24 _ (v := ?vr6_3) rfl rfl (by kernel_rfl) (by kernel_rfl) (by kernel_rfl) (fun _ _ _ h => h) (Or.inl ⟨by rfl, ?hyr6_3⟩) (by assumption) ?restr6_3
    case hyr6_3 =>
      intro wX hSw
      try dsimp only at hSw
      go_simp
      first
      | done
      | (with_reducible rfl)
    try simp only [Act.put, List.setIfInBounds_toArray, List.set_cons_zero, List.set_cons_succ]
    refine take_at 5 26 _ (v := ?vr6_5) rfl rfl (by kernel_rfl) (by kernel_rfl) (by kernel_rfl) (fun _ _ _ h => h) (Or.inl ⟨by rfl, ?hyr6_5⟩) (by assumption) ?restr6_5
    case hyr6_5 =>
      intro wX hSw
      try dsimp only at hSw
      go_simp
      first
      | done
      | (with_reducible rfl)
    try simp only [Act.put, List.setIfInBounds_toArray, List.set_cons_zero, List.set_cons_succ]
    refine take_at 6 27 _ (v := ?vr6_6) rfl rfl (by kernel_rfl) (by kernel_rfl) (by kernel_rfl) (fun _ _ _ h => h) (Or.inl ⟨by rfl, ?hyr6_6⟩) (by assumption) ?restr6_6
    case hyr6_6 =>
      intro wX hSw
      try dsimp only at hSw
      go_simp
      first
      | done
      | (with_reducible rfl)
    try simp only [Act.put, List.setIfInBounds_toArray, List.set_cons_zero, List.set_cons_succ]
    refine take_at 7 28 _ (v := ?vr6_7) rfl rfl (by kernel_rfl) (by kernel_rfl) (by kernel_rfl) (fun _ _ _ h => h) (Or.inl ⟨by rfl, ?hyr6_7⟩) (by assumption) ?restr6_7
    case hyr6_7 =>
      intro wX hSw
      try dsimp only at hSw
      go_simp
      first
      | done
      | (with_reducible rfl)
    try simp only [Act.put, List.setIfInBounds_toArray, List.set_cons_zero, List.set_cons_succ]
    refine take_at 8 29 _ (v := ?vr6_8) rfl rfl (by kernel_rfl) (by kernel_rfl) (by kernel_rfl) (fun _ _ _ h => h) (Or.inl ⟨by rfl, ?hyr6_8⟩) (by assumption) ?restr6_8
    case hyr6_8 =>
      intro wX hSw
      try dsimp only at hSw
      go_simp
      first
      | done
      | (with_reducible rfl)
    try simp only [Act.put, List.setIfInBounds_toArray, List.set_cons_zero, List.set_cons_succ]
    refine wpAnyH_ready (rs := [4]) (by kernel_rfl) (by simp) ?_
    refine AllReadyH.cons rfl (fun K hK => ?_) AllReadyH.nil
    go_simp
    go_at_call 54
    refine (over_s b k v x2 x3 x4 l m _ _ _ (HN.out.below HB.out HN.out.lt) (HL.out.below HB.out) (HM.out.below HB.out) (by rw [HZ.out, HX.out]; omega)).mono ?_
    rintro e V1 ⟨p, rfl, ht, hb⟩
    obtain ⟨q1, rfl⟩ := ht.isPtr
    have HT1 := Lib.hid ht
    have HBn := Lib.hid (HB.out.trans (hb.mono HB.out.size))
    clear HB
    have HB := HBn
    clear HBn
    have HD1 := Lib.hid hb
    clear hb ht
    try go_wp2_with fail
    refine hK.out _ _ ?_ (fun hHeld2 => ?_)
    · exact HS.out _ HB.out
    clear hK K hHeld
    have hHeld := hHeld2
    clear hHeld2
    try simp only [Act.put, List.setIfInBounds_toArray, List.set_cons_zero, List.set_cons_succ]
    refine wpAnyH_ready (rs := [9]) (by kernel_rfl) (by simp) ?_
    refine AllReadyH.cons rfl (fun K hK => ?_) AllReadyH.nil
    go_simp
    go_at_call 54
    refine (over_s bh hk hv _ _ _ (.node l k v m) hh _ _ _ (HRH.out.below HB.out HRH.out.lt) HT1.out (HH.out.below HB.out) (by have h1 := HZ.out; have h2 := HX.out; have h3 := HY.out; simp only [Tr.size]; omega)).mono ?_
    rintro e V2 ⟨p, rfl, ht, hb⟩
    obtain ⟨q2, rfl⟩ := ht.isPtr
    have HT2 := Lib.hid ht
    have HBn := Lib.hid (HB.out.trans (hb.mono HB.out.size))
    clear HB
    have HB := HBn
    clear HBn
    have HD2 := Lib.hid hb
    clear hb ht
    try go_wp2_with fail
    refine hK.out _ _ ?_ (fun hHeld2 => ?_)
    · exact HS.out _ HB.out
    clear hK K hHeld
    have hHeld := hHeld2
    clear hHeld2
    try simp only [Act.put, List.setIfInBounds_toArray, List.set_cons_zero, List.set_cons_succ]
    refine take_at 10 6 _ (v := ?vr6_10) rfl rfl (by kernel_rfl) (by kernel_rfl) (by kernel_rfl) (fun _ _ _ h => h) (Or.inl ⟨by rfl, ?hyr6_10⟩) (by assumption) ?restr6_10
    case hyr6_10 =>
      intro wX hSw
      try dsimp only at hSw
      go_simp
      first
      | done
      | (with_reducible rfl)
    try simp only [Act.put, List.setIfInBounds_toArray, List.set_cons_zero, List.set_cons_succ]
    refine wpAnyH_done (by kernel_rfl) ?_ _
    refine NoPanic.normal ?_
    go_wp2
    go_ret
    exact ⟨_, rfl, HT2.out, HB.out⟩
  · obtain ⟨ml, mk, mv, mr, rfl⟩ := size_pos (by have := HX.out; omega : 0 < m.size)
    have e : lessHigh l k v (.node (.node ml mk mv mr) hk hv hh) = .node (.node l k v ml) mk mv (.node mr hk hv hh) := by
      simp only [lessHigh]; rw [if_neg (by rw [HX.out, HY.out]; exact hc)]
    rw [e]
    clear e
    obtain ⟨bm, p3, p4, e3, rM, tML, tMR⟩ := HM.out
    obtain ⟨q3, rfl⟩ := tML.isPtr
    obtain ⟨q4, rfl⟩ := tMR.isPtr
    injection e3 with e3
    subst e3
    have HRM := Lib.hid rM
    have HML := Lib.hid tML
    have HMR := Lib.hid tMR
    have hsz2 : (Tr.node ml mk mv mr).size = ml.size + 1 + mr.size := rfl
    have HZ2 : Hid (ml.size + 1 + mr.size = x) := Lib.hid (by rw [← hsz2]; exact HX.out)
    have HS : Hid (∀ V : World, Below w.heap.size w V → (V.cell? ⟨bh, 2, none⟩ = some (.pointer (some ⟨bm, 0, none⟩)) ∧ V.cell? ⟨bh, 3, none⟩ = some (.pointer qh)) ∧ V.cell? ⟨bm, 2, none⟩ = some (.pointer q3) ∧ V.cell? ⟨bm, 3, none⟩ = some (.pointer q4)) := Lib.hid (fun V hV => ⟨HS.out V hV, ((rM.below hV rM.lt).cell 2).trans rfl, ((rM.below hV rM.lt).cell 3).trans rfl⟩)
    have hc2 : ¬ (x : Int) < 2 * (y : Int) := by omega
    clear hsz2 rM tML tMR
    go_enter Try.func55, Try.ntmps55
    go_upto_region 2 with fail
    refine wp_region_noPanic ?_
    refine wp_region_held_drew (S := (fun V => (V.cell? ⟨bh, 2, none⟩ = some (.pointer (some ⟨bm, 0, none⟩)) ∧ V.cell? ⟨bh, 3, none⟩ = some (.pointer qh)) ∧ V.cell? ⟨bm, 2, none⟩ = some (.pointer q3) ∧ V.cell? ⟨bm, 3, none⟩ = some (.pointer q4))) (by kernel_rfl) ?_ (fun hHeld => ?_)
    · exact HS.out _ HB.out
    refine take_at 0 12 _ (v := ?vr7_0) rfl rfl (by kernel_rfl) (by kernel_rfl) (by kernel_rfl) (fun _ _ _ h => h) (Or.inl ⟨by rfl, ?hyr7_0⟩) (by assumption) ?restr7_0
    case hyr7_0 =>
      intro wX hSw
      try dsimp only at hSw
      go_simp
      first
      | done
      | (with_reducible rfl)
    try simp only [Act.put, List.setIfInBounds_toArray, List.set_cons_zero, List.set_cons_succ]
    refine take_at 2 14 _ (v := ?vr7_2) rfl rfl (by kernel_rfl) (by kernel_rfl) (by kernel_rfl) (fun _ _ _ h => h) (Or.inl ⟨by rfl, ?hyr7_2⟩) (by assumption) ?restr7_2
    case hyr7_2 =>
      intro wX hSw
      try dsimp only at hSw
      go_simp
      first
      | done
      | (with_reducible rfl)
    try simp only [Act.put, List.setIfInBounds_toArray, List.set_cons_zero, List.set_cons_succ]
    refine take_at 3 15 _ (v := ?vr7_3) rfl rfl (by kernel_rfl) (by kernel_rfl) (by kernel_rfl) (fun _ _ _ h => h) (Or.inl ⟨by rfl, ?hyr7_3⟩) (by assumption) ?restr7_3
    case hyr7_3 =>
      intro wX hSw
      try dsimp only at hSw
      go_simp
      first
      | done
      | (with_reducible rfl)
    try simp only [Act.put, List.setIfInBounds_toArray, List.set_cons_zero, List.set_cons_succ]
    refine take_at 4 16 _ (v := ?vr7_4) rfl rfl (by kernel_rfl) (by kernel_rfl) (by kernel_rfl) (fun _ _ _ h => h) (Or.inl ⟨by rfl, ?hyr7_4⟩) (by assumption) ?restr7_4
    case hyr7_4 =>
      intro wX hSw
      try dsimp only at hSw
      go_simp
      first
      | done
      | (with_reducible rfl)
    try simp only [Act.put, List.setIfInBounds_toArray, List.set_cons_zero, List.set_cons_succ]
    refine take_at 5 17 _ (v := ?vr7_5) rfl rfl (by kernel_rfl) (by kernel_rfl) (by kernel_rfl) (fun _ _ _ h => h) (Or.inl ⟨by rfl, ?hyr7_5⟩) (by assumption) ?restr7_5
    case hyr7_5 =>
      intro wX hSw
      try dsimp only at hSw
      go_simp
      first
      | done
      | (with_reducible rfl)
    try simp only [Act.put, List.setIfInBounds_toArray, List.set_cons_zero, List.set_cons_succ]
    refine wpAnyH_ready (rs := [1]) (by kernel_rfl) (by simp) ?_
    refine AllReadyH.cons rfl (fun K hK => ?_) AllReadyH.nil
    go_simp
    go_at_call 42
    refine (HSM.out _ HB.out).mono ?_
    rintro e w' ⟨rfl, rfl⟩
    try go_wp2_with fail
    refine hK.out _ _ ?_ (fun hHeld2 => ?_)
    · exact HS.out _ HB.out
    clear hK K hHeld
    have hHeld := hHeld2
    clear hHeld2
    try simp only [Act.put, List.setIfInBounds_toArray, List.set_cons_zero, List.set_cons_succ]
    refine wpAnyH_ready (rs := [6]) (by kernel_rfl) (by simp) ?_
    refine AllReadyH.cons rfl (fun K hK => ?_) AllReadyH.nil
    go_simp
    go_at_call 42
    refine (HSH.out _ HB.out).mono ?_
    rintro e w' ⟨rfl, rfl⟩
    try go_wp2_with fail
    refine hK.out _ _ ?_ (fun hHeld2 => ?_)
    · exact HS.out _ HB.out
    clear hK K hHeld
    have hHeld := hHeld2
    clear hHeld2
    try simp only [Act.put, List.setIfInBounds_toArray, List.set_cons_zero, List.set_cons_succ]
    refine take_at 7 19 _ (v := ?vr7_7) rfl rfl (by kernel_rfl) (by kernel_rfl) (by kernel_rfl) (fun _ _ _ h => h) (Or.inl ⟨by rfl, ?hyr7_7⟩) (by assumption) ?restr7_7
    case hyr7_7 =>
      intro wX hSw
      try dsimp only at hSw
      go_simp
      first
      | done
      | (with_reducible rfl)
    try simp only [Act.put, List.setIfInBounds_toArray, List.set_cons_zero, List.set_cons_succ]
    refine take_at 8 20 _ (v := ?vr7_8) rfl rfl (by kernel_rfl) (by kernel_rfl) (by kernel_rfl) (fun _ _ _ h => h) (Or.inl ⟨by rfl, ?hyr7_8⟩) (by assumption) ?restr7_8
    case hyr7_8 =>
      intro wX hSw
      try dsimp only at hSw
      go_simp
      first
      | done
      | (with_reducible rfl)
    try simp only [Act.put, List.setIfInBounds_toArray, List.set_cons_zero, List.set_cons_succ]
    refine wpAnyH_done (by kernel_rfl) ?_ _
    refine NoPanic.normal ?_
    go_upto_region 4 with fail
    clear hHeld HB
    have HB : Hid (Below w.heap.size w w.drew.drew) := Lib.hid (Below.refl _ w).drew.drew
    refine wp_region_noPanic ?_
    refine wp_region_held_drew (S := (fun V => (V.cell? ⟨bh, 2, none⟩ = some (.pointer (some ⟨bm, 0, none⟩)) ∧ V.cell? ⟨bh, 3, none⟩ = some (.pointer qh)) ∧ V.cell? ⟨bm, 2, none⟩ = some (.pointer q3) ∧ V.cell? ⟨bm, 3, none⟩ = some (.pointer q4))) (by kernel_rfl) ?_ (fun hHeld => ?_)
    · exact HS.out _ HB.out
    refine take_at 0 31 _ (v := ?vr8_0) rfl rfl (by kernel_rfl) (by kernel_rfl) (by kernel_rfl) (fun _ _ _ h => h) (Or.inl ⟨by rfl, ?hyr8_0⟩) (by assumption) ?restr8_0
    case hyr8_0 =>
      intro wX hSw
      try dsimp only at hSw
      go_simp
      first
      | done
      | (with_reducible rfl)
    try simp only [Act.put, List.setIfInBounds_toArray, List.set_cons_zero, List.set_cons_succ]
    refine take_at 1 32 _ (v := ?vr8_1) rfl rfl (by kernel_rfl) (by kernel_rfl) (by kernel_rfl) (fun _ _ _ h => h) (Or.inl ⟨by rfl, ?hyr8_1⟩) (by assumption) ?restr8_1
    case hyr8_1 =>
      intro wX hSw
      try dsimp only at hSw
      go_simp
      first
      | done
      | (with_reducible rfl)
    try simp only [Act.put, List.setIfInBounds_toArray, List.set_cons_zero, List.set_cons_succ]
    refine take_at 2 33 _ (v := ?vr8_2) rfl rfl (by kernel_rfl) (by kernel_rfl) (by kernel_rfl) (fun _ _ _ h => h) (Or.inl ⟨by rfl, ?hyr8_2⟩) (by assumption) ?restr8_2
    case hyr8_2 =>
      intro wX hSw
      try dsimp only at hSw
      go_simp
      first
      | done
      | (with_reducible rfl)
    try simp only [Act.put, List.setIfInBounds_toArray, List.set_cons_zero, List.set_cons_succ]
    refine take_at 3 34 _ (v := ?vr8_3) rfl rfl (by kernel_rfl) (by kernel_rfl) (by kernel_rfl) (fun _ _ _ h => h) (Or.inl ⟨by rfl, ?hyr8_3⟩) (by assumption) ?restr8_3
    case hyr8_3 =>
      intro wX hSw
      try dsimp only at hSw
      go_simp
      first
      | done
      | (with_reducible rfl)
    try simp only [Act.put, List.setIfInBounds_toArray, List.set_cons_zero, List.set_cons_succ]
    refine take_at 4 35 _ (v := ?vr8_4) rfl rfl (by kernel_rfl) (by kernel_rfl) (by kernel_rfl) (fun _ _ _ h => h) (Or.inl ⟨by rfl, ?hyr8_4⟩) (by assumption) ?restr8_4
    case hyr8_4 =>
      intro wX hSw
      try dsimp only at hSw
      go_simp
      first
      | done
      | (with_reducible rfl)
    try simp only [Act.put, List.setIfInBounds_toArray, List.set_cons_zero, List.set_cons_succ]
    refine take_at 5 36 _ (v := ?vr8_5) rfl rfl (by kernel_rfl) (by kernel_rfl) (by kernel_rfl) (fun _ _ _ h => h) (Or.inl ⟨by rfl, ?hyr8_5⟩) (by assumption) ?restr8_5
    case hyr8_5 =>
      intro wX hSw
      try dsimp only at hSw
      go_simp
      first
      | done
      | (with_reducible rfl)
    try simp only [Act.put, List.setIfInBounds_toArray, List.set_cons_zero, List.set_cons_succ]
    refine take_at 6 37 _ (v := ?vr8_6) rfl rfl (by kernel_rfl) (by kernel_rfl) (by kernel_rfl) (fun _ _ _ h => h) (Or.inl ⟨by rfl, ?hyr8_6⟩) (by assumption) ?restr8_6
    case hyr8_6 =>
      intro wX hSw
      try dsimp only at hSw
      go_simp
      first
      | done
      | (with_reducible rfl)
    try simp only [Act.put, List.setIfInBounds_toArray, List.set_cons_zero, List.set_cons_succ]
    refine take_at 8 39 _ (v := ?vr8_8) rfl rfl (by kernel_rfl) (by kernel_rfl) (by kernel_rfl) (fun _ _ _ h => h) (Or.inl ⟨by rfl, ?hyr8_8⟩) (by assumption) ?restr8_8
    case hyr8_8 =>
      intro wX hSw
      try dsimp only at hSw
      go_simp
      first
      | done
      | (with_reducible rfl)
    try simp only [Act.put, List.setIfInBounds_toArray, List.set_cons_zero, List.set_cons_succ]
    refine take_at 9 40 _ (v := ?vr8_9) rfl rfl (by kernel_rfl) (by kernel_rfl) (by kernel_rfl) (fun _ _ _ h => h) (Or.inl ⟨by rfl, ?hyr8_9⟩) (by assumption) ?restr8_9
    case hyr8_9 =>
      intro wX hSw
      try dsimp only at hSw
      go_simp
      first
      | done
      | (with_reducible rfl)
    try simp only [Act.put, List.setIfInBounds_toArray, List.set_cons_zero, List.set_cons_succ]
    refine take_at 10 41 _ (v := ?vr8_10) rfl rfl (by kernel_rfl) (by kernel_rfl) (by kernel_rfl) (fun _ _ _ h => h) (Or.inl ⟨by rfl, ?hyr8_10⟩) (by assumption) ?restr8_10
    case hyr8_10 =>
      intro wX hSw
      try dsimp only at hSw
      go_simp
      first
      | done
      | (with_reducible rfl)
    try simp only [Act.put, List.setIfInBounds_toArray, List.set_cons_zero, List.set_cons_succ]
    refine take_at 11 42 _ (v := ?vr8_11) rfl rfl (by kernel_rfl) (by kernel_rfl) (by kernel_rfl) (fun _ _ _ h => h) (Or.inl ⟨by rfl, ?hyr8_11⟩) (by assumption) ?restr8_11
    case hyr8_11 =>
      intro wX hSw
      try dsimp only at hSw
      go_simp
      first
      | done
      | (with_reducible rfl)
    try simp only [Act.put, List.setIfInBounds_toArray, List.set_cons_zero, List.set_cons_succ]
    refine take_at 12 43 _ (v := ?vr8_12) rfl rfl (by kernel_rfl) (by kernel_rfl) (by kernel_rfl) (fun _ _ _ h => h) (Or.inl ⟨by rfl, ?hyr8_12⟩) (by assumption) ?restr8_12
    case hyr8_12 =>
      intro wX hSw
      try dsimp only at hSw
      go_simp
      first
      | done
      | (with_reducible rfl)
    try simp only [Act.put, List.setIfInBounds_toArray, List.set_cons_zero, List.set_cons_succ]
    refine take_at 13 44 _ (v := ?vr8_13) rfl rfl (by kernel_rfl) (by kernel_rfl) (by kernel_rfl) (fun _ _ _ h => h) (Or.inl ⟨by rfl, ?hyr8_13⟩) (by assumption) ?restr8_13
    case hyr8_13 =>
      intro wX hSw
      try dsimp only at hSw
      go_simp
      first
      | done
      | (with_reducible rfl)
    try simp only [Act.put, List.setIfInBounds_toArray, List.set_cons_zero, List.set_cons_succ]
    refine take_at 14 45 _ (v := ?vr8_14) rfl rfl (by kernel_rfl) (by kernel_rfl) (by kernel_rfl) (fun _ _ _ h => h) (Or.inl ⟨by rfl, ?hyr8_14⟩) (by assumption) ?restr8_14
    case hyr8_14 =>
      intro wX hSw
      try dsimp only at hSw
      go_simp
      first
      | done
      | (with_reducible rfl)
    try simp only [Act.put, List.setIfInBounds_toArray, List.set_cons_zero, List.set_cons_succ]
    refine take_at 15 46 _ (v := ?vr8_15) rfl rfl (by kernel_rfl) (by kernel_rfl) (by kernel_rfl) (fun _ _ _ h => h) (Or.inl ⟨by rfl, ?hyr8_15⟩) (by assumption) ?restr8_15
    case hyr8_15 =>
      intro wX hSw
      try dsimp only at hSw
      go_simp
      first
      | done
      | (with_reducible rfl)
    try simp only [Act.put, List.setIfInBounds_toArray, List.set_cons_zero, List.set_cons_succ]
    refine take_at 16 47 _ (v := ?vr8_16) rfl rfl (by kernel_rfl) (by kernel_rfl) (by kernel_rfl) (fun _ _ _ h => h) (Or.inl ⟨by rfl, ?hyr8_16⟩) (by assumption) ?restr8_16
    case hyr8_16 =>
      intro wX hSw
      try dsimp only at hSw
      go_simp
      first
      | done
      | (with_reducible rfl)
    try simp only [Act.put, List.setIfInBounds_toArray, List.set_cons_zero, List.set_cons_succ]
    refine wpAnyH_ready (rs := [7]) (by kernel_rfl) (by simp) ?_
    refine AllReadyH.cons rfl (fun K hK => ?_) AllReadyH.nil
    go_simp
    go_at_call 54
    refine (over_s b k v x2 x3 x4 l ml _ _ _ (HN.out.below HB.out HN.out.lt) (HL.out.below HB.out) (HML.out.below HB.out) (by have h1 := HZ.out; have h2 := HZ2.out; omega)).mono ?_
    rintro e V1 ⟨p, rfl, ht, hb⟩
    obtain ⟨q1, rfl⟩ := ht.isPtr
    have HT1 := Lib.hid ht
    have HBn := Lib.hid (HB.out.trans (hb.mono HB.out.size))
    clear HB
    have HB := HBn
    clear HBn
    have HD1 := Lib.hid hb
    clear hb ht
    try go_wp2_with fail
    refine hK.out _ _ ?_ (fun hHeld2 => ?_)
    · exact HS.out _ HB.out
    clear hK K hHeld
    have hHeld := hHeld2
    clear hHeld2
    try simp only [Act.put, List.setIfInBounds_toArray, List.set_cons_zero, List.set_cons_succ]
    refine wpAnyH_ready (rs := [17]) (by kernel_rfl) (by simp) ?_
    refine AllReadyH.cons rfl (fun K hK => ?_) AllReadyH.nil
    go_simp
    go_at_call 54
    refine (over_s bh hk hv _ _ _ mr hh _ _ _ (HRH.out.below HB.out HRH.out.lt) (HMR.out.below HB.out) (HH.out.below HB.out) (by have h1 := HZ2.out; have h2 := HY.out; omega)).mono ?_
    rintro e V2 ⟨p, rfl, ht, hb⟩
    obtain ⟨q2, rfl⟩ := ht.isPtr
    have HT2 := Lib.hid ht
    have HBn := Lib.hid (HB.out.trans (hb.mono HB.out.size))
    clear HB
    have HB := HBn
    clear HBn
    have HD2 := Lib.hid hb
    clear hb ht
    try go_wp2_with fail
    refine hK.out _ _ ?_ (fun hHeld2 => ?_)
    · exact HS.out _ HB.out
    clear hK K hHeld
    have hHeld := hHeld2
    clear hHeld2
    try simp only [Act.put, List.setIfInBounds_toArray, List.set_cons_zero, List.set_cons_succ]
    refine wpAnyH_ready (rs := [18]) (by kernel_rfl) (by simp) ?_
    refine AllReadyH.cons rfl (fun K hK => ?_) AllReadyH.nil
    go_simp
    go_at_call 54
    refine (over_s bm mk mv _ _ _ (.node l k v ml) (.node mr hk hv hh) _ _ _ (HRM.out.below HB.out HRM.out.lt) (HT1.out.below HD2.out) HT2.out (by have h1 := HZ.out; have h2 := HZ2.out; have h3 := HY.out; simp only [Tr.size]; omega)).mono ?_
    rintro e V3 ⟨p, rfl, ht, hb⟩
    obtain ⟨q3_, rfl⟩ := ht.isPtr
    have HT3 := Lib.hid ht
    have HBn := Lib.hid (HB.out.trans (hb.mono HB.out.size))
    clear HB
    have HB := HBn
    clear HBn
    have HD3 := Lib.hid hb
    clear hb ht
    try go_wp2_with fail
    refine hK.out _ _ ?_ (fun hHeld2 => ?_)
    · exact HS.out _ HB.out
    clear hK K hHeld
    have hHeld := hHeld2
    clear hHeld2
    try simp only [Act.put, List.setIfInBounds_toArray, List.set_cons_zero, List.set_cons_succ]
    refine take_at 19 6 _ (v := ?vr8_19) rfl rfl (by kernel_rfl) (by kernel_rfl) (by kernel_rfl) (fun _ _ _ h => h) (Or.inl ⟨by rfl, ?hyr8_19⟩) (by assumption) ?restr8_19
    case hyr8_19 =>
      intro wX hSw
      try dsimp only at hSw
      go_simp
      first
      | done
      | (with_reducible rfl)
    try simp only [Act.put, List.setIfInBounds_toArray, List.set_cons_zero, List.set_cons_succ]
    refine wpAnyH_done (by kernel_rfl) ?_ _
    refine NoPanic.normal ?_
    go_wp2
    go_ret
    exact ⟨_, rfl, HT3.out, HB.out⟩

set_option maxHeartbeats 4000000 in
theorem lessLow_s (b : Nat) (k : ByteArray) (v : Int) (x2 x3 x4 : Value) (l r : Tr ByteArray Int) (pl pr : Value) (w : World) (hn : Row w b 76 #[.string k, .int .i64 v, x2, x3, x4]) (hl : TmS w l pl) (hr : TmS w r pr) (h2 : 2 ≤ l.size) (hs : l.size + r.size ≤ 1000000000) :
    Calls Try.prog 56 #[.pointer (some ⟨b, 0, none⟩), pl, pr] w fun e w' => ∃ p, e = .returned p ∧ TmS w' (lessLow r k v l) p ∧ Below w.heap.size w w' := by
  obtain ⟨hh, hk, hv, m, rfl⟩ := size_pos (by omega : 0 < l.size)
  obtain ⟨bh, ph, pm, rfl, rH, tH, tM⟩ := hl
  obtain ⟨ql, rfl⟩ := hr.isPtr
  obtain ⟨qm, rfl⟩ := tM.isPtr
  obtain ⟨qh, rfl⟩ := tH.isPtr
  have HL := Lib.hid hr
  have HM := Lib.hid tM
  have HH := Lib.hid tH
  have HN := Lib.hid hn
  have HRH := Lib.hid rH
  have hsz : (Tr.node hh hk hv m).size = hh.size + 1 + m.size := rfl
  obtain ⟨x, hx⟩ : ∃ x, m.size = x := ⟨_, rfl⟩
  obtain ⟨y, hy⟩ : ∃ y, hh.size = y := ⟨_, rfl⟩
  obtain ⟨z, hz⟩ : ∃ z, r.size = z := ⟨_, rfl⟩
  rw [hsz, hx, hy] at h2 hs
  rw [hz] at hs
  have HSM : Hid (∀ W, Below w.heap.size w W → Calls Try.prog 42 #[.pointer qm] W fun e w' => e = .returned (.int .i64 (x : Nat)) ∧ W = w') := Lib.hid (fun W hW => by rw [← hx]; exact size_s _ _ _ (tM.below hW))
  have HSH : Hid (∀ W, Below w.heap.size w W → Calls Try.prog 42 #[.pointer qh] W fun e w' => e = .returned (.int .i64 (y : Nat)) ∧ W = w') := Lib.hid (fun W hW => by rw [← hy]; exact size_s _ _ _ (tH.below hW))
  have w1 : IntKind.i64.wrap (2 * (y : Int)) = 2 * (y : Int) := by rw [IntKind.wrap_i64]; omega
  have HX := Lib.hid hx
  have HY := Lib.hid hy
  have HZ := Lib.hid hz
  have c2 : w.cell? ⟨bh, 2, none⟩ = some (.pointer qh) := (rH.cell 2).trans rfl
  have c3 : w.cell? ⟨bh, 3, none⟩ = some (.pointer qm) := (rH.cell 3).trans rfl
  have HS : Hid (∀ V : World, Below w.heap.size w V → V.cell? ⟨bh, 2, none⟩ = some (.pointer qh) ∧ V.cell? ⟨bh, 3, none⟩ = some (.pointer qm)) := Lib.hid (fun V hV => ⟨((rH.below hV rH.lt).cell 2).trans rfl, ((rH.below hV rH.lt).cell 3).trans rfl⟩)
  have HB : Hid (Below w.heap.size w w.drew) := Lib.hid (Below.refl _ w).drew
  clear hn hr rH tM tH hx hy hz hsz
  by_cases hc : x < 2 * y
  · have e : lessLow r k v (.node hh hk hv m) = .node hh hk hv (.node m k v r) := by
      cases m with
      | leaf => rfl
      | node => simp only [lessLow]; rw [if_pos (by rw [HX.out, HY.out]; exact hc)]
    rw [e]
    clear e
    have hc2 : (x : Int) < 2 * (y : Int) := by omega
    go_enter Try.func56, Try.ntmps56
    go_upto_region 2 with fail
    refine wp_region_noPanic ?_
    refine wp_region_held_drew (S := (fun V => V.cell? ⟨bh, 2, none⟩ = some (.pointer qh) ∧ V.cell? ⟨bh, 3, none⟩ = some (.pointer qm))) (by kernel_rfl) ?_ (fun hHeld => ?_)
    · exact HS.out _ HB.out
    refine take_at 0 12 _ (v := ?vr9_0) rfl rfl (by kernel_rfl) (by kernel_rfl) (by kernel_rfl) (fun _ _ _ h => h) (Or.inl ⟨by rfl, ?hyr9_0⟩) (by assumption) ?restr9_0
    case hyr9_0 =>
      intro wX hSw
      try dsimp only at hSw
      go_simp
      first
      | done
      | (with_reducible rfl)
    try simp only [Act.put, List.setIfInBounds_toArray, List.set_cons_zero, List.set_cons_succ]
    refine take_at 2 14 _ (v := ?vr9_2) rfl rfl (by kernel_rfl) (by kernel_rfl) (by kernel_rfl) (fun _ _ _ h => h) (Or.inl ⟨by rfl, ?hyr9_2⟩) (by assumption) ?restr9_2
    case hyr9_2 =>
      intro wX hSw
      try dsimp only at hSw
      go_simp
      first
      | done
      | (with_reducible rfl)
    try simp only [Act.put, List.setIfInBounds_toArray, List.set_cons_zero, List.set_cons_succ]
    refine take_at 3 15 _ (v := ?vr9_3) rfl rfl (by kernel_rfl) (by kernel_rfl) (by kernel_rfl) (fun _ _ _ h => h) (Or.inl ⟨by rfl, ?hyr9_3⟩) (by assumption) ?restr9_3
    case hyr9_3 =>
      intro wX hSw
      try dsimp only at hSw
      go_simp
      first
      | done
      | (with_reducible rfl)
    try simp only [Act.put, List.setIfInBounds_toArray, List.set_cons_zero, List.set_cons_succ]
    refine take_at 4 16 _ (v := ?vr9_4) rfl rfl (by kernel_rfl) (by kernel_rfl) (by kernel_rfl) (fun _ _ _ h => h) (Or.inl ⟨by rfl, ?hyr9_4⟩) (by assumption) ?restr9_4
    case hyr9_4 =>
      intro wX hSw
      try dsimp only at hSw
      go_simp
      first
      | done
      | (with_reducible rfl)
    try simp only [Act.put, List.setIfInBounds_toArray, List.set_cons_zero, List.set_cons_succ]
    refine take_at 5 17 _ (v := ?vr9_5) rfl rfl (by kernel_rfl) (by kernel_rfl) (by kernel_rfl) (fun _ _ _ h => h) (Or.inl ⟨by rfl, ?hyr9_5⟩) (by assumption) ?restr9_5
    case hyr9_5 =>
      intro wX hSw
      try dsimp only at hSw
      go_simp
      first
      | done
      | (with_reducible rfl)
    try simp only [Act.put, List.setIfInBounds_toArray, List.set_cons_zero, List.set_cons_succ]
    refine wpAnyH_ready (rs := [1]) (by kernel_rfl) (by simp) ?_
    refine AllReadyH.cons rfl (fun K hK => ?_) AllReadyH.nil
    go_simp
    go_at_call 42
    refine (HSM.out _ HB.out).mono ?_
    rintro e w' ⟨rfl, rfl⟩
    try go_wp2_with fail
    refine hK.out _ _ ?_ (fun hHeld2 => ?_)
    · exact HS.out _ HB.out
    clear hK K hHeld
    have hHeld := hHeld2
    clear hHeld2
    try simp only [Act.put, List.setIfInBounds_toArray, List.set_cons_zero, List.set_cons_succ]
    refine wpAnyH_ready (rs := [6]) (by kernel_rfl) (by simp) ?_
    refine AllReadyH.cons rfl (fun K hK => ?_) AllReadyH.nil
    go_simp
    go_at_call 42
    refine (HSH.out _ HB.out).mono ?_
    rintro e w' ⟨rfl, rfl⟩
    try go_wp2_with fail
    refine hK.out _ _ ?_ (fun hHeld2 => ?_)
    · exact HS.out _ HB.out
    clear hK K hHeld
    have hHeld := hHeld2
    clear hHeld2
    try simp only [Act.put, List.setIfInBounds_toArray, List.set_cons_zero, List.set_cons_succ]
    refine take_at 7 19 _ (v := ?vr9_7) rfl rfl (by kernel_rfl) (by kernel_rfl) (by kernel_rfl) (fun _ _ _ h => h) (Or.inl ⟨by rfl, ?hyr9_7⟩) (by assumption) ?restr9_7
    case hyr9_7 =>
      intro wX hSw
      try dsimp only at hSw
      go_simp
      first
      | done
      | (with_reducible rfl)
    try simp only [Act.put, List.setIfInBounds_toArray, List.set_cons_zero, List.set_cons_succ]
    refine take_at 8 20 _ (v := ?vr9_8) rfl rfl (by kernel_rfl) (by kernel_rfl) (by kernel_rfl) (fun _ _ _ h => h) (Or.inl ⟨by rfl, ?hyr9_8⟩) (by assumption) ?restr9_8
    case hyr9_8 =>
      intro wX hSw
      try dsimp only at hSw
      go_simp
      first
      | done
      | (with_reducible rfl)
    try simp only [Act.put, List.setIfInBounds_toArray, List.set_cons_zero, List.set_cons_succ]
    refine wpAnyH_done (by kernel_rfl) ?_ _
    refine NoPanic.normal ?_
    go_upto_region 3 with fail
    clear hHeld HB
    have HB : Hid (Below w.heap.size w w.drew.drew) := Lib.hid (Below.refl _ w).drew.drew
    refine wp_region_noPanic ?_
    refine wp_region_held_drew (S := (fun V => V.cell? ⟨bh, 2, none⟩ = some (.pointer qh) ∧ V.cell? ⟨bh, 3, none⟩ = some (.pointer qm))) (by kernel_rfl) ?_ (fun hHeld => ?_)
    · exact HS.out _ HB.out
    refine take_at 0 21 _ (v := ?vr11_0) rfl rfl (by kernel_rfl) (by kernel_rfl) (by kernel_rfl) (fun _ _ _ h => h) (Or.inl ⟨by rfl, ?hyr11_0⟩) (by assumption) ?restr11_0
    case hyr11_0 =>
      intro wX hSw
      try dsimp only at hSw
      go_simp
      first
      | done
      | (with_reducible rfl)
    try simp only [Act.put, List.setIfInBounds_toArray, List.set_cons_zero, List.set_cons_succ]
    refine take_at 1 22 _ (v := ?vr11_1) rfl rfl (by kernel_rfl) (by kernel_rfl) (by kernel_rfl) (fun _ _ _ h => h) (Or.inl ⟨by rfl, ?hyr11_1⟩) (by assumption) ?restr11_1
    case hyr11_1 =>
      intro wX hSw
      try dsimp only at hSw
      go_simp
      first
      | done
      | (with_reducible rfl)
    try simp only [Act.put, List.setIfInBounds_toArray, List.set_cons_zero, List.set_cons_succ]
    refine take_at 2 23 _ (v := ?vr11_2) rfl rfl (by kernel_rfl) (by kernel_rfl) (by kernel_rfl) (fun _ _ _ h => h) (Or.inl ⟨by rfl, ?hyr11_2⟩) (by assumption) ?restr11_2
    case hyr11_2 =>
      intro wX hSw
      try dsimp only at hSw
      go_simp
      first
      | done
      | (with_reducible rfl)
    try simp only [Act.put, List.setIfInBounds_toArray, List.set_cons_zero, List.set_cons_succ]
    refine take_at 3 24 _ (v := ?vr11_3) rfl rfl (by kernel_rfl) (by kernel_rfl) (by kernel_rfl) (fun _ _ _ h => h) (Or.inl ⟨by rfl, ?hyr11_3⟩) (by assumption) ?restr11_3
    case hyr11_3 =>
      intro wX hSw
      try dsimp only at hSw
      go_simp
      first
      | done
      | (with_reducible rfl)
    try simp only [Act.put, List.setIfInBounds_toArray, List.set_cons_zero, List.set_cons_succ]
    refine take_at 4 25 _ (v := ?vr11_4) rfl rfl (by kernel_rfl) (by kernel_rfl) (by kernel_rfl) (fun _ _ _ h => h) (Or.inl ⟨by rfl, ?hyr11_4⟩) (by assumption) ?restr11_4
    case hyr11_4 =>
      intro wX hSw
      try dsimp only at hSw
      go_simp
      first
      | done
      | (with_reducible rfl)
    try simp only [Act.put, List.setIfInBounds_toArray, List.set_cons_zero, List.set_cons_succ]
    refine take_at 5 26 _ (v := ?vr11_5) rfl rfl (by kernel_rfl) (by kernel_rfl) (by kernel_rfl) (fun _ _ _ h => h) (Or.inl ⟨by rfl, ?hyr11_5⟩) (by assumption) ?restr11_5
    case hyr11_5 =>
      intro wX hSw
      try dsimp only at hSw
      go_simp
      first
      | done
      | (with_reducible rfl)
    try simp only [Act.put, List.setIfInBounds_toArray, List.set_cons_zero, List.set_cons_succ]
    refine take_at 6 27 _ (v := ?vr11_6) rfl rfl (by kernel_rfl) (by kernel_rfl) (by kernel_rfl) (fun _ _ _ h => h) (Or.inl ⟨by rfl, ?hyr11_6⟩) (by assumption) ?restr11_6
    case hyr11_6 =>
      intro wX hSw
      try dsimp only at hSw
      go_simp
      first
      | done
      | (with_reducible rfl)
    try simp only [Act.put, List.setIfInBounds_toArray, List.set_cons_zero, List.set_cons_succ]
    refine take_at 7 28 _ (v := ?vr11_7) rfl rfl (by kernel_rfl) (by kernel_rfl) (by kernel_rfl) (fun _ _ _ h => h) (Or.inl ⟨by rfl, ?hyr11_7⟩) (by assumption) ?restr11_7
    case hyr11_7 =>
      intro wX hSw
      try dsimp only at hSw
      go_simp
      first
      | done
      | (with_reducible rfl)
    try simp only [Act.put, List.setIfInBounds_toArray, List.set_cons_zero, List.set_cons_succ]
    refine wpAnyH_ready (rs := [8]) (by kernel_rfl) (by simp) ?_
    refine AllReadyH.cons rfl (fun K hK => ?_) AllReadyH.nil
    go_simp
    go_at_call 54
    refine (over_s b k v x2 x3 x4 m r _ _ _ (HN.out.below HB.out HN.out.lt) (HM.out.below HB.out) (HL.out.below HB.out) (by rw [HZ.out, HX.out]; omega)).mono ?_
    rintro e V1 ⟨p, rfl, ht, hb⟩
    obtain ⟨q1, rfl⟩ := ht.isPtr
    have HT1 := Lib.hid ht
    have HBn := Lib.hid (HB.out.trans (hb.mono HB.out.size))
    clear HB
    have HB := HBn
    clear HBn
    have HD1 := Lib.hid hb
    clear hb ht
    try go_wp2_with fail
    refine hK.out _ _ ?_ (fun hHeld2 => ?_)
    · exact HS.out _ HB.out
    clear hK K hHeld
    have hHeld := hHeld2
    clear hHeld2
    try simp only [Act.put, List.setIfInBounds_toArray, List.set_cons_zero, List.set_cons_succ]
    refine wpAnyH_ready (rs := [9]) (by kernel_rfl) (by simp) ?_
    refine AllReadyH.cons rfl (fun K hK => ?_) AllReadyH.nil
    go_simp
    go_at_call 54
    refine (over_s bh hk hv _ _ _ hh (.node m k v r) _ _ _ (HRH.out.below HB.out HRH.out.lt) (HH.out.below HB.out) HT1.out (by have h1 := HZ.out; have h2 := HX.out; have h3 := HY.out; simp only [Tr.size]; omega)).mono ?_
    rintro e V2 ⟨p, rfl, ht, hb⟩
    obtain ⟨q2, rfl⟩ := ht.isPtr
    have HT2 := Lib.hid ht
    have HBn := Lib.hid (HB.out.trans (hb.mono HB.out.size))
    clear HB
    have HB := HBn
    clear HBn
    have HD2 := Lib.hid hb
    clear hb ht
    try go_wp2_with fail
    refine hK.out _ _ ?_ (fun hHeld2 => ?_)
    · exact HS.out _ HB.out
    clear hK K hHeld
    have hHeld := hHeld2
    clear hHeld2
    try simp only [Act.put, List.setIfInBounds_toArray, List.set_cons_zero, List.set_cons_succ]
    refine take_at 10 6 _ (v := ?vr11_10) rfl rfl (by kernel_rfl) (by kernel_rfl) (by kernel_rfl) (fun _ _ _ h => h) (Or.inl ⟨by rfl, ?hyr11_10⟩) (by assumption) ?restr11_10
    case hyr11_10 =>
      intro wX hSw
      try dsimp only at hSw
      go_simp
      first
      | done
      | (with_reducible rfl)
    try simp only [Act.put, List.setIfInBounds_toArray, List.set_cons_zero, List.set_cons_succ]
    refine wpAnyH_done (by kernel_rfl) ?_ _
    refine NoPanic.normal ?_
    go_wp2
    go_ret
    exact ⟨_, rfl, HT2.out, HB.out⟩
  · obtain ⟨ml, mk, mv, mr, rfl⟩ := size_pos (by have := HX.out; omega : 0 < m.size)
    have e : lessLow r k v (.node hh hk hv (.node ml mk mv mr)) = .node (.node hh hk hv ml) mk mv (.node mr k v r) := by
      simp only [lessLow]; rw [if_neg (by rw [HX.out, HY.out]; exact hc)]
    rw [e]
    clear e
    obtain ⟨bm, p3, p4, e3, rM, tML, tMR⟩ := HM.out
    obtain ⟨q3, rfl⟩ := tML.isPtr
    obtain ⟨q4, rfl⟩ := tMR.isPtr
    injection e3 with e3
    subst e3
    have HRM := Lib.hid rM
    have HML := Lib.hid tML
    have HMR := Lib.hid tMR
    have hsz2 : (Tr.node ml mk mv mr).size = ml.size + 1 + mr.size := rfl
    have HZ2 : Hid (ml.size + 1 + mr.size = x) := Lib.hid (by rw [← hsz2]; exact HX.out)
    have HS : Hid (∀ V : World, Below w.heap.size w V → (V.cell? ⟨bh, 2, none⟩ = some (.pointer qh) ∧ V.cell? ⟨bh, 3, none⟩ = some (.pointer (some ⟨bm, 0, none⟩))) ∧ V.cell? ⟨bm, 2, none⟩ = some (.pointer q3) ∧ V.cell? ⟨bm, 3, none⟩ = some (.pointer q4)) := Lib.hid (fun V hV => ⟨HS.out V hV, ((rM.below hV rM.lt).cell 2).trans rfl, ((rM.below hV rM.lt).cell 3).trans rfl⟩)
    have hc2 : ¬ (x : Int) < 2 * (y : Int) := by omega
    clear hsz2 rM tML tMR
    go_enter Try.func56, Try.ntmps56
    go_upto_region 2 with fail
    refine wp_region_noPanic ?_
    refine wp_region_held_drew (S := (fun V => (V.cell? ⟨bh, 2, none⟩ = some (.pointer qh) ∧ V.cell? ⟨bh, 3, none⟩ = some (.pointer (some ⟨bm, 0, none⟩))) ∧ V.cell? ⟨bm, 2, none⟩ = some (.pointer q3) ∧ V.cell? ⟨bm, 3, none⟩ = some (.pointer q4))) (by kernel_rfl) ?_ (fun hHeld => ?_)
    · exact HS.out _ HB.out
    refine take_at 0 12 _ (v := ?vr10_0) rfl rfl (by kernel_rfl) (by kernel_rfl) (by kernel_rfl) (fun _ _ _ h => h) (Or.inl ⟨by rfl, ?hyr10_0⟩) (by assumption) ?restr10_0
    case hyr10_0 =>
      intro wX hSw
      try dsimp only at hSw
      go_simp
      first
      | done
      | (with_reducible rfl)
    try simp only [Act.put, List.setIfInBounds_toArray, List.set_cons_zero, List.set_cons_succ]
    refine take_at 2 14 _ (v := ?vr10_2) rfl rfl (by kernel_rfl) (by kernel_rfl) (by kernel_rfl) (fun _ _ _ h => h) (Or.inl ⟨by rfl, ?hyr10_2⟩) (by assumption) ?restr10_2
    case hyr10_2 =>
      intro wX hSw
      try dsimp only at hSw
      go_simp
      first
      | done
      | (with_reducible rfl)
    try simp only [Act.put, List.setIfInBounds_toArray, List.set_cons_zero, List.set_cons_succ]
    refine take_at 3 15 _ (v := ?vr10_3) rfl rfl (by kernel_rfl) (by kernel_rfl) (by kernel_rfl) (fun _ _ _ h => h) (Or.inl ⟨by rfl, ?hyr10_3⟩) (by assumption) ?restr10_3
    case hyr10_3 =>
      intro wX hSw
      try dsimp only at hSw
      go_simp
      first
      | done
      | (with_reducible rfl)
    try simp only [Act.put, List.setIfInBounds_toArray, List.set_cons_zero, List.set_cons_succ]
    refine take_at 4 16 _ (v := ?vr10_4) rfl rfl (by kernel_rfl) (by kernel_rfl) (by kernel_rfl) (fun _ _ _ h => h) (Or.inl ⟨by rfl, ?hyr10_4⟩) (by assumption) ?restr10_4
    case hyr10_4 =>
      intro wX hSw
      try dsimp only at hSw
      go_simp
      first
      | done
      | (with_reducible rfl)
    try simp only [Act.put, List.setIfInBounds_toArray, List.set_cons_zero, List.set_cons_succ]
    refine take_at 5 17 _ (v := ?vr10_5) rfl rfl (by kernel_rfl) (by kernel_rfl) (by kernel_rfl) (fun _ _ _ h => h) (Or.inl ⟨by rfl, ?hyr10_5⟩) (by assumption) ?restr10_5
    case hyr10_5 =>
      intro wX hSw
      try dsimp only at hSw
      go_simp
      first
      | done
      | (with_reducible rfl)
    try simp only [Act.put, List.setIfInBounds_toArray, List.set_cons_zero, List.set_cons_succ]
    refine wpAnyH_ready (rs := [1]) (by kernel_rfl) (by simp) ?_
    refine AllReadyH.cons rfl (fun K hK => ?_) AllReadyH.nil
    go_simp
    go_at_call 42
    refine (HSM.out _ HB.out).mono ?_
    rintro e w' ⟨rfl, rfl⟩
    try go_wp2_with fail
    refine hK.out _ _ ?_ (fun hHeld2 => ?_)
    · exact HS.out _ HB.out
    clear hK K hHeld
    have hHeld := hHeld2
    clear hHeld2
    try simp only [Act.put, List.setIfInBounds_toArray, List.set_cons_zero, List.set_cons_succ]
    refine wpAnyH_ready (rs := [6]) (by kernel_rfl) (by simp) ?_
    refine AllReadyH.cons rfl (fun K hK => ?_) AllReadyH.nil
    go_simp
    go_at_call 42
    refine (HSH.out _ HB.out).mono ?_
    rintro e w' ⟨rfl, rfl⟩
    try go_wp2_with fail
    refine hK.out _ _ ?_ (fun hHeld2 => ?_)
    · exact HS.out _ HB.out
    clear hK K hHeld
    have hHeld := hHeld2
    clear hHeld2
    try simp only [Act.put, List.setIfInBounds_toArray, List.set_cons_zero, List.set_cons_succ]
    refine take_at 7 19 _ (v := ?vr10_7) rfl rfl (by kernel_rfl) (by kernel_rfl) (by kernel_rfl) (fun _ _ _ h => h) (Or.inl ⟨by rfl, ?hyr10_7⟩) (by assumption) ?restr10_7
    case hyr10_7 =>
      intro wX hSw
      try dsimp only at hSw
      go_simp
      first
      | done
      | (with_reducible rfl)
    try simp only [Act.put, List.setIfInBounds_toArray, List.set_cons_zero, List.set_cons_succ]
    refine take_at 8 20 _ (v := ?vr10_8) rfl rfl (by kernel_rfl) (by kernel_rfl) (by kernel_rfl) (fun _ _ _ h => h) (Or.inl ⟨by rfl, ?hyr10_8⟩) (by assumption) ?restr10_8
    case hyr10_8 =>
      intro wX hSw
      try dsimp only at hSw
      go_simp
      first
      | done
      | (with_reducible rfl)
    try simp only [Act.put, List.setIfInBounds_toArray, List.set_cons_zero, List.set_cons_succ]
    refine wpAnyH_done (by kernel_rfl) ?_ _
    refine NoPanic.normal ?_
    go_upto_region 4 with fail
    clear hHeld HB
    have HB : Hid (Below w.heap.size w w.drew.drew) := Lib.hid (Below.refl _ w).drew.drew
    refine wp_region_noPanic ?_
    refine wp_region_held_drew (S := (fun V => (V.cell? ⟨bh, 2, none⟩ = some (.pointer qh) ∧ V.cell? ⟨bh, 3, none⟩ = some (.pointer (some ⟨bm, 0, none⟩))) ∧ V.cell? ⟨bm, 2, none⟩ = some (.pointer q3) ∧ V.cell? ⟨bm, 3, none⟩ = some (.pointer q4))) (by kernel_rfl) ?_ (fun hHeld => ?_)
    · exact HS.out _ HB.out
    refine take_at 0 31 _ (v := ?vr12_0) rfl rfl (by kernel_rfl) (by kernel_rfl) (by kernel_rfl) (fun _ _ _ h => h) (Or.inl ⟨by rfl, ?hyr12_0⟩) (by assumption) ?restr12_0
    case hyr12_0 =>
      intro wX hSw
      try dsimp only at hSw
      go_simp
      first
      | done
      | (with_reducible rfl)
    try simp only [Act.put, List.setIfInBounds_toArray, List.set_cons_zero, List.set_cons_succ]
    refine take_at 1 32 _ (v := ?vr12_1) rfl rfl (by kernel_rfl) (by kernel_rfl) (by kernel_rfl) (fun _ _ _ h => h) (Or.inl ⟨by rfl, ?hyr12_1⟩) (by assumption) ?restr12_1
    case hyr12_1 =>
      intro wX hSw
      try dsimp only at hSw
      go_simp
      first
      | done
      | (with_reducible rfl)
    try simp only [Act.put, List.setIfInBounds_toArray, List.set_cons_zero, List.set_cons_succ]
    refine take_at 2 33 _ (v := ?vr12_2) rfl rfl (by kernel_rfl) (by kernel_rfl) (by kernel_rfl) (fun _ _ _ h => h) (Or.inl ⟨by rfl, ?hyr12_2⟩) (by assumption) ?restr12_2
    case hyr12_2 =>
      intro wX hSw
      try dsimp only at hSw
      go_simp
      first
      | done
      | (with_reducible rfl)
    try simp only [Act.put, List.setIfInBounds_toArray, List.set_cons_zero, List.set_cons_succ]
    refine take_at 3 34 _ (v := ?vr12_3) rfl rfl (by kernel_rfl) (by kernel_rfl) (by kernel_rfl) (fun _ _ _ h => h) (Or.inl ⟨by rfl, ?hyr12_3⟩) (by assumption) ?restr12_3
    case hyr12_3 =>
      intro wX hSw
      try dsimp only at hSw
      go_simp
      first
      | done
      | (with_reducible rfl)
    try simp only [Act.put, List.setIfInBounds_toArray, List.set_cons_zero, List.set_cons_succ]
    refine take_at 4 35 _ (v := ?vr12_4) rfl rfl (by kernel_rfl) (by kernel_rfl) (by kernel_rfl) (fun _ _ _ h => h) (Or.inl ⟨by rfl, ?hyr12_4⟩) (by assumption) ?restr12_4
    case hyr12_4 =>
      intro wX hSw
      try dsimp only at hSw
      go_simp
      first
      | done
      | (with_reducible rfl)
    try simp only [Act.put, List.setIfInBounds_toArray, List.set_cons_zero, List.set_cons_succ]
    refine take_at 5 36 _ (v := ?vr12_5) rfl rfl (by kernel_rfl) (by kernel_rfl) (by kernel_rfl) (fun _ _ _ h => h) (Or.inl ⟨by rfl, ?hyr12_5⟩) (by assumption) ?restr12_5
    case hyr12_5 =>
      intro wX hSw
      try dsimp only at hSw
      go_simp
      first
      | done
      | (with_reducible rfl)
    try simp only [Act.put, List.setIfInBounds_toArray, List.set_cons_zero, List.set_cons_succ]
    refine take_at 6 37 _ (v := ?vr12_6) rfl rfl (by kernel_rfl) (by kernel_rfl) (by kernel_rfl) (fun _ _ _ h => h) (Or.inl ⟨by rfl, ?hyr12_6⟩) (by assumption) ?restr12_6
    case hyr12_6 =>
      intro wX hSw
      try dsimp only at hSw
      go_simp
      first
      | done
      | (with_reducible rfl)
    try simp only [Act.put, List.setIfInBounds_toArray, List.set_cons_zero, List.set_cons_succ]
    refine take_at 7 38 _ (v := ?vr12_7) rfl rfl (by kernel_rfl) (by kernel_rfl) (by kernel_rfl) (fun _ _ _ h => h) (Or.inl ⟨by rfl, ?hyr12_7⟩) (by assumption) ?restr12_7
    case hyr12_7 =>
      intro wX hSw
      try dsimp only at hSw
      go_simp
      first
      | done
      | (with_reducible rfl)
    try simp only [Act.put, List.setIfInBounds_toArray, List.set_cons_zero, List.set_cons_succ]
    refine take_at 8 39 _ (v := ?vr12_8) rfl rfl (by kernel_rfl) (by kernel_rfl) (by kernel_rfl) (fun _ _ _ h => h) (Or.inl ⟨by rfl, ?hyr12_8⟩) (by assumption) ?restr12_8
    case hyr12_8 =>
      intro wX hSw
      try dsimp only at hSw
      go_simp
      first
      | done
      | (with_reducible rfl)
    try simp only [Act.put, List.setIfInBounds_toArray, List.set_cons_zero, List.set_cons_succ]
    refine take_at 9 40 _ (v := ?vr12_9) rfl rfl (by kernel_rfl) (by kernel_rfl) (by kernel_rfl) (fun _ _ _ h => h) (Or.inl ⟨by rfl, ?hyr12_9⟩) (by assumption) ?restr12_9
    case hyr12_9 =>
      intro wX hSw
      try dsimp only at hSw
      go_simp
      first
      | done
      | (with_reducible rfl)
    try simp only [Act.put, List.setIfInBounds_toArray, List.set_cons_zero, List.set_cons_succ]
    refine take_at 11 42 _ (v := ?vr12_11) rfl rfl (by kernel_rfl) (by kernel_rfl) (by kernel_rfl) (fun _ _ _ h => h) (Or.inl ⟨by rfl, ?hyr12_11⟩) (by assumption) ?restr12_11
    case hyr12_11 =>
      intro wX hSw
      try dsimp only at hSw
      go_simp
      first
      | done
      | (with_reducible rfl)
    try simp only [Act.put, List.setIfInBounds_toArray, List.set_cons_zero, List.set_cons_succ]
    refine take_at 12 43 _ (v := ?vr12_12) rfl rfl (by kernel_rfl) (by kernel_rfl) (by kernel_rfl) (fun _ _ _ h => h) (Or.inl ⟨by rfl, ?hyr12_12⟩) (by assumption) ?restr12_12
    case hyr12_12 =>
      intro wX hSw
      try dsimp only at hSw
      go_simp
      first
      | done
      | (with_reducible rfl)
    try simp only [Act.put, List.setIfInBounds_toArray, List.set_cons_zero, List.set_cons_succ]
    refine take_at 13 44 _ (v := ?vr12_13) rfl rfl (by kernel_rfl) (by kernel_rfl) (by kernel_rfl) (fun _ _ _ h => h) (Or.inl ⟨by rfl, ?hyr12_13⟩) (by assumption) ?restr12_13
    case hyr12_13 =>
      intro wX hSw
      try dsimp only at hSw
      go_simp
      first
      | done
      | (with_reducible rfl)
    try simp only [Act.put, List.setIfInBounds_toArray, List.set_cons_zero, List.set_cons_succ]
    refine take_at 14 45 _ (v := ?vr12_14) rfl rfl (by kernel_rfl) (by kernel_rfl) (by kernel_rfl) (fun _ _ _ h => h) (Or.inl ⟨by rfl, ?hyr12_14⟩) (by assumption) ?restr12_14
    case hyr12_14 =>
      intro wX hSw
      try dsimp only at hSw
      go_simp
      first
      | done
      | (with_reducible rfl)
    try simp only [Act.put, List.setIfInBounds_toArray, List.set_cons_zero, List.set_cons_succ]
    refine take_at 15 46 _ (v := ?vr12_15) rfl rfl (by kernel_rfl) (by kernel_rfl) (by kernel_rfl) (fun _ _ _ h => h) (Or.inl ⟨by rfl, ?hyr12_15⟩) (by assumption) ?restr12_15
    case hyr12_15 =>
      intro wX hSw
      try dsimp only at hSw
      go_simp
      first
      | done
      | (with_reducible rfl)
    try simp only [Act.put, List.setIfInBounds_toArray, List.set_cons_zero, List.set_cons_succ]
    refine take_at 16 47 _ (v := ?vr12_16) rfl rfl (by kernel_rfl) (by kernel_rfl) (by kernel_rfl) (fun _ _ _ h => h) (Or.inl ⟨by rfl, ?hyr12_16⟩) (by assumption) ?restr12_16
    case hyr12_16 =>
      intro wX hSw
      try dsimp only at hSw
      go_simp
      first
      | done
      | (with_reducible rfl)
    try simp only [Act.put, List.setIfInBounds_toArray, List.set_cons_zero, List.set_cons_succ]
    refine wpAnyH_ready (rs := [10]) (by kernel_rfl) (by simp) ?_
    refine AllReadyH.cons rfl (fun K hK => ?_) AllReadyH.nil
    go_simp
    go_at_call 54
    refine (over_s bh hk hv _ _ _ hh ml _ _ _ (HRH.out.below HB.out HRH.out.lt) (HH.out.below HB.out) (HML.out.below HB.out) (by have h1 := HY.out; have h2 := HZ2.out; omega)).mono ?_
    rintro e V1 ⟨p, rfl, ht, hb⟩
    obtain ⟨q1, rfl⟩ := ht.isPtr
    have HT1 := Lib.hid ht
    have HBn := Lib.hid (HB.out.trans (hb.mono HB.out.size))
    clear HB
    have HB := HBn
    clear HBn
    have HD1 := Lib.hid hb
    clear hb ht
    try go_wp2_with fail
    refine hK.out _ _ ?_ (fun hHeld2 => ?_)
    · exact HS.out _ HB.out
    clear hK K hHeld
    have hHeld := hHeld2
    clear hHeld2
    try simp only [Act.put, List.setIfInBounds_toArray, List.set_cons_zero, List.set_cons_succ]
    refine wpAnyH_ready (rs := [17]) (by kernel_rfl) (by simp) ?_
    refine AllReadyH.cons rfl (fun K hK => ?_) AllReadyH.nil
    go_simp
    go_at_call 54
    refine (over_s b k v x2 x3 x4 mr r _ _ _ (HN.out.below HB.out HN.out.lt) (HMR.out.below HB.out) (HL.out.below HB.out) (by have h1 := HZ2.out; have h2 := HZ.out; omega)).mono ?_
    rintro e V2 ⟨p, rfl, ht, hb⟩
    obtain ⟨q2, rfl⟩ := ht.isPtr
    have HT2 := Lib.hid ht
    have HBn := Lib.hid (HB.out.trans (hb.mono HB.out.size))
    clear HB
    have HB := HBn
    clear HBn
    have HD2 := Lib.hid hb
    clear hb ht
    try go_wp2_with fail
    refine hK.out _ _ ?_ (fun hHeld2 => ?_)
    · exact HS.out _ HB.out
    clear hK K hHeld
    have hHeld := hHeld2
    clear hHeld2
    try simp only [Act.put, List.setIfInBounds_toArray, List.set_cons_zero, List.set_cons_succ]
    refine wpAnyH_ready (rs := [18]) (by kernel_rfl) (by simp) ?_
    refine AllReadyH.cons rfl (fun K hK => ?_) AllReadyH.nil
    go_simp
    go_at_call 54
    refine (over_s bm mk mv _ _ _ (.node hh hk hv ml) (.node mr k v r) _ _ _ (HRM.out.below HB.out HRM.out.lt) (HT1.out.below HD2.out) HT2.out (by have h1 := HZ.out; have h2 := HZ2.out; have h3 := HY.out; simp only [Tr.size]; omega)).mono ?_
    rintro e V3 ⟨p, rfl, ht, hb⟩
    obtain ⟨q3_, rfl⟩ := ht.isPtr
    have HT3 := Lib.hid ht
    have HBn := Lib.hid (HB.out.trans (hb.mono HB.out.size))
    clear HB
    have HB := HBn
    clear HBn
    have HD3 := Lib.hid hb
    clear hb ht
    try go_wp2_with fail
    refine hK.out _ _ ?_ (fun hHeld2 => ?_)
    · exact HS.out _ HB.out
    clear hK K hHeld
    have hHeld := hHeld2
    clear hHeld2
    try simp only [Act.put, List.setIfInBounds_toArray, List.set_cons_zero, List.set_cons_succ]
    refine take_at 19 6 _ (v := ?vr12_19) rfl rfl (by kernel_rfl) (by kernel_rfl) (by kernel_rfl) (fun _ _ _ h => h) (Or.inl ⟨by rfl, ?hyr12_19⟩) (by assumption) ?restr12_19
    case hyr12_19 =>
      intro wX hSw
      try dsimp only at hSw
      go_simp
      first
      | done
      | (with_reducible rfl)
    try simp only [Act.put, List.setIfInBounds_toArray, List.set_cons_zero, List.set_cons_succ]
    refine wpAnyH_done (by kernel_rfl) ?_ _
    refine NoPanic.normal ?_
    go_wp2
    go_ret
    exact ⟨_, rfl, HT3.out, HB.out⟩

set_option maxHeartbeats 2000000 in
theorem between_s (b : Nat) (k : ByteArray) (v : Int) (x2 x3 x4 : Value) (l r : Tr ByteArray Int) (pl pr : Value) (w : World) (hn : Row w b 76 #[.string k, .int .i64 v, x2, x3, x4]) (hl : TmS w l pl) (hr : TmS w r pr) (hs : l.size + r.size ≤ 1000000000) :
    Calls Try.prog 47 #[.pointer (some ⟨b, 0, none⟩), pl, pr] w fun e w' => ∃ p, e = .returned p ∧ TmS w' (bet l k v r) p ∧ Below w.heap.size w w' := by
  obtain ⟨ql, rfl⟩ := hl.isPtr
  obtain ⟨qr, rfl⟩ := hr.isPtr
  obtain ⟨x, hx⟩ : ∃ x, l.size = x := ⟨_, rfl⟩
  obtain ⟨y, hy⟩ : ∃ y, r.size = y := ⟨_, rfl⟩
  have HSL : Hid (Calls Try.prog 42 #[.pointer ql] w fun e w' => e = .returned (.int .i64 (x : Nat)) ∧ w = w') := Lib.hid (by rw [← hx]; exact size_s _ _ _ hl)
  have HSR : Hid (Calls Try.prog 42 #[.pointer qr] w fun e w' => e = .returned (.int .i64 (y : Nat)) ∧ w = w') := Lib.hid (by rw [← hy]; exact size_s _ _ _ hr)
  have HO := Lib.hid (over_s b k v x2 x3 x4 l r _ _ w hn hl hr hs)
  have HH : Hid (2 ≤ r.size → Calls Try.prog 55 #[.pointer (some ⟨b, 0, none⟩), .pointer ql, .pointer qr] w fun e w' => ∃ p, e = .returned p ∧ TmS w' (lessHigh l k v r) p ∧ Below w.heap.size w w') := Lib.hid (fun h2 => lessHigh_s b k v x2 x3 x4 l r _ _ w hn hl hr h2 hs)
  have HW : Hid (2 ≤ l.size → Calls Try.prog 56 #[.pointer (some ⟨b, 0, none⟩), .pointer ql, .pointer qr] w fun e w' => ∃ p, e = .returned p ∧ TmS w' (lessLow r k v l) p ∧ Below w.heap.size w w') := Lib.hid (fun h2 => lessLow_s b k v x2 x3 x4 l r _ _ w hn hl hr h2 hs)
  rw [hx, hy] at hs
  have w0 : IntKind.i64.wrap ((x : Int) + (y : Int)) = (x : Int) + (y : Int) := by rw [IntKind.wrap_i64]; omega
  have w1 : IntKind.i64.wrap (3 * (x : Int)) = 3 * (x : Int) := by rw [IntKind.wrap_i64]; omega
  have w2 : IntKind.i64.wrap (3 * (y : Int)) = 3 * (y : Int) := by rw [IntKind.wrap_i64]; omega
  have HE : Hid (bet l k v r = if x + y < 2 then .node l k v r else if 3 * x < y then lessHigh l k v r else if 3 * y < x then lessLow r k v l else .node l k v r) := Lib.hid (by unfold bet; rw [hx, hy])
  have HX := Lib.hid hx
  have HY := Lib.hid hy
  clear hn hl hr hx hy
  by_cases c1 : x + y < 2
  · rw [HE.out, if_pos c1]
    have d1 : (x : Int) + (y : Int) < 2 := by omega
    go_enter Try.func47, Try.ntmps47
    go_wp2_with ((first | (go_at_call 42; first | (with_reducible refine HSL.out.mono ?_; rintro e w1 ⟨rfl, rfl⟩) | (with_reducible refine HSR.out.mono ?_; rintro e w1 ⟨rfl, rfl⟩)) | (go_at_call 54; refine HO.out.mono ?_; rintro e w1 ⟨p, rfl, ht, hb⟩; have ht := Lib.hid ht; have hb := Lib.hid hb) | (go_at_call 55; refine (HH.out h2).mono ?_; rintro e w1 ⟨p, rfl, ht, hb⟩; have ht := Lib.hid ht; have hb := Lib.hid hb) | (go_at_call 56; refine (HW.out h2).mono ?_; rintro e w1 ⟨p, rfl, ht, hb⟩; have ht := Lib.hid ht; have hb := Lib.hid hb)))
    go_ret
    exact ⟨_, rfl, ht.out, hb.out⟩
  · rw [HE.out, if_neg c1]
    have d1 : ¬ (x : Int) + (y : Int) < 2 := by omega
    by_cases c2 : 3 * x < y
    · rw [if_pos c2]
      have d2 : 3 * (x : Int) < (y : Int) := by omega
      have h2 : 2 ≤ r.size := by rw [HY.out]; omega
      go_enter Try.func47, Try.ntmps47
      go_wp2_with ((first | (go_at_call 42; first | (with_reducible refine HSL.out.mono ?_; rintro e w1 ⟨rfl, rfl⟩) | (with_reducible refine HSR.out.mono ?_; rintro e w1 ⟨rfl, rfl⟩)) | (go_at_call 54; refine HO.out.mono ?_; rintro e w1 ⟨p, rfl, ht, hb⟩; have ht := Lib.hid ht; have hb := Lib.hid hb) | (go_at_call 55; refine (HH.out h2).mono ?_; rintro e w1 ⟨p, rfl, ht, hb⟩; have ht := Lib.hid ht; have hb := Lib.hid hb) | (go_at_call 56; refine (HW.out h2).mono ?_; rintro e w1 ⟨p, rfl, ht, hb⟩; have ht := Lib.hid ht; have hb := Lib.hid hb)))
      go_ret
      exact ⟨_, rfl, ht.out, hb.out⟩
    · rw [if_neg c2]
      have d2 : ¬ 3 * (x : Int) < (y : Int) := by omega
      by_cases c3 : 3 * y < x
      · rw [if_pos c3]
        have d3 : 3 * (y : Int) < (x : Int) := by omega
        have h2 : 2 ≤ l.size := by rw [HX.out]; omega
        go_enter Try.func47, Try.ntmps47
        go_wp2_with ((first | (go_at_call 42; first | (with_reducible refine HSL.out.mono ?_; rintro e w1 ⟨rfl, rfl⟩) | (with_reducible refine HSR.out.mono ?_; rintro e w1 ⟨rfl, rfl⟩)) | (go_at_call 54; refine HO.out.mono ?_; rintro e w1 ⟨p, rfl, ht, hb⟩; have ht := Lib.hid ht; have hb := Lib.hid hb) | (go_at_call 55; refine (HH.out h2).mono ?_; rintro e w1 ⟨p, rfl, ht, hb⟩; have ht := Lib.hid ht; have hb := Lib.hid hb) | (go_at_call 56; refine (HW.out h2).mono ?_; rintro e w1 ⟨p, rfl, ht, hb⟩; have ht := Lib.hid ht; have hb := Lib.hid hb)))
        go_ret
        exact ⟨_, rfl, ht.out, hb.out⟩
      · rw [if_neg c3]
        have d3 : ¬ 3 * (y : Int) < (x : Int) := by omega
        go_enter Try.func47, Try.ntmps47
        go_wp2_with ((first | (go_at_call 42; first | (with_reducible refine HSL.out.mono ?_; rintro e w1 ⟨rfl, rfl⟩) | (with_reducible refine HSR.out.mono ?_; rintro e w1 ⟨rfl, rfl⟩)) | (go_at_call 54; refine HO.out.mono ?_; rintro e w1 ⟨p, rfl, ht, hb⟩; have ht := Lib.hid ht; have hb := Lib.hid hb) | (go_at_call 55; refine (HH.out h2).mono ?_; rintro e w1 ⟨p, rfl, ht, hb⟩; have ht := Lib.hid ht; have hb := Lib.hid hb) | (go_at_call 56; refine (HW.out h2).mono ?_; rintro e w1 ⟨p, rfl, ht, hb⟩; have ht := Lib.hid ht; have hb := Lib.hid hb)))
        go_ret
        exact ⟨_, rfl, ht.out, hb.out⟩
end Go.Proofs.Ytnibmfijkbfaeaa.Om
