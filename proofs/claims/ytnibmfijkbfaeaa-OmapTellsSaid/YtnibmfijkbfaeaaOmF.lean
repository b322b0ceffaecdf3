/- Trees in memory, keys that are texts: what each call comes to (written by gen_omc). -/
import Derived.Test.YtnibmfijkbfaeaaOmD
import Derived.Test.YtnibmfijkbfaeaaOmG
import Derived.Deep.DeepCutAuto
import Derived.Deep.CutBlock
import Derived.BigRegion
import Derived.Deep.RegionLaw
import Derived.Deep.RegionHeld3
import Derived.Deep.RegionHeld
import Derived.BigQuiet
namespace Go.Proofs.Ytnibmfijkbfaeaa.Om
open Go.RowKit Go.Proofs.Ytnibmfijkbfaeaa
set_option linter.unusedVariables false
set_option linter.unusedSimpArgs false
set_option maxRecDepth 100000
open Key (lt)

set_option maxHeartbeats 4000000 in
theorem with_s (k : ByteArray) (v : Int) : ∀ (t : Tr ByteArray Int) (p : Value) (w : World), TmS w t p → t.size ≤ 100000000 →
    Calls Try.prog 37 #[p, .string k, .int .i64 v] w fun e w' => ∃ p', e = .returned p' ∧ TmS w' (wth k v t) p' ∧ Below w.heap.size w w'
  | .leaf, p, w, h, _ => by
    obtain rfl : p = .pointer none := h
    go_enter Try.func37, Try.ntmps37
    go_wp2
    go_ret
    have hb : Below w.heap.size w (w.alloc (.cells #[.string k, .int .i64 v, .pointer none, .pointer none, .int .i64 1] 76)) := (Below.refl _ w).alloc (Nat.le_refl _) _
    exact ⟨_, rfl, ⟨_, _, _, rfl, Row.made w _ _, rfl, rfl⟩, hb⟩
  | .node l a b r, p, w, h, hs => by
    obtain ⟨g, pl, pr, rfl, rw0, tl, tr⟩ := h
    obtain ⟨ql, rfl⟩ := tl.isPtr
    obtain ⟨qr, rfl⟩ := tr.isPtr
    have hsz : (Tr.node l a b r).size = l.size + 1 + r.size := rfl
    have IHL : Hid (∀ W : World, Below w.heap.size w W → Calls Try.prog 37 #[.pointer ql, .string k, .int .i64 v] W fun e w' => ∃ p', e = .returned p' ∧ TmS w' (wth k v l) p' ∧ Below W.heap.size W w') := Lib.hid (fun W hW => with_s k v l _ W (tl.below hW) (by omega))
    have IHR : Hid (∀ W : World, Below w.heap.size w W → Calls Try.prog 37 #[.pointer qr, .string k, .int .i64 v] W fun e w' => ∃ p', e = .returned p' ∧ TmS w' (wth k v r) p' ∧ Below W.heap.size W w') := Lib.hid (fun W hW => with_s k v r _ W (tr.below hW) (by omega))
    have HLl : Hid ((wth k v l).size ≤ l.size + 1) := Lib.hid (wth_le k v l)
    have HLr : Hid ((wth k v r).size ≤ r.size + 1) := Lib.hid (wth_le k v r)
    have HSZ : Hid (l.size + r.size ≤ 100000000) := Lib.hid (by omega)
    have HR := Lib.hid rw0
    have TL := Lib.hid tl
    have TR := Lib.hid tr
    have c0 : w.cell? ⟨g, 0, none⟩ = some (.string a) := (rw0.cell 0).trans rfl
    have HS2 : Hid (∀ V : World, Below w.heap.size w V → V.cell? ⟨g, 2, none⟩ = some (.pointer ql) ∧ V.cell? ⟨g, 3, none⟩ = some (.pointer qr)) := Lib.hid (fun V hV => ⟨((rw0.below hV rw0.lt).cell 2).trans rfl, ((rw0.below hV rw0.lt).cell 3).trans rfl⟩)
    have HS5 : Hid (∀ V : World, Below w.heap.size w V → (V.cell? ⟨g, 0, none⟩ = some (.string a) ∧ V.cell? ⟨g, 2, none⟩ = some (.pointer ql)) ∧ V.cell? ⟨g, 3, none⟩ = some (.pointer qr) ∧ V.cell? ⟨g, 4, none⟩ = some (.int .i64 ((Tr.node l a b r).size : Nat))) := Lib.hid (fun V hV => ⟨⟨((rw0.below hV rw0.lt).cell 0).trans rfl, ((rw0.below hV rw0.lt).cell 2).trans rfl⟩, ((rw0.below hV rw0.lt).cell 3).trans rfl, ((rw0.below hV rw0.lt).cell 4).trans rfl⟩)
    have HB : Hid (Below w.heap.size w w.drew) := Lib.hid (Below.refl _ w).drew
    have hgl : g < w.heap.size := rw0.lt
    clear rw0 tl tr hs hsz
    by_cases h1 : lt k a
    · have e : wth k v (.node l a b r) = bet (wth k v l) a b r := by rw [wth]; exact if_pos h1
      have hc : cmpK k a = -1 := if_pos h1
      rw [e]
      clear e
      go_enter Try.func37, Try.ntmps37
      go_upto_region 5 with (go_at_call 46; refine (cmp_s _ _ _).mono ?_; rintro e w' ⟨rfl, rfl⟩; rw [hc])
      refine wp_region_noPanic ?_
      refine wp_region_held_drew (S := (fun V => V.cell? ⟨g, 2, none⟩ = some (.pointer ql) ∧ V.cell? ⟨g, 3, none⟩ = some (.pointer qr))) (by kernel_rfl) ?_ (fun hHeld => ?_)
      · exact HS2.out _ HB.out
      refine take_at 0 23 _ (v := ?vr13_0) rfl rfl (by kernel_rfl) (by kernel_rfl) (by kernel_rfl) (fun _ _ _ h => h) (Or.inl ⟨by rfl, ?hyr13_0⟩) (by assumption) ?restr13_0
      case hyr13_0 =>
        intro wX hSw
        try dsimp only at hSw
        go_simp
        first
        | done
        | (with_reducible rfl)
      try simp only [Act.put, List.setIfInBounds_toArray, List.set_cons_zero, List.set_cons_succ]
      refine take_at 1 24 _ (v := ?vr13_1) rfl rfl (by kernel_rfl) (by kernel_rfl) (by kernel_rfl) (fun _ _ _ h => h) (Or.inl ⟨by rfl, ?hyr13_1⟩) (by assumption) ?restr13_1
      case hyr13_1 =>
        intro wX hSw
        try dsimp only at hSw
        go_simp
        first
        | done
        | (with_reducible rfl)
      try simp only [Act.put, List.setIfInBounds_toArray, List.set_cons_zero, List.set_cons_succ]
      refine take_at 2 25 _ (v := ?vr13_2) rfl rfl (by kernel_rfl) (by kernel_rfl) (by kernel_rfl) (fun _ _ _ h => h) (Or.inl ⟨by rfl, ?hyr13_2⟩) (by assumption) ?restr13_2
      case hyr13_2 =>
        intro wX hSw
        try dsimp only at hSw
        go_simp
        first
        | done
        | (with_reducible rfl)
      try simp only [Act.put, List.setIfInBounds_toArray, List.set_cons_zero, List.set_cons_succ]
      refine take_at 3 26 _ (v := ?vr13_3) rfl rfl (by kernel_rfl) (by kernel_rfl) (by kernel_rfl) (fun _ _ _ h => h) (Or.inl ⟨by rfl, ?hyr13_3⟩) (by assumption) ?restr13_3
      case hyr13_3 =>
        intro wX hSw
        try dsimp only at hSw
        go_simp
        first
        | done
        | (with_reducible rfl)
      try simp only [Act.put, List.setIfInBounds_toArray, List.set_cons_zero, List.set_cons_succ]
      refine take_at 4 27 _ (v := ?vr13_4) rfl rfl (by kernel_rfl) (by kernel_rfl) (by kernel_rfl) (fun _ _ _ h => h) (Or.inl ⟨by rfl, ?hyr13_4⟩) (by assumption) ?restr13_4
      case hyr13_4 =>
        intro wX hSw
        try dsimp only at hSw
        go_simp
        first
        | done
        | (with_reducible rfl)
      try simp only [Act.put, List.setIfInBounds_toArray, List.set_cons_zero, List.set_cons_succ]
      refine take_at 5 28 _ (v := ?vr13_5) rfl rfl (by kernel_rfl) (by kernel_rfl) (by kernel_rfl) (fun _ _ _ h => h) (Or.inl ⟨by rfl, ?hyr13_5⟩) (by assumption) ?restr13_5
      case hyr13_5 =>
        intro wX hSw
        try dsimp only at hSw
        go_simp
        first
        | done
        | (with_reducible rfl)
      try simp only [Act.put, List.setIfInBounds_toArray, List.set_cons_zero, List.set_cons_succ]
      refine take_at 6 29 _ (v := ?vr13_6) rfl rfl (by kernel_rfl) (by kernel_rfl) (by kernel_rfl) (fun _ _ _ h => h) (Or.inl ⟨by rfl, ?hyr13_6⟩) (by assumption) ?restr13_6
      case hyr13_6 =>
        intro wX hSw
        try dsimp only at hSw
        go_simp
        first
        | done
        | (with_reducible rfl)
      try simp only [Act.put, List.setIfInBounds_toArray, List.set_cons_zero, List.set_cons_succ]
      refine take_at 8 31 _ (v := ?vr13_8) rfl rfl (by kernel_rfl) (by kernel_rfl) (by kernel_rfl) (fun _ _ _ h => h) (Or.inl ⟨by rfl, ?hyr13_8⟩) (by assumption) ?restr13_8
      case hyr13_8 =>
        intro wX hSw
        try dsimp only at hSw
        go_simp
        first
        | done
        | (with_reducible rfl)
      try simp only [Act.put, List.setIfInBounds_toArray, List.set_cons_zero, List.set_cons_succ]
      refine take_at 9 32 _ (v := ?vr13_9) rfl rfl (by kernel_rfl) (by kernel_rfl) (by kernel_rfl) (fun _ _ _ h => h) (Or.inl ⟨by rfl, ?hyr13_9⟩) (by assumption) ?restr13_9
      case hyr13_9 =>
        intro wX hSw
        try dsimp only at hSw
        go_simp
        first
        | done
        | (with_reducible rfl)
      try simp only [Act.put, List.setIfInBounds_toArray, List.set_cons_zero, List.set_cons_succ]
      refine take_at 10 33 _ (v := ?vr13_10) rfl rfl (by kernel_rfl) (by kernel_rfl) (by kernel_rfl) (fun _ _ _ h => h) (Or.inl ⟨by rfl, ?hyr13_10⟩) (by assumption) ?restr13_10
      case hyr13_10 =>
        intro wX hSw
        try dsimp only at hSw
        go_simp
        first
        | done
        | (with_reducible rfl)
      try simp only [Act.put, List.setIfInBounds_toArray, List.set_cons_zero, List.set_cons_succ]
      refine take_at 11 34 _ (v := ?vr13_11) rfl rfl (by kernel_rfl) (by kernel_rfl) (by kernel_rfl) (fun _ _ _ h => h) (Or.inl ⟨by rfl, ?hyr13_11⟩) (by assumption) ?restr13_11
      case hyr13_11 =>
        intro wX hSw
        try dsimp only at hSw
        go_simp
        first
        | done
        | (with_reducible rfl)
      try simp only [Act.put, List.setIfInBounds_toArray, List.set_cons_zero, List.set_cons_succ]
      refine wpAnyH_ready (rs := [7]) (by kernel_rfl) (by simp) ?_
      refine AllReadyH.cons rfl (fun K hK => ?_) AllReadyH.nil
      go_simp
      go_at_call 37
      refine (IHL.out _ HB.out).mono ?_
      rintro e V1 ⟨p, rfl, ht, hb⟩
      obtain ⟨q1, rfl⟩ := ht.isPtr
      have HT1 := Lib.hid ht
      have HBn := Lib.hid (HB.out.trans (hb.mono HB.out.size))
      clear HB
      have HB := HBn
      clear HBn
      have HD1 := Lib.hid hb
      clear hb ht
      try go_wp2_with fail
      refine hK.out _ _ ?_ (fun hHeld2 => ?_)
      · exact HS2.out _ HB.out
      clear hK K hHeld
      have hHeld := hHeld2
      clear hHeld2
      try simp only [Act.put, List.setIfInBounds_toArray, List.set_cons_zero, List.set_cons_succ]
      refine wpAnyH_ready (rs := [12]) (by kernel_rfl) (by simp) ?_
      refine AllReadyH.cons rfl (fun K hK => ?_) AllReadyH.nil
      go_simp
      go_at_call 47
      refine (between_s g a b _ _ _ (wth k v l) r _ _ _ (HR.out.below HB.out HR.out.lt) HT1.out (TR.out.below HB.out) (by have h1 := HLl.out; have h2 := HSZ.out; omega)).mono ?_
      rintro e V2 ⟨p, rfl, ht, hb⟩
      obtain ⟨q2, rfl⟩ := ht.isPtr
      have HT2 := Lib.hid ht
      have HBn := Lib.hid (HB.out.trans (hb.mono HB.out.size))
      clear HB
      have HB := HBn
      clear HBn
      have HD2 := Lib.hid hb
      clear hb ht
      try go_wp2_with fail
      refine hK.out _ _ ?_ (fun hHeld2 => ?_)
      · exact HS2.out _ HB.out
      clear hK K hHeld
      have hHeld := hHeld2
      clear hHeld2
      try simp only [Act.put, List.setIfInBounds_toArray, List.set_cons_zero, List.set_cons_succ]
      refine take_at 13 6 _ (v := ?vr13_13) rfl rfl (by kernel_rfl) (by kernel_rfl) (by kernel_rfl) (fun _ _ _ h => h) (Or.inl ⟨by rfl, ?hyr13_13⟩) (by assumption) ?restr13_13
      case hyr13_13 =>
        intro wX hSw
        try dsimp only at hSw
        go_simp
        first
        | done
        | (with_reducible rfl)
      try simp only [Act.put, List.setIfInBounds_toArray, List.set_cons_zero, List.set_cons_succ]
      refine wpAnyH_done (by kernel_rfl) ?_ _
      refine NoPanic.normal ?_
      go_wp2
      go_ret
      exact ⟨_, rfl, HT2.out, HB.out⟩
    · by_cases h2 : lt a k
      · have e : wth k v (.node l a b r) = bet l a b (wth k v r) := by rw [wth]; exact (if_neg h1).trans (if_pos h2)
        have hc : cmpK k a = 1 := (if_neg h1).trans (if_pos h2)
        rw [e]
        clear e
        go_enter Try.func37, Try.ntmps37
        go_upto_region 7 with (go_at_call 46; refine (cmp_s _ _ _).mono ?_; rintro e w' ⟨rfl, rfl⟩; rw [hc])
        refine wp_region_noPanic ?_
        refine wp_region_held_drew (S := (fun V => V.cell? ⟨g, 2, none⟩ = some (.pointer ql) ∧ V.cell? ⟨g, 3, none⟩ = some (.pointer qr))) (by kernel_rfl) ?_ (fun hHeld => ?_)
        · exact HS2.out _ HB.out
        refine take_at 0 39 _ (v := ?vr14_0) rfl rfl (by kernel_rfl) (by kernel_rfl) (by kernel_rfl) (fun _ _ _ h => h) (Or.inl ⟨by rfl, ?hyr14_0⟩) (by assumption) ?restr14_0
        case hyr14_0 =>
          intro wX hSw
          try dsimp only at hSw
          go_simp
          first
          | done
          | (with_reducible rfl)
        try simp only [Act.put, List.setIfInBounds_toArray, List.set_cons_zero, List.set_cons_succ]
        refine take_at 1 40 _ (v := ?vr14_1) rfl rfl (by kernel_rfl) (by kernel_rfl) (by kernel_rfl) (fun _ _ _ h => h) (Or.inl ⟨by rfl, ?hyr14_1⟩) (by assumption) ?restr14_1
        case hyr14_1 =>
          intro wX hSw
          try dsimp only at hSw
          go_simp
          first
          | done
          | (with_reducible rfl)
        try simp only [Act.put, List.setIfInBounds_toArray, List.set_cons_zero, List.set_cons_succ]
        refine take_at 2 41 _ (v := ?vr14_2) rfl rfl (by kernel_rfl) (by kernel_rfl) (by kernel_rfl) (fun _ _ _ h => h) (Or.inl ⟨by rfl, ?hyr14_2⟩) (by assumption) ?restr14_2
        case hyr14_2 =>
          intro wX hSw
          try dsimp only at hSw
          go_simp
          first
          | done
          | (with_reducible rfl)
        try simp only [Act.put, List.setIfInBounds_toArray, List.set_cons_zero, List.set_cons_succ]
        refine take_at 3 42 _ (v := ?vr14_3) rfl rfl (by kernel_rfl) (by kernel_rfl) (by kernel_rfl) (fun _ _ _ h => h) (Or.inl ⟨by rfl, ?hyr14_3⟩) (by assumption) ?restr14_3
        case hyr14_3 =>
          intro wX hSw
          try dsimp only at hSw
          go_simp
          first
          | done
          | (with_reducible rfl)
        try simp only [Act.put, List.setIfInBounds_toArray, List.set_cons_zero, List.set_cons_succ]
        refine take_at 4 43 _ (v := ?vr14_4) rfl rfl (by kernel_rfl) (by kernel_rfl) (by kernel_rfl) (fun _ _ _ h => h) (Or.inl ⟨by rfl, ?hyr14_4⟩) (by assumption) ?restr14_4
        case hyr14_4 =>
          intro wX hSw
          try dsimp only at hSw
          go_simp
          first
          | done
          | (with_reducible rfl)
        try simp only [Act.put, List.setIfInBounds_toArray, List.set_cons_zero, List.set_cons_succ]
        refine take_at 5 44 _ (v := ?vr14_5) rfl rfl (by kernel_rfl) (by kernel_rfl) (by kernel_rfl) (fun _ _ _ h => h) (Or.inl ⟨by rfl, ?hyr14_5⟩) (by assumption) ?restr14_5
        case hyr14_5 =>
          intro wX hSw
          try dsimp only at hSw
          go_simp
          first
          | done
          | (with_reducible rfl)
        try simp only [Act.put, List.setIfInBounds_toArray, List.set_cons_zero, List.set_cons_succ]
        refine take_at 6 45 _ (v := ?vr14_6) rfl rfl (by kernel_rfl) (by kernel_rfl) (by kernel_rfl) (fun _ _ _ h => h) (Or.inl ⟨by rfl, ?hyr14_6⟩) (by assumption) ?restr14_6
        case hyr14_6 =>
          intro wX hSw
          try dsimp only at hSw
          go_simp
          first
          | done
          | (with_reducible rfl)
        try simp only [Act.put, List.setIfInBounds_toArray, List.set_cons_zero, List.set_cons_succ]
        refine take_at 7 46 _ (v := ?vr14_7) rfl rfl (by kernel_rfl) (by kernel_rfl) (by kernel_rfl) (fun _ _ _ h => h) (Or.inl ⟨by rfl, ?hyr14_7⟩) (by assumption) ?restr14_7
        case hyr14_7 =>
          intro wX hSw
          try dsimp only at hSw
          go_simp
          first
          | done
          | (with_reducible rfl)
        try simp only [Act.put, List.setIfInBounds_toArray, List.set_cons_zero, List.set_cons_succ]
        refine take_at 8 47 _ (v := ?vr14_8) rfl rfl (by kernel_rfl) (by kernel_rfl) (by kernel_rfl) (fun _ _ _ h => h) (Or.inl ⟨by rfl, ?hyr14_8⟩) (by assumption) ?restr14_8
        case hyr14_8 =>
          intro wX hSw
          try dsimp only at hSw
          go_simp
          first
          | done
          | (with_reducible rfl)
        try simp only [Act.put, List.setIfInBounds_toArray, List.set_cons_zero, List.set_cons_succ]
        refine take_at 9 48 _ (v := ?vr14_9) rfl rfl (by kernel_rfl) (by kernel_rfl) (by kernel_rfl) (fun _ _ _ h => h) (Or.inl ⟨by rfl, ?hyr14_9⟩) (by assumption) ?restr14_9
        case hyr14_9 =>
          intro wX hSw
          try dsimp only at hSw
          go_simp
          first
          | done
          | (with_reducible rfl)
        try simp only [Act.put, List.setIfInBounds_toArray, List.set_cons_zero, List.set_cons_succ]
        refine take_at 10 49 _ (v := ?vr14_10) rfl rfl (by kernel_rfl) (by kernel_rfl) (by kernel_rfl) (fun _ _ _ h => h) (Or.inl ⟨by rfl, ?hyr14_10⟩) (by assumption) ?restr14_10
        case hyr14_10 =>
          intro wX hSw
          try dsimp only at hSw
          go_simp
          first
          | done
          | (with_reducible rfl)
        try simp only [Act.put, List.setIfInBounds_toArray, List.set_cons_zero, List.set_cons_succ]
        refine wpAnyH_ready (rs := [11]) (by kernel_rfl) (by simp) ?_
        refine AllReadyH.cons rfl (fun K hK => ?_) AllReadyH.nil
        go_simp
        go_at_call 37
        refine (IHR.out _ HB.out).mono ?_
        rintro e V1 ⟨p, rfl, ht, hb⟩
        obtain ⟨q1, rfl⟩ := ht.isPtr
        have HT1 := Lib.hid ht
        have HBn := Lib.hid (HB.out.trans (hb.mono HB.out.size))
        clear HB
        have HB := HBn
        clear HBn
        have HD1 := Lib.hid hb
        clear hb ht
        try go_wp2_with fail
        refine hK.out _ _ ?_ (fun hHeld2 => ?_)
        · exact HS2.out _ HB.out
        clear hK K hHeld
        have hHeld := hHeld2
        clear hHeld2
        try simp only [Act.put, List.setIfInBounds_toArray, List.set_cons_zero, List.set_cons_succ]
        refine wpAnyH_ready (rs := [12]) (by kernel_rfl) (by simp) ?_
        refine AllReadyH.cons rfl (fun K hK => ?_) AllReadyH.nil
        go_simp
        go_at_call 47
        refine (between_s g a b _ _ _ l (wth k v r) _ _ _ (HR.out.below HB.out HR.out.lt) (TL.out.below HB.out) HT1.out (by have h1 := HLr.out; have h2 := HSZ.out; omega)).mono ?_
        rintro e V2 ⟨p, rfl, ht, hb⟩
        obtain ⟨q2, rfl⟩ := ht.isPtr
        have HT2 := Lib.hid ht
        have HBn := Lib.hid (HB.out.trans (hb.mono HB.out.size))
        clear HB
        have HB := HBn
        clear HBn
        have HD2 := Lib.hid hb
        clear hb ht
        try go_wp2_with fail
        refine hK.out _ _ ?_ (fun hHeld2 => ?_)
        · exact HS2.out _ HB.out
        clear hK K hHeld
        have hHeld := hHeld2
        clear hHeld2
        try simp only [Act.put, List.setIfInBounds_toArray, List.set_cons_zero, List.set_cons_succ]
        refine take_at 13 6 _ (v := ?vr14_13) rfl rfl (by kernel_rfl) (by kernel_rfl) (by kernel_rfl) (fun _ _ _ h => h) (Or.inl ⟨by rfl, ?hyr14_13⟩) (by assumption) ?restr14_13
        case hyr14_13 =>
          intro wX hSw
          try dsimp only at hSw
          go_simp
          first
          | done
          | (with_reducible rfl)
        try simp only [Act.put, List.setIfInBounds_toArray, List.set_cons_zero, List.set_cons_succ]
        refine wpAnyH_done (by kernel_rfl) ?_ _
        refine NoPanic.normal ?_
        go_wp2
        go_ret
        exact ⟨_, rfl, HT2.out, HB.out⟩
      · have e : wth k v (.node l a b r) = .node l a v r := by rw [wth]; exact (if_neg h1).trans (if_neg h2)
        have hc : cmpK k a = 0 := (if_neg h1).trans (if_neg h2)
        rw [e]
        clear e
        obtain ⟨z, hz⟩ : ∃ z, (Tr.node l a b r).size = z := ⟨_, rfl⟩
        have hz2 : (Tr.node l a v r).size = z := by rw [← hz]; rfl
        rw [hz] at HS5 HR
        have HZ := Lib.hid hz2
        clear hz hz2
        go_enter Try.func37, Try.ntmps37
        go_upto_region 8 with (go_at_call 46; refine (cmp_s _ _ _).mono ?_; rintro e w' ⟨rfl, rfl⟩; rw [hc])
        refine wp_region_noPanic ?_
        refine wp_region_held_drew (S := (fun V => (V.cell? ⟨g, 0, none⟩ = some (.string a) ∧ V.cell? ⟨g, 2, none⟩ = some (.pointer ql)) ∧ V.cell? ⟨g, 3, none⟩ = some (.pointer qr) ∧ V.cell? ⟨g, 4, none⟩ = some (.int .i64 (z : Nat)))) (by kernel_rfl) ?_ (fun hHeld => ?_)
        · exact HS5.out _ HB.out
        refine take_at 0 52 _ (v := ?vr15_0) rfl rfl (by kernel_rfl) (by kernel_rfl) (by kernel_rfl) (fun _ _ _ h => h) (Or.inl ⟨by rfl, ?hyr15_0⟩) (by assumption) ?restr15_0
        case hyr15_0 =>
          intro wX hSw
          try dsimp only at hSw
          go_simp
          first
          | done
          | (with_reducible rfl)
        try simp only [Act.put, List.setIfInBounds_toArray, List.set_cons_zero, List.set_cons_succ]
        refine take_at 1 53 _ (v := ?vr15_1) rfl rfl (by kernel_rfl) (by kernel_rfl) (by kernel_rfl) (fun _ _ _ h => h) (Or.inl ⟨by rfl, ?hyr15_1⟩) (by assumption) ?restr15_1
        case hyr15_1 =>
          intro wX hSw
          try dsimp only at hSw
          go_simp
          first
          | done
          | (with_reducible rfl)
        try simp only [Act.put, List.setIfInBounds_toArray, List.set_cons_zero, List.set_cons_succ]
        refine take_at 2 54 _ (v := ?vr15_2) rfl rfl (by kernel_rfl) (by kernel_rfl) (by kernel_rfl) (fun _ _ _ h => h) (Or.inl ⟨by rfl, ?hyr15_2⟩) (by assumption) ?restr15_2
        case hyr15_2 =>
          intro wX hSw
          try dsimp only at hSw
          go_simp
          first
          | done
          | (with_reducible rfl)
        try simp only [Act.put, List.setIfInBounds_toArray, List.set_cons_zero, List.set_cons_succ]
        refine take_at 3 55 _ (v := ?vr15_3) rfl rfl (by kernel_rfl) (by kernel_rfl) (by kernel_rfl) (fun _ _ _ h => h) (Or.inl ⟨by rfl, ?hyr15_3⟩) (by assumption) ?restr15_3
        case hyr15_3 =>
          intro wX hSw
          try dsimp only at hSw
          go_simp
          first
          | done
          | (with_reducible rfl)
        try simp only [Act.put, List.setIfInBounds_toArray, List.set_cons_zero, List.set_cons_succ]
        refine take_at 4 56 _ (v := ?vr15_4) rfl rfl (by kernel_rfl) (by kernel_rfl) (by kernel_rfl) (fun _ _ _ h => h) (Or.inl ⟨by rfl, ?hyr15_4⟩) (by assumption) ?restr15_4
        case hyr15_4 =>
          intro wX hSw
          try dsimp only at hSw
          go_simp
          first
          | done
          | (with_reducible rfl)
        try simp only [Act.put, List.setIfInBounds_toArray, List.set_cons_zero, List.set_cons_succ]
        refine take_at 5 57 _ (v := ?vr15_5) rfl rfl (by kernel_rfl) (by kernel_rfl) (by kernel_rfl) (fun _ _ _ h => h) (Or.inl ⟨by rfl, ?hyr15_5⟩) (by assumption) ?restr15_5
        case hyr15_5 =>
          intro wX hSw
          try dsimp only at hSw
          go_simp
          first
          | done
          | (with_reducible rfl)
        try simp only [Act.put, List.setIfInBounds_toArray, List.set_cons_zero, List.set_cons_succ]
        refine take_at 6 58 _ (v := ?vr15_6) rfl rfl (by kernel_rfl) (by kernel_rfl) (by kernel_rfl) (fun _ _ _ h => h) (Or.inl ⟨by rfl, ?hyr15_6⟩) (by assumption) ?restr15_6
        case hyr15_6 =>
          intro wX hSw
          try dsimp only at hSw
          go_simp
          first
          | done
          | (with_reducible rfl)
        try simp only [Act.put, List.setIfInBounds_toArray, List.set_cons_zero, List.set_cons_succ]
        refine take_at 7 59 _ (v := ?vr15_7) rfl rfl (by kernel_rfl) (by kernel_rfl) (by kernel_rfl) (fun _ _ _ h => h) (Or.inl ⟨by rfl, ?hyr15_7⟩) (by assumption) ?restr15_7
        case hyr15_7 =>
          intro wX hSw
          try dsimp only at hSw
          go_simp
          first
          | done
          | (with_reducible rfl)
        try simp only [Act.put, List.setIfInBounds_toArray, List.set_cons_zero, List.set_cons_succ]
        refine take_at 8 60 _ (v := ?vr15_8) rfl rfl (by kernel_rfl) (by kernel_rfl) (by kernel_rfl) (fun _ _ _ h => h) (Or.inl ⟨by rfl, ?hyr15_8⟩) (by assumption) ?restr15_8
        case hyr15_8 =>
          intro wX hSw
          try dsimp only at hSw
          go_simp
          first
          | done
          | (with_reducible rfl)
        try simp only [Act.put, List.setIfInBounds_toArray, List.set_cons_zero, List.set_cons_succ]
        refine take_at 9 61 _ (v := ?vr15_9) rfl rfl (by kernel_rfl) (by kernel_rfl) (by kernel_rfl) (fun _ _ _ h => h) (Or.inl ⟨by rfl, ?hyr15_9⟩) (by assumption) ?restr15_9
        case hyr15_9 =>
          intro wX hSw
          try dsimp only at hSw
          go_simp
          first
          | done
          | (with_reducible rfl)
        try simp only [Act.put, List.setIfInBounds_toArray, List.set_cons_zero, List.set_cons_succ]
        refine take_at 10 62 _ (v := ?vr15_10) rfl rfl (by kernel_rfl) (by kernel_rfl) (by kernel_rfl) (fun _ _ _ h => h) (Or.inl ⟨by rfl, ?hyr15_10⟩) (by assumption) ?restr15_10
        case hyr15_10 =>
          intro wX hSw
          try dsimp only at hSw
          go_simp
          first
          | done
          | (with_reducible rfl)
        try simp only [Act.put, List.setIfInBounds_toArray, List.set_cons_zero, List.set_cons_succ]
        refine take_at 11 63 _ (v := ?vr15_11) rfl rfl (by kernel_rfl) (by kernel_rfl) (by kernel_rfl) (fun _ _ _ h => h) (Or.inl ⟨by rfl, ?hyr15_11⟩) (by assumption) ?restr15_11
        case hyr15_11 =>
          intro wX hSw
          try dsimp only at hSw
          go_simp
          first
          | done
          | (with_reducible rfl)
        try simp only [Act.put, List.setIfInBounds_toArray, List.set_cons_zero, List.set_cons_succ]
        refine take_at 12 64 _ (v := ?vr15_12) rfl rfl (by kernel_rfl) (by kernel_rfl) (by kernel_rfl) (fun _ _ _ h => h) (Or.inl ⟨by rfl, ?hyr15_12⟩) (by assumption) ?restr15_12
        case hyr15_12 =>
          intro wX hSw
          try dsimp only at hSw
          go_simp
          first
          | done
          | (with_reducible rfl)
        try simp only [Act.put, List.setIfInBounds_toArray, List.set_cons_zero, List.set_cons_succ]
        refine take_at 13 65 _ (v := ?vr15_13) rfl rfl (by kernel_rfl) (by kernel_rfl) (by kernel_rfl) (fun _ _ _ h => h) (Or.inl ⟨by rfl, ?hyr15_13⟩) (by assumption) ?restr15_13
        case hyr15_13 =>
          intro wX hSw
          try dsimp only at hSw
          go_simp
          first
          | done
          | (with_reducible rfl)
        try simp only [Act.put, List.setIfInBounds_toArray, List.set_cons_zero, List.set_cons_succ]
        refine take_at 14 66 _ (v := ?vr15_14) rfl rfl (by kernel_rfl) (by kernel_rfl) (by kernel_rfl) (fun _ _ _ h => h) (Or.inl ⟨by rfl, ?hyr15_14⟩) (by assumption) ?restr15_14
        case hyr15_14 =>
          intro wX hSw
          try dsimp only at hSw
          go_simp
          first
          | done
          | (with_reducible rfl)
        try simp only [Act.put, List.setIfInBounds_toArray, List.set_cons_zero, List.set_cons_succ]
        refine take_at 15 67 _ (v := ?vr15_15) rfl rfl (by kernel_rfl) (by kernel_rfl) (by kernel_rfl) (fun _ _ _ h => h) (Or.inl ⟨by rfl, ?hyr15_15⟩) (by assumption) ?restr15_15
        case hyr15_15 =>
          intro wX hSw
          try dsimp only at hSw
          go_simp
          first
          | done
          | (with_reducible rfl)
        try simp only [Act.put, List.setIfInBounds_toArray, List.set_cons_zero, List.set_cons_succ]
        refine take_at 16 68 _ (v := ?vr15_16) rfl rfl (by kernel_rfl) (by kernel_rfl) (by kernel_rfl) (fun _ _ _ h => h) (Or.inl ⟨by rfl, ?hyr15_16⟩) (by assumption) ?restr15_16
        case hyr15_16 =>
          intro wX hSw
          try dsimp only at hSw
          go_simp
          first
          | done
          | (with_reducible rfl)
        try simp only [Act.put, List.setIfInBounds_toArray, List.set_cons_zero, List.set_cons_succ]
        refine take_at 17 69 _ (v := ?vr15_17) rfl rfl (by kernel_rfl) (by kernel_rfl) (by kernel_rfl) (fun _ _ _ h => h) (Or.inl ⟨by rfl, ?hyr15_17⟩) (by assumption) ?restr15_17
        case hyr15_17 =>
          intro wX hSw
          try dsimp only at hSw
          go_simp
          first
          | done
          | (with_reducible rfl)
        try simp only [Act.put, List.setIfInBounds_toArray, List.set_cons_zero, List.set_cons_succ]
        refine wpAnyH_ready (rs := [18]) (by kernel_rfl) (by simp) ?_
        refine AllReadyH.cons rfl (fun K hK => ?_) AllReadyH.nil
        go_simp

        try go_wp2_with fail
        refine hK.out _ _ ?_ (fun hHeld2 => ?_)
        · exact (HS5.out _ (((Below.refl _ w).alloc (Nat.le_refl _) _).drew))
        clear hK K hHeld
        have hHeld := hHeld2
        clear hHeld2
        try simp only [Act.put, List.setIfInBounds_toArray, List.set_cons_zero, List.set_cons_succ]
        refine take_at 19 6 _ (v := ?vr15_19) rfl rfl (by kernel_rfl) (by kernel_rfl) (by kernel_rfl) (fun _ _ _ h => h) (Or.inl ⟨by rfl, ?hyr15_19⟩) (by assumption) ?restr15_19
        case hyr15_19 =>
          intro wX hSw
          try dsimp only at hSw
          go_simp
          first
          | done
          | (with_reducible rfl)
        try simp only [Act.put, List.setIfInBounds_toArray, List.set_cons_zero, List.set_cons_succ]
        refine wpAnyH_done (by kernel_rfl) ?_ _
        refine NoPanic.normal ?_
        obtain ⟨W, hW⟩ : ∃ W, (w.alloc (.cells #[.string a, .int .i64 v, .pointer ql, .pointer qr, .int .i64 (z : Nat)] 76)).drew = W := ⟨_, rfl⟩
        have hb : Below w.heap.size w W := by rw [← hW]; exact ((Below.refl _ w).alloc (Nat.le_refl _) _).drew
        have hr : Row W w.heap.size 76 #[.string a, .int .i64 v, .pointer ql, .pointer qr, .int .i64 ((Tr.node l a v r).size : Nat)] := by
          rw [HZ.out, ← hW]
          exact Row.drew (Row.made w _ _)
        rw [hW]
        clear hW hHeld
        go_wp2
        go_ret
        exact ⟨_, rfl, ⟨_, _, _, rfl, hr, TL.out.below hb, TR.out.below hb⟩, hb⟩
set_option maxHeartbeats 1000000 in
theorem find_s (k : ByteArray) (t : Tr ByteArray Int) (p : Value) (w : World) (h : TmS w t p) : Calls Try.prog 40 #[p, .string k] w fun e w' => ∃ p', e = .returned p' ∧ TmS w (fndT k t) p' ∧ w = w' := by
  have HM : Hid (∃ t1, TmS w t1 p ∧ fndT k t1 = fndT k t) := Lib.hid ⟨t, h, rfl⟩
  clear h
  go_enter Try.func40, Try.ntmps40
  go_wp2_with fail
  go_loopw [0] (fun s wr => w = wr ∧ Hid (∃ t1, TmS w t1 s ∧ fndT k t1 = fndT k t)) (fun s wr => cntOf wr s)
  case atStart => exact ⟨rfl, HM⟩
  case round =>
    clear HM
    obtain ⟨rfl, hrel⟩ := hrel
    obtain ⟨t1, h1, h2⟩ := hrel.out
    have HE := Lib.hid h2
    cases t1 with
    | leaf =>
      unfold TmS Tm at h1
      subst h1
      clear h2 hrel
      go_wp2
      go_ret
      exact ⟨_, rfl, by rw [← HE.out]; rfl, rfl⟩
    | node l a b r =>
      have H1 := Lib.hid h1
      have hcn := cntOf_tm h1
      obtain ⟨g, pl, pr, rfl, rw0, tl, tr⟩ := h1
      obtain ⟨ql, rfl⟩ := tl.isPtr
      obtain ⟨qr, rfl⟩ := tr.isPtr
      have c0 : w.cell? ⟨g, 0, none⟩ = some (.string a) := (rw0.cell 0).trans rfl
      have c2 : w.cell? ⟨g, 2, none⟩ = some (.pointer ql) := (rw0.cell 2).trans rfl
      have c3 : w.cell? ⟨g, 3, none⟩ = some (.pointer qr) := (rw0.cell 3).trans rfl
      have TL := Lib.hid tl
      have TR := Lib.hid tr
      have HC := Lib.hid hcn
      have HCL := Lib.hid (cntOf_tm tl)
      have HCR := Lib.hid (cntOf_tm tr)
      clear rw0 tl tr hcn h2 hrel
      by_cases h1 : lt k a
      · have e : fndT k (.node l a b r) = fndT k l := by rw [fndT]; exact if_pos h1
        have hc : cmpK k a = -1 := if_pos h1
        rw [e] at HE
        clear e
        go_wp2_with (go_at_call 46; refine (cmp_s _ _ _).mono ?_; rintro e w' ⟨rfl, rfl⟩; rw [hc])
        go_roundw
        case rel => exact ⟨trivial, Lib.hid ⟨_, TL.out, HE.out⟩⟩
        case measure => rw [HC.out, HCL.out]; simp only [Tr.size]; omega
      · by_cases h2 : lt a k
        · have e : fndT k (.node l a b r) = fndT k r := by rw [fndT]; exact (if_neg h1).trans (if_pos h2)
          have hc : cmpK k a = 1 := (if_neg h1).trans (if_pos h2)
          rw [e] at HE
          clear e
          go_wp2_with (go_at_call 46; refine (cmp_s _ _ _).mono ?_; rintro e w' ⟨rfl, rfl⟩; rw [hc])
          go_roundw
          case rel => exact ⟨trivial, Lib.hid ⟨_, TR.out, HE.out⟩⟩
          case measure => rw [HC.out, HCR.out]; simp only [Tr.size]; omega
        · have e : fndT k (.node l a b r) = .node l a b r := by rw [fndT]; exact (if_neg h1).trans (if_neg h2)
          have hc : cmpK k a = 0 := (if_neg h1).trans (if_neg h2)
          rw [e] at HE
          clear e
          go_wp2_with (go_at_call 46; refine (cmp_s _ _ _).mono ?_; rintro e w' ⟨rfl, rfl⟩; rw [hc])
          go_ret
          exact ⟨_, rfl, by rw [← HE.out]; exact H1.out, rfl⟩
def tops_s (t : Tr ByteArray Int) : Array Value := match topT t with
  | none => #[.string ByteArray.empty, .int .i64 0, .bool false]
  | some (a, b) => #[.string a, .int .i64 b, .bool true]
theorem told_s (t : Tr ByteArray Int) (p : Value) (w : World) (h : TmS w t p) : Calls Try.prog 41 #[p] w fun e w' => e = .returned (.tuple (tops_s t)) ∧ ∃ n, w' = w.drewN n := by
  cases t with
  | leaf =>
    obtain rfl : p = .pointer none := h
    go_enter Try.func41, Try.ntmps41
    go_wp2
    exact bodyPost_ret (v := .tuple #[.string ByteArray.empty, .int .i64 0, .bool false]) (by simp [results, Try.results41, go_sem]; try rfl) rfl ⟨rfl, 0, rfl⟩
  | node l a b r =>
    obtain ⟨g, pl, pr, rfl, rw0, _⟩ := h
    have c0 : w.cell? ⟨g, 0, none⟩ = some (.string a) := (rw0.cell 0).trans rfl
    have c1 : w.cell? ⟨g, 1, none⟩ = some (.int .i64 b) := (rw0.cell 1).trans rfl
    have e : tops_s (.node l a b r) = #[.string a, .int .i64 b, .bool true] := rfl
    rw [e]
    clear rw0 e
    go_enter Try.func41, Try.ntmps41
    go_wp2
    go_quiet (fail)
    go_wp2
    exact bodyPost_ret (v := .tuple #[.string a, .int .i64 b, .bool true]) (by simp [results, Try.results41, go_sem]; try rfl) rfl ⟨rfl, _, rfl⟩
end Go.Proofs.Ytnibmfijkbfaeaa.Om
