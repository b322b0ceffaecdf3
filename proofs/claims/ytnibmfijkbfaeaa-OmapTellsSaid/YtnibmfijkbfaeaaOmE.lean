/- Trees in memory, keys that are numbers: what each call comes to (written by gen_omc). -/
import Derived.Test.YtnibmfijkbfaeaaOmC
import Derived.Test.YtnibmfijkbfaeaaOmG
import Derived.Deep.DeepCutAuto
import Derived.Deep.CutBlock
import Derived.BigRegion
import Derived.Deep.RegionLaw
import Derived.Deep.RegionHeld3
import Derived.Deep.RegionHeld
import Derived.BigQuiet
namespace Go.Proofs.Ytnibmfijkbfaeaa.Om
open Go.RowKit Go.Proofs.Ytnibmfijkbfaeaa
set_option linter.unusedVariables false
set_option linter.unusedSimpArgs false
set_option maxRecDepth 100000
open Key (lt)

set_option maxHeartbeats 4000000 in
theorem with_i (k : Int) (v : Int) : ∀ (t : Tr Int Int) (p : Value) (w : World), TmI w t p → t.size ≤ 100000000 →
    Calls Try.prog 22 #[p, .int .i64 k, .int .i64 v] w fun e w' => ∃ p', e = .returned p' ∧ TmI w' (wth k v t) p' ∧ Below w.heap.size w w'
  | .leaf, p, w, h, _ => by
    obtain rfl : p = .pointer none := h
    go_enter Try.func22, Try.ntmps22
    go_wp2
    go_ret
    have hb : Below w.heap.size w (w.alloc (.cells #[.int .i64 k, .int .i64 v, .pointer none, .pointer none, .int .i64 1] 72)) := (Below.refl _ w).alloc (Nat.le_refl _) _
    exact ⟨_, rfl, ⟨_, _, _, rfl, Row.made w _ _, rfl, rfl⟩, hb⟩
  | .node l a b r, p, w, h, hs => by
    obtain ⟨g, pl, pr, rfl, rw0, tl, tr⟩ := h
    obtain ⟨ql, rfl⟩ := tl.isPtr
    obtain ⟨qr, rfl⟩ := tr.isPtr
    have hsz : (Tr.node l a b r).size = l.size + 1 + r.size := rfl
    have IHL : Hid (∀ W : World, Below w.heap.size w W → Calls Try.prog 22 #[.pointer ql, .int .i64 k, .int .i64 v] W fun e w' => ∃ p', e = .returned p' ∧ TmI w' (wth k v l) p' ∧ Below W.heap.size W w') := Lib.hid (fun W hW => with_i k v l _ W (tl.below hW) (by omega))
    have IHR : Hid (∀ W : World, Below w.heap.size w W → Calls Try.prog 22 #[.pointer qr, .int .i64 k, .int .i64 v] W fun e w' => ∃ p', e = .returned p' ∧ TmI w' (wth k v r) p' ∧ Below W.heap.size W w') := Lib.hid (fun W hW => with_i k v r _ W (tr.below hW) (by omega))
    have HLl : Hid ((wth k v l).size ≤ l.size + 1) := Lib.hid (wth_le k v l)
    have HLr : Hid ((wth k v r).size ≤ r.size + 1) := Lib.hid (wth_le k v r)
    have HSZ : Hid (l.size + r.size ≤ 100000000) := Lib.hid (by omega)
    have HR := Lib.hid rw0
    have TL := Lib.hid tl
    have TR := Lib.hid tr
    have c0 : w.cell? ⟨g, 0, none⟩ = some (.int .i64 a) := (rw0.cell 0).trans rfl
    have HS2 : Hid (∀ V : World, Below w.heap.size w V → V.cell? ⟨g, 2, none⟩ = some (.pointer ql) ∧ V.cell? ⟨g, 3, none⟩ = some (.pointer qr)) := Lib.hid (fun V hV => ⟨((rw0.below hV rw0.lt).cell 2).trans rfl, ((rw0.below hV rw0.lt).cell 3).trans rfl⟩)
    have HS5 : Hid (∀ V : World, Below w.heap.size w V → (V.cell? ⟨g, 0, none⟩ = some (.int .i64 a) ∧ V.cell? ⟨g, 2, none⟩ = some (.pointer ql)) ∧ V.cell? ⟨g, 3, none⟩ = some (.pointer qr) ∧ V.cell? ⟨g, 4, none⟩ = some (.int .i64 ((Tr.node l a b r).size : Nat))) := Lib.hid (fun V hV => ⟨⟨((rw0.below hV rw0.lt).cell 0).trans rfl, ((rw0.below hV rw0.lt).cell 2).trans rfl⟩, ((rw0.below hV rw0.lt).cell 3).trans rfl, ((rw0.below hV rw0.lt).cell 4).trans rfl⟩)
    have HB : Hid (Below w.heap.size w w.drew) := Lib.hid (Below.refl _ w).drew
    have hgl : g < w.heap.size := rw0.lt
    clear rw0 tl tr hs hsz
    by_cases h1 : lt k a
    · have e : wth k v (.node l a b r) = bet (wth k v l) a b r := by rw [wth]; exact if_pos h1
      have hc : cmpK k a = -1 := if_pos h1
      rw [e]
      clear e
      go_enter Try.func22, Try.ntmps22
      go_upto_region 5 with (go_at_call 43; refine (cmp_i _ _ _).mono ?_; rintro e w' ⟨rfl, rfl⟩; rw [hc])
      refine wp_region_noPanic ?_
      refine wp_region_held_drew (S := (fun V => V.cell? ⟨g, 2, none⟩ = some (.pointer ql) ∧ V.cell? ⟨g, 3, none⟩ = some (.pointer qr))) (by kernel_rfl) ?_ (fun hHeld => ?_)
      · exact HS2.out _ HB.out
      refine take_at 0 23 _ (v := ?vr28_0) rfl rfl (by kernel_rfl) (by kernel_rfl) (by kernel_rfl) (fun _ _ _ h => h) (Or.inl ⟨by rfl, ?hyr28_0⟩) (by assumption) ?restr28_0
      case hyr28_0 =>
        intro wX hSw
        try dsimp only at hSw
        go_simp
        first
        | done
        | (with_reducible rfl)
      try simp only [Act.put, List.setIfInBounds_toArray, List.set_cons_zero, List.set_cons_succ]
      refine take_at 1 24 _ (v := ?vr28_1) rfl rfl (by kernel_rfl) (by kernel_rfl) (by kernel_rfl) (fun _ _ _ h => h) (Or.inl ⟨by rfl, ?hyr28_1⟩) (by assumption) ?restr28_1
      case hyr28_1 =>
        intro wX hSw
        try dsimp only at hSw
        go_simp
        first
        | done
        | (with_reducible rfl)
      try simp only [Act.put, List.setIfInBounds_toArray, List.set_cons_zero, List.set_cons_succ]
      refine take_at 2 25 _ (v := ?vr28_2) rfl rfl (by kernel_rfl) (by kernel_rfl) (by kernel_rfl) (fun _ _ _ h => h) (Or.inl ⟨by rfl, ?hyr28_2⟩) (by assumption) ?restr28_2
      case hyr28_2 =>
        intro wX hSw
        try dsimp only at hSw
        go_simp
        first
        | done
        | (with_reducible rfl)
      try simp only [Act.put, List.setIfInBounds_toArray, List.set_cons_zero, List.set_cons_succ]
      refine take_at 3 26 _ (v := ?vr28_3) rfl rfl (by kernel_rfl) (by kernel_rfl) (by kernel_rfl) (fun _ _ _ h => h) (Or.inl ⟨by rfl, ?hyr28_3⟩) (by assumption) ?restr28_3
      case hyr28_3 =>
        intro wX hSw
        try dsimp only at hSw
        go_simp
        first
        | done
        | (with_reducible rfl)
      try simp only [Act.put, List.setIfInBounds_toArray, List.set_cons_zero, List.set_cons_succ]
      refine take_at 4 27 _ (v := ?vr28_4) rfl rfl (by kernel_rfl) (by kernel_rfl) (by kernel_rfl) (fun _ _ _ h => h) (Or.inl ⟨by rfl, ?hyr28_4⟩) (by assumption) ?restr28_4
      case hyr28_4 =>
        intro wX hSw
        try dsimp only at hSw
        go_simp
        first
        | done
        | (with_reducible rfl)
      try simp only [Act.put, List.setIfInBounds_toArray, List.set_cons_zero, List.set_cons_succ]
      refine take_at 5 28 _ (v := ?vr28_5) rfl rfl (by kernel_rfl) (by kernel_rfl) (by kernel_rfl) (fun _ _ _ h => h) (Or.inl ⟨by rfl, ?hyr28_5⟩) (by assumption) ?restr28_5
      case hyr28_5 =>
        intro wX hSw
        try dsimp only at hSw
        go_simp
        first
        | done
        | (with_reducible rfl)
      try simp only [Act.put, List.setIfInBounds_toArray, List.set_cons_zero, List.set_cons_succ]
      refine take_at 6 29 _ (v := ?vr28_6) rfl rfl (by kernel_rfl) (by kernel_rfl) (by kernel_rfl) (fun _ _ _ h => h) (Or.inl ⟨by rfl, ?hyr28_6⟩) (by assumption) ?restr28_6
      case hyr28_6 =>
        intro wX hSw
        try dsimp only at hSw
        go_simp
        first
        | done
        | (with_reducible rfl)
      try simp only [Act.put, List.setIfInBounds_toArray, List.set_cons_zero, List.set_cons_succ]
      refine take_at 8 31 _ (v := ?vr28_8) rfl rfl (by kernel_rfl) (by kernel_rfl) (by kernel_rfl) (fun _ _ _ h => h) (Or.inl ⟨by rfl, ?hyr28_8⟩) (by assumption) ?restr28_8
      case hyr28_8 =>
        intro wX hSw
        try dsimp only at hSw
        go_simp
        first
        | done
        | (with_reducible rfl)
      try simp only [Act.put, List.setIfInBounds_toArray, List.set_cons_zero, List.set_cons_succ]
      refine take_at 9 32 _ (v := ?vr28_9) rfl rfl (by kernel_rfl) (by kernel_rfl) (by kernel_rfl) (fun _ _ _ h => h) (Or.inl ⟨by rfl, ?hyr28_9⟩) (by assumption) ?restr28_9
      case hyr28_9 =>
        intro wX hSw
        try dsimp only at hSw
        go_simp
        first
        | done
        | (with_reducible rfl)
      try simp only [Act.put, List.setIfInBounds_toArray, List.set_cons_zero, List.set_cons_succ]
      refine take_at 10 33 _ (v := ?vr28_10) rfl rfl (by kernel_rfl) (by kernel_rfl) (by kernel_rfl) (fun _ _ _ h => h) (Or.inl ⟨by rfl, ?hyr28_10⟩) (by assumption) ?restr28_10
      case hyr28_10 =>
        intro wX hSw
        try dsimp only at hSw
        go_simp
        first
        | done
        | (with_reducible rfl)
      try simp only [Act.put, List.setIfInBounds_toArray, List.set_cons_zero, List.set_cons_succ]
      refine take_at 11 34 _ (v := ?vr28_11) rfl rfl (by kernel_rfl) (by kernel_rfl) (by kernel_rfl) (fun _ _ _ h => h) (Or.inl ⟨by rfl, ?hyr28_11⟩) (by assumption) ?restr28_11
      case hyr28_11 =>
        intro wX hSw
        try dsimp only at hSw
        go_simp
        first
        | done
        | (with_reducible rfl)
      try simp only [Act.put, List.setIfInBounds_toArray, List.set_cons_zero, List.set_cons_succ]
      refine wpAnyH_ready (rs := [7]) (by kernel_rfl) (by simp) ?_
      refine AllReadyH.cons rfl (fun K hK => ?_) AllReadyH.nil
      go_simp
      go_at_call 22
      refine (IHL.out _ HB.out).mono ?_
      rintro e V1 ⟨p, rfl, ht, hb⟩
      obtain ⟨q1, rfl⟩ := ht.isPtr
      have HT1 := Lib.hid ht
      have HBn := Lib.hid (HB.out.trans (hb.mono HB.out.size))
      clear HB
      have HB := HBn
      clear HBn
      have HD1 := Lib.hid hb
      clear hb ht
      try go_wp2_with fail
      refine hK.out _ _ ?_ (fun hHeld2 => ?_)
      · exact HS2.out _ HB.out
      clear hK K hHeld
      have hHeld := hHeld2
      clear hHeld2
      try simp only [Act.put, List.setIfInBounds_toArray, List.set_cons_zero, List.set_cons_succ]
      refine wpAnyH_ready (rs := [12]) (by kernel_rfl) (by simp) ?_
      refine AllReadyH.cons rfl (fun K hK => ?_) AllReadyH.nil
      go_simp
      go_at_call 44
      refine (between_i g a b _ _ _ (wth k v l) r _ _ _ (HR.out.below HB.out HR.out.lt) HT1.out (TR.out.below HB.out) (by have h1 := HLl.out; have h2 := HSZ.out; omega)).mono ?_
      rintro e V2 ⟨p, rfl, ht, hb⟩
      obtain ⟨q2, rfl⟩ := ht.isPtr
      have HT2 := Lib.hid ht
      have HBn := Lib.hid (HB.out.trans (hb.mono HB.out.size))
      clear HB
      have HB := HBn
      clear HBn
      have HD2 := Lib.hid hb
      clear hb ht
      try go_wp2_with fail
      refine hK.out _ _ ?_ (fun hHeld2 => ?_)
      · exact HS2.out _ HB.out
      clear hK K hHeld
      have hHeld := hHeld2
      clear hHeld2
      try simp only [Act.put, List.setIfInBounds_toArray, List.set_cons_zero, List.set_cons_succ]
      refine take_at 13 6 _ (v := ?vr28_13) rfl rfl (by kernel_rfl) (by kernel_rfl) (by kernel_rfl) (fun _ _ _ h => h) (Or.inl ⟨by rfl, ?hyr28_13⟩) (by assumption) ?restr28_13
      case hyr28_13 =>
        intro wX hSw
        try dsimp only at hSw
        go_simp
        first
        | done
        | (with_reducible rfl)
      try simp only [Act.put, List.setIfInBounds_toArray, List.set_cons_zero, List.set_cons_succ]
      refine wpAnyH_done (by kernel_rfl) ?_ _
      refine NoPanic.normal ?_
      go_wp2
      go_ret
      exact ⟨_, rfl, HT2.out, HB.out⟩
    · by_cases h2 : lt a k
      · have e : wth k v (.node l a b r) = bet l a b (wth k v r) := by rw [wth]; exact (if_neg h1).trans (if_pos h2)
        have hc : cmpK k a = 1 := (if_neg h1).trans (if_pos h2)
        rw [e]
        clear e
        go_enter Try.func22, Try.ntmps22
        go_upto_region 7 with (go_at_call 43; refine (cmp_i _ _ _).mono ?_; rintro e w' ⟨rfl, rfl⟩; rw [hc])
        refine wp_region_noPanic ?_
        refine wp_region_held_drew (S := (fun V => V.cell? ⟨g, 2, none⟩ = some (.pointer ql) ∧ V.cell? ⟨g, 3, none⟩ = some (.pointer qr))) (by kernel_rfl) ?_ (fun hHeld => ?_)
        · exact HS2.out _ HB.out
        refine take_at 0 39 _ (v := ?vr29_0) rfl rfl (by kernel_rfl) (by kernel_rfl) (by kernel_rfl) (fun _ _ _ h => h) (Or.inl ⟨by rfl, ?hyr29_0⟩) (by assumption) ?restr29_0
        case hyr29_0 =>
          intro wX hSw
          try dsimp only at hSw
          go_simp
          first
          | done
          | (with_reducible rfl)
        try simp only [Act.put, List.setIfInBounds_toArray, List.set_cons_zero, List.set_cons_succ]
        refine take_at 1 40 _ (v := ?vr29_1) rfl rfl (by kernel_rfl) (by kernel_rfl) (by kernel_rfl) (fun _ _ _ h => h) (Or.inl ⟨by rfl, ?hyr29_1⟩) (by assumption) ?restr29_1
        case hyr29_1 =>
          intro wX hSw
          try dsimp only at hSw
          go_simp
          first
          | done
          | (with_reducible rfl)
        try simp only [Act.put, List.setIfInBounds_toArray, List.set_cons_zero, List.set_cons_succ]
        refine take_at 2 41 _ (v := ?vr29_2) rfl rfl (by kernel_rfl) (by kernel_rfl) (by kernel_rfl) (fun _ _ _ h => h) (Or.inl ⟨by rfl, ?hyr29_2⟩) (by assumption) ?restr29_2
        case hyr29_2 =>
          intro wX hSw
          try dsimp only at hSw
          go_simp
          first
          | done
          | (with_reducible rfl)
        try simp only [Act.put, List.setIfInBounds_toArray, List.set_cons_zero, List.set_cons_succ]
        refine take_at 3 42 _ (v := ?vr29_3) rfl rfl (by kernel_rfl) (by kernel_rfl) (by kernel_rfl) (fun _ _ _ h => h) (Or.inl ⟨by rfl, ?hyr29_3⟩) (by assumption) ?restr29_3
        case hyr29_3 =>
          intro wX hSw
          try dsimp only at hSw
          go_simp
          first
          | done
          | (with_reducible rfl)
        try simp only [Act.put, List.setIfInBounds_toArray, List.set_cons_zero, List.set_cons_succ]
        refine take_at 4 43 _ (v := ?vr29_4) rfl rfl (by kernel_rfl) (by kernel_rfl) (by kernel_rfl) (fun _ _ _ h => h) (Or.inl ⟨by rfl, ?hyr29_4⟩) (by assumption) ?restr29_4
        case hyr29_4 =>
          intro wX hSw
          try dsimp only at hSw
          go_simp
          first
          | done
          | (with_reducible rfl)
        try simp only [Act.put, List.setIfInBounds_toArray, List.set_cons_zero, List.set_cons_succ]
        refine take_at 5 44 _ (v := ?vr29_5) rfl rfl (by kernel_rfl) (by kernel_rfl) (by kernel_rfl) (fun _ _ _ h => h) (Or.inl ⟨by rfl, ?hyr29_5⟩) (by assumption) ?restr29_5
        case hyr29_5 =>
          intro wX hSw
          try dsimp only at hSw
          go_simp
          first
          | done
          | (with_reducible rfl)
        try simp only [Act.put, List.setIfInBounds_toArray, List.set_cons_zero, List.set_cons_succ]
        refine take_at 6 45 _ (v := ?vr29_6) rfl rfl (by kernel_rfl) (by kernel_rfl) (by kernel_rfl) (fun _ _ _ h => h) (Or.inl ⟨by rfl, ?hyr29_6⟩) (by assumption) ?restr29_6
        case hyr29_6 =>
          intro wX hSw
          try dsimp only at hSw
          go_simp
          first
          | done
          | (with_reducible rfl)
        try simp only [Act.put, List.setIfInBounds_toArray, List.set_cons_zero, List.set_cons_succ]
        refine take_at 7 46 _ (v := ?vr29_7) rfl rfl (by kernel_rfl) (by kernel_rfl) (by kernel_rfl) (fun _ _ _ h => h) (Or.inl ⟨by rfl, ?hyr29_7⟩) (by assumption) ?restr29_7
        case hyr29_7 =>
          intro wX hSw
          try dsimp only at hSw
          go_simp
          first
          | done
          | (with_reducible rfl)
        try simp only [Act.put, List.setIfInBounds_toArray, List.set_cons_zero, List.set_cons_succ]
        refine take_at 8 47 _ (v := ?vr29_8) rfl rfl (by kernel_rfl) (by kernel_rfl) (by kernel_rfl) (fun _ _ _ h => h) (Or.inl ⟨by rfl, ?hyr29_8⟩) (by assumption) ?restr29_8
        case hyr29_8 =>
          intro wX hSw
          try dsimp only at hSw
          go_simp
          first
          | done
          | (with_reducible rfl)
        try simp only [Act.put, List.setIfInBounds_toArray, List.set_cons_zero, List.set_cons_succ]
        refine take_at 9 48 _ (v := ?vr29_9) rfl rfl (by kernel_rfl) (by kernel_rfl) (by kernel_rfl) (fun _ _ _ h => h) (Or.inl ⟨by rfl, ?hyr29_9⟩) (by assumption) ?restr29_9
        case hyr29_9 =>
          intro wX hSw
          try dsimp only at hSw
          go_simp
          first
          | done
          | (with_reducible rfl)
        try simp only [Act.put, List.setIfInBounds_toArray, List.set_cons_zero, List.set_cons_succ]
        refine take_at 10 49 _ (v := ?vr29_10) rfl rfl (by kernel_rfl) (by kernel_rfl) (by kernel_rfl) (fun _ _ _ h => h) (Or.inl ⟨by rfl, ?hyr29_10⟩) (by assumption) ?restr29_10
        case hyr29_10 =>
          intro wX hSw
          try dsimp only at hSw
          go_simp
          first
          | done
          | (with_reducible rfl)
        try simp only [Act.put, List.setIfInBounds_toArray, List.set_cons_zero, List.set_cons_succ]
        refine wpAnyH_ready (rs := [11]) (by kernel_rfl) (by simp) ?_
        refine AllReadyH.cons rfl (fun K hK => ?_) AllReadyH.nil
        go_simp
        go_at_call 22
        refine (IHR.out _ HB.out).mono ?_
        rintro e V1 ⟨p, rfl, ht, hb⟩
        obtain ⟨q1, rfl⟩ := ht.isPtr
        have HT1 := Lib.hid ht
        have HBn := Lib.hid (HB.out.trans (hb.mono HB.out.size))
        clear HB
        have HB := HBn
        clear HBn
        have HD1 := Lib.hid hb
        clear hb ht
        try go_wp2_with fail
        refine hK.out _ _ ?_ (fun hHeld2 => ?_)
        · exact HS2.out _ HB.out
        clear hK K hHeld
        have hHeld := hHeld2
        clear hHeld2
        try simp only [Act.put, List.setIfInBounds_toArray, List.set_cons_zero, List.set_cons_succ]
        refine wpAnyH_ready (rs := [12]) (by kernel_rfl) (by simp) ?_
        refine AllReadyH.cons rfl (fun K hK => ?_) AllReadyH.nil
        go_simp
        go_at_call 44
        refine (between_i g a b _ _ _ l (wth k v r) _ _ _ (HR.out.below HB.out HR.out.lt) (TL.out.below HB.out) HT1.out (by have h1 := HLr.out; have h2 := HSZ.out; omega)).mono ?_
        rintro e V2 ⟨p, rfl, ht, hb⟩
        obtain ⟨q2, rfl⟩ := ht.isPtr
        have HT2 := Lib.hid ht
        have HBn := Lib.hid (HB.out.trans (hb.mono HB.out.size))
        clear HB
        have HB := HBn
        clear HBn
        have HD2 := Lib.hid hb
        clear hb ht
        try go_wp2_with fail
        refine hK.out _ _ ?_ (fun hHeld2 => ?_)
        · exact HS2.out _ HB.out
        clear hK K hHeld
        have hHeld := hHeld2
        clear hHeld2
        try simp only [Act.put, List.setIfInBounds_toArray, List.set_cons_zero, List.set_cons_succ]
        refine take_at 13 6 _ (v := ?vr29_13) rfl rfl (by kernel_rfl) (by kernel_rfl) (by kernel_rfl) (fun _ _ _ h => h) (Or.inl ⟨by rfl, ?hyr29_13⟩) (by assumption) ?restr29_13
        case hyr29_13 =>
          intro wX hSw
          try dsimp only at hSw
          go_simp
          first
          | done
          | (with_reducible rfl)
        try simp only [Act.put, List.setIfInBounds_toArray, List.set_cons_zero, List.set_cons_succ]
        refine wpAnyH_done (by kernel_rfl) ?_ _
        refine NoPanic.normal ?_
        go_wp2
        go_ret
        exact ⟨_, rfl, HT2.out, HB.out⟩
      · have e : wth k v (.node l a b r) = .node l a v r := by rw [wth]; exact (if_neg h1).trans (if_neg h2)
        have hc : cmpK k a = 0 := (if_neg h1).trans (if_neg h2)
        rw [e]
        clear e
        obtain ⟨z, hz⟩ : ∃ z, (Tr.node l a b r).size = z := ⟨_, rfl⟩
        have hz2 : (Tr.node l a v r).size = z := by rw [← hz]; rfl
        rw [hz] at HS5 HR
        have HZ := Lib.hid hz2
        clear hz hz2
        go_enter Try.func22, Try.ntmps22
        go_upto_region 8 with (go_at_call 43; refine (cmp_i _ _ _).mono ?_; rintro e w' ⟨rfl, rfl⟩; rw [hc])
        refine wp_region_noPanic ?_
        refine wp_region_held_drew (S := (fun V => (V.cell? ⟨g, 0, none⟩ = some (.int .i64 a) ∧ V.cell? ⟨g, 2, none⟩ = some (.pointer ql)) ∧ V.cell? ⟨g, 3, none⟩ = some (.pointer qr) ∧ V.cell? ⟨g, 4, none⟩ = some (.int .i64 (z : Nat)))) (by kernel_rfl) ?_ (fun hHeld => ?_)
        · exact HS5.out _ HB.out
        refine take_at 0 52 _ (v := ?vr30_0) rfl rfl (by kernel_rfl) (by kernel_rfl) (by kernel_rfl) (fun _ _ _ h => h) (Or.inl ⟨by rfl, ?hyr30_0⟩) (by assumption) ?restr30_0
        case hyr30_0 =>
          intro wX hSw
          try dsimp only at hSw
          go_simp
          first
          | done
          | (with_reducible rfl)
        try simp only [Act.put, List.setIfInBounds_toArray, List.set_cons_zero, List.set_cons_succ]
        refine take_at 1 53 _ (v := ?vr30_1) rfl rfl (by kernel_rfl) (by kernel_rfl) (by kernel_rfl) (fun _ _ _ h => h) (Or.inl ⟨by rfl, ?hyr30_1⟩) (by assumption) ?restr30_1
        case hyr30_1 =>
          intro wX hSw
          try dsimp only at hSw
          go_simp
          first
          | done
          | (with_reducible rfl)
        try simp only [Act.put, List.setIfInBounds_toArray, List.set_cons_zero, List.set_cons_succ]
        refine take_at 2 54 _ (v := ?vr30_2) rfl rfl (by kernel_rfl) (by kernel_rfl) (by kernel_rfl) (fun _ _ _ h => h) (Or.inl ⟨by rfl, ?hyr30_2⟩) (by assumption) ?restr30_2
        case hyr30_2 =>
          intro wX hSw
          try dsimp only at hSw
          go_simp
          first
          | done
          | (with_reducible rfl)
        try simp only [Act.put, List.setIfInBounds_toArray, List.set_cons_zero, List.set_cons_succ]
        refine take_at 3 55 _ (v := ?vr30_3) rfl rfl (by kernel_rfl) (by kernel_rfl) (by kernel_rfl) (fun _ _ _ h => h) (Or.inl ⟨by rfl, ?hyr30_3⟩) (by assumption) ?restr30_3
        case hyr30_3 =>
          intro wX hSw
          try dsimp only at hSw
          go_simp
          first
          | done
          | (with_reducible rfl)
        try simp only [Act.put, List.setIfInBounds_toArray, List.set_cons_zero, List.set_cons_succ]
        refine take_at 4 56 _ (v := ?vr30_4) rfl rfl (by kernel_rfl) (by kernel_rfl) (by kernel_rfl) (fun _ _ _ h => h) (Or.inl ⟨by rfl, ?hyr30_4⟩) (by assumption) ?restr30_4
        case hyr30_4 =>
          intro wX hSw
          try dsimp only at hSw
          go_simp
          first
          | done
          | (with_reducible rfl)
        try simp only [Act.put, List.setIfInBounds_toArray, List.set_cons_zero, List.set_cons_succ]
        refine take_at 5 57 _ (v := ?vr30_5) rfl rfl (by kernel_rfl) (by kernel_rfl) (by kernel_rfl) (fun _ _ _ h => h) (Or.inl ⟨by rfl, ?hyr30_5⟩) (by assumption) ?restr30_5
        case hyr30_5 =>
          intro wX hSw
          try dsimp only at hSw
          go_simp
          first
          | done
          | (with_reducible rfl)
        try simp only [Act.put, List.setIfInBounds_toArray, List.set_cons_zero, List.set_cons_succ]
        refine take_at 6 58 _ (v := ?vr30_6) rfl rfl (by kernel_rfl) (by kernel_rfl) (by kernel_rfl) (fun _ _ _ h => h) (Or.inl ⟨by rfl, ?hyr30_6⟩) (by assumption) ?restr30_6
        case hyr30_6 =>
          intro wX hSw
          try dsimp only at hSw
          go_simp
          first
          | done
          | (with_reducible rfl)
        try simp only [Act.put, List.setIfInBounds_toArray, List.set_cons_zero, List.set_cons_succ]
        refine take_at 7 59 _ (v := ?vr30_7) rfl rfl (by kernel_rfl) (by kernel_rfl) (by kernel_rfl) (fun _ _ _ h => h) (Or.inl ⟨by rfl, ?hyr30_7⟩) (by assumption) ?restr30_7
        case hyr30_7 =>
          intro wX hSw
          try dsimp only at hSw
          go_simp
          first
          | done
          | (with_reducible rfl)
        try simp only [Act.put, List.setIfInBounds_toArray, List.set_cons_zero, List.set_cons_succ]
        refine take_at 8 60 _ (v := ?vr30_8) rfl rfl (by kernel_rfl) (by kernel_rfl) (by kernel_rfl) (fun _ _ _ h => h) (Or.inl ⟨by rfl, ?hyr30_8⟩) (by assumption) ?restr30_8
        case hyr30_8 =>
          intro wX hSw
          try dsimp only at hSw
          go_simp
          first
          | done
          | (with_reducible rfl)
        try simp only [Act.put, List.setIfInBounds_toArray, List.set_cons_zero, List.set_cons_succ]
        refine take_at 9 61 _ (v := ?vr30_9) rfl rfl (by kernel_rfl) (by kernel_rfl) (by kernel_rfl) (fun _ _ _ h => h) (Or.inl ⟨by rfl, ?hyr30_9⟩) (by assumption) ?restr30_9
        case hyr30_9 =>
          intro wX hSw
          try dsimp only at hSw
          go_simp
          first
          | done
          | (with_reducible rfl)
        try simp only [Act.put, List.setIfInBounds_toArray, List.set_cons_zero, List.set_cons_succ]
        refine take_at 10 62 _ (v := ?vr30_10) rfl rfl (by kernel_rfl) (by kernel_rfl) (by kernel_rfl) (fun _ _ _ h => h) (Or.inl ⟨by rfl, ?hyr30_10⟩) (by assumption) ?restr30_10
        case hyr30_10 =>
          intro wX hSw
          try dsimp only at hSw
          go_simp
          first
          | done
          | (with_reducible rfl)
        try simp only [Act.put, List.setIfInBounds_toArray, List.set_cons_zero, List.set_cons_succ]
        refine take_at 11 63 _ (v := ?vr30_11) rfl rfl (by kernel_rfl) (by kernel_rfl) (by kernel_rfl) (fun _ _ _ h => h) (Or.inl ⟨by rfl, ?hyr30_11⟩) (by assumption) ?restr30_11
        case hyr30_11 =>
          intro wX hSw
          try dsimp only at hSw
          go_simp
          first
          | done
          | (with_reducible rfl)
        try simp only [Act.put, List.setIfInBounds_toArray, List.set_cons_zero, List.set_cons_succ]
        refine take_at 12 64 _ (v := ?vr30_12) rfl rfl (by kernel_rfl) (by kernel_rfl) (by kernel_rfl) (fun _ _ _ h => h) (Or.inl ⟨by rfl, ?hyr30_12⟩) (by assumption) ?restr30_12
        case hyr30_12 =>
          intro wX hSw
          try dsimp only at hSw
          go_simp
          first
          | done
          | (with_reducible rfl)
        try simp only [Act.put, List.setIfInBounds_toArray, List.set_cons_zero, List.set_cons_succ]
        refine take_at 13 65 _ (v := ?vr30_13) rfl rfl (by kernel_rfl) (by kernel_rfl) (by kernel_rfl) (fun _ _ _ h => h) (Or.inl ⟨by rfl, ?hyr30_13⟩) (by assumption) ?restr30_13
        case hyr30_13 =>
          intro wX hSw
          try dsimp only at hSw
          go_simp
          first
          | done
          | (with_reducible rfl)
        try simp only [Act.put, List.setIfInBounds_toArray, List.set_cons_zero, List.set_cons_succ]
        refine take_at 14 66 _ (v := ?vr30_14) rfl rfl (by kernel_rfl) (by kernel_rfl) (by kernel_rfl) (fun _ _ _ h => h) (Or.inl ⟨by rfl, ?hyr30_14⟩) (by assumption) ?restr30_14
        case hyr30_14 =>
          intro wX hSw
          try dsimp only at hSw
          go_simp
          first
          | done
          | (with_reducible rfl)
        try simp only [Act.put, List.setIfInBounds_toArray, List.set_cons_zero, List.set_cons_succ]
        refine take_at 15 67 _ (v := ?vr30_15) rfl rfl (by kernel_rfl) (by kernel_rfl) (by kernel_rfl) (fun _ _ _ h => h) (Or.inl ⟨by rfl, ?hyr30_15⟩) (by assumption) ?restr30_15
        case hyr30_15 =>
          intro wX hSw
          try dsimp only at hSw
          go_simp
          first
          | done
          | (with_reducible rfl)
        try simp only [Act.put, List.setIfInBounds_toArray, List.set_cons_zero, List.set_cons_succ]
        refine take_at 16 68 _ (v := ?vr30_16) rfl rfl (by kernel_rfl) (by kernel_rfl) (by kernel_rfl) (fun _ _ _ h => h) (Or.inl ⟨by rfl, ?hyr30_16⟩) (by assumption) ?restr30_16
        case hyr30_16 =>
          intro wX hSw
          try dsimp only at hSw
          go_simp
          first
          | done
          | (with_reducible rfl)
        try simp only [Act.put, List.setIfInBounds_toArray, List.set_cons_zero, List.set_cons_succ]
        refine take_at 17 69 _ (v := ?vr30_17) rfl rfl (by kernel_rfl) (by kernel_rfl) (by kernel_rfl) (fun _ _ _ h => h) (Or.inl ⟨by rfl, ?hyr30_17⟩) (by assumption) ?restr30_17
        case hyr30_17 =>
          intro wX hSw
          try dsimp only at hSw
          go_simp
          first
          | done
          | (with_reducible rfl)
        try simp only [Act.put, List.setIfInBounds_toArray, List.set_cons_zero, List.set_cons_succ]
        refine wpAnyH_ready (rs := [18]) (by kernel_rfl) (by simp) ?_
        refine AllReadyH.cons rfl (fun K hK => ?_) AllReadyH.nil
        go_simp

        try go_wp2_with fail
        refine hK.out _ _ ?_ (fun hHeld2 => ?_)
        · exact (HS5.out _ (((Below.refl _ w).alloc (Nat.le_refl _) _).drew))
        clear hK K hHeld
        have hHeld := hHeld2
        clear hHeld2
        try simp only [Act.put, List.setIfInBounds_toArray, List.set_cons_zero, List.set_cons_succ]
        refine take_at 19 6 _ (v := ?vr30_19) rfl rfl (by kernel_rfl) (by kernel_rfl) (by kernel_rfl) (fun _ _ _ h => h) (Or.inl ⟨by rfl, ?hyr30_19⟩) (by assumption) ?restr30_19
        case hyr30_19 =>
          intro wX hSw
          try dsimp only at hSw
          go_simp
          first
          | done
          | (with_reducible rfl)
        try simp only [Act.put, List.setIfInBounds_toArray, List.set_cons_zero, List.set_cons_succ]
        refine wpAnyH_done (by kernel_rfl) ?_ _
        refine NoPanic.normal ?_
        obtain ⟨W, hW⟩ : ∃ W, (w.alloc (.cells #[.int .i64 a, .int .i64 v, .pointer ql, .pointer qr, .int .i64 (z : Nat)] 72)).drew = W := ⟨_, rfl⟩
        have hb : Below w.heap.size w W := by rw [← hW]; exact ((Below.refl _ w).alloc (Nat.le_refl _) _).drew
        have hr : Row W w.heap.size 72 #[.int .i64 a, .int .i64 v, .pointer ql, .pointer qr, .int .i64 ((Tr.node l a v r).size : Nat)] := by
          rw [HZ.out, ← hW]
          exact Row.drew (Row.made w _ _)
        rw [hW]
        clear hW hHeld
        go_wp2
        go_ret
        exact ⟨_, rfl, ⟨_, _, _, rfl, hr, TL.out.below hb, TR.out.below hb⟩, hb⟩

set_option maxHeartbeats 1000000 in
theorem first_i (t : Tr Int Int) (p : Value) (w : World) (h : TmI w t p) : Calls Try.prog 31 #[p] w fun e w' => ∃ p', e = .returned p' ∧ TmI w (fstT t) p' ∧ w = w' := by
  have HM : Hid (∃ t1, TmI w t1 p ∧ fstT t1 = fstT t) := Lib.hid ⟨t, h, rfl⟩
  clear h
  go_enter Try.func31, Try.ntmps31
  go_wp2_with fail
  go_loopw [0] (fun s wr => w = wr ∧ Hid (∃ t1, TmI w t1 s ∧ fstT t1 = fstT t)) (fun s wr => cntOf wr s)
  case atStart => exact ⟨rfl, HM⟩
  case round =>
    clear HM
    obtain ⟨rfl, hrel⟩ := hrel
    obtain ⟨t1, h1, h2⟩ := hrel.out
    have HE := Lib.hid h2
    cases t1 with
    | leaf =>
      unfold TmI Tm at h1
      subst h1
      clear h2 hrel
      go_wp2
      go_ret
      exact ⟨_, rfl, by rw [← HE.out]; rfl, rfl⟩
    | node l a b r =>
      have H1 := Lib.hid h1
      have hcn := cntOf_tm h1
      obtain ⟨g, pl, pr, rfl, rw0, tl, tr⟩ := h1
      obtain ⟨ql, rfl⟩ := tl.isPtr
      have c2 : w.cell? ⟨g, 2, none⟩ = some (.pointer ql) := (rw0.cell 2).trans rfl
      have TL := Lib.hid tl
      have HC := Lib.hid hcn
      clear rw0 tr hcn h2 hrel
      cases l with
      | leaf =>
        injection tl with e
        subst e
        go_wp2
        go_ret
        exact ⟨_, rfl, by rw [← HE.out]; exact H1.out, rfl⟩
      | node l1 a1 b1 r1 =>
        have hcl := Lib.hid (cntOf_tm tl)
        obtain ⟨g2, _, _, e, _⟩ := tl
        injection e with e
        subst e
        go_wp2
        go_roundw
        case rel => exact ⟨trivial, Lib.hid ⟨_, TL.out, HE.out⟩⟩
        case measure => rw [HC.out, hcl.out]; simp only [Tr.size]; omega

set_option maxHeartbeats 1000000 in
theorem last_i (t : Tr Int Int) (p : Value) (w : World) (h : TmI w t p) : Calls Try.prog 32 #[p] w fun e w' => ∃ p', e = .returned p' ∧ TmI w (lstT t) p' ∧ w = w' := by
  have HM : Hid (∃ t1, TmI w t1 p ∧ lstT t1 = lstT t) := Lib.hid ⟨t, h, rfl⟩
  clear h
  go_enter Try.func32, Try.ntmps32
  go_wp2_with fail
  go_loopw [0] (fun s wr => w = wr ∧ Hid (∃ t1, TmI w t1 s ∧ lstT t1 = lstT t)) (fun s wr => cntOf wr s)
  case atStart => exact ⟨rfl, HM⟩
  case round =>
    clear HM
    obtain ⟨rfl, hrel⟩ := hrel
    obtain ⟨t1, h1, h2⟩ := hrel.out
    have HE := Lib.hid h2
    cases t1 with
    | leaf =>
      unfold TmI Tm at h1
      subst h1
      clear h2 hrel
      go_wp2
      go_ret
      exact ⟨_, rfl, by rw [← HE.out]; rfl, rfl⟩
    | node l a b r =>
      have H1 := Lib.hid h1
      have hcn := cntOf_tm h1
      obtain ⟨g, pl, pr, rfl, rw0, tl, tr⟩ := h1
      obtain ⟨ql, rfl⟩ := tr.isPtr
      have c2 : w.cell? ⟨g, 3, none⟩ = some (.pointer ql) := (rw0.cell 3).trans rfl
      have TL := Lib.hid tr
      have HC := Lib.hid hcn
      clear rw0 tl hcn h2 hrel
      cases r with
      | leaf =>
        injection tr with e
        subst e
        go_wp2
        go_ret
        exact ⟨_, rfl, by rw [← HE.out]; exact H1.out, rfl⟩
      | node l1 a1 b1 r1 =>
        have hcl := Lib.hid (cntOf_tm tr)
        obtain ⟨g2, _, _, e, _⟩ := tr
        injection e with e
        subst e
        go_wp2
        go_roundw
        case rel => exact ⟨trivial, Lib.hid ⟨_, TL.out, HE.out⟩⟩
        case measure => rw [HC.out, hcl.out]; simp only [Tr.size]; omega
set_option maxHeartbeats 1000000 in
theorem find_i (k : Int) (t : Tr Int Int) (p : Value) (w : World) (h : TmI w t p) : Calls Try.prog 24 #[p, .int .i64 k] w fun e w' => ∃ p', e = .returned p' ∧ TmI w (fndT k t) p' ∧ w = w' := by
  have HM : Hid (∃ t1, TmI w t1 p ∧ fndT k t1 = fndT k t) := Lib.hid ⟨t, h, rfl⟩
  clear h
  go_enter Try.func24, Try.ntmps24
  go_wp2_with fail
  go_loopw [0] (fun s wr => w = wr ∧ Hid (∃ t1, TmI w t1 s ∧ fndT k t1 = fndT k t)) (fun s wr => cntOf wr s)
  case atStart => exact ⟨rfl, HM⟩
  case round =>
    clear HM
    obtain ⟨rfl, hrel⟩ := hrel
    obtain ⟨t1, h1, h2⟩ := hrel.out
    have HE := Lib.hid h2
    cases t1 with
    | leaf =>
      unfold TmI Tm at h1
      subst h1
      clear h2 hrel
      go_wp2
      go_ret
      exact ⟨_, rfl, by rw [← HE.out]; rfl, rfl⟩
    | node l a b r =>
      have H1 := Lib.hid h1
      have hcn := cntOf_tm h1
      obtain ⟨g, pl, pr, rfl, rw0, tl, tr⟩ := h1
      obtain ⟨ql, rfl⟩ := tl.isPtr
      obtain ⟨qr, rfl⟩ := tr.isPtr
      have c0 : w.cell? ⟨g, 0, none⟩ = some (.int .i64 a) := (rw0.cell 0).trans rfl
      have c2 : w.cell? ⟨g, 2, none⟩ = some (.pointer ql) := (rw0.cell 2).trans rfl
      have c3 : w.cell? ⟨g, 3, none⟩ = some (.pointer qr) := (rw0.cell 3).trans rfl
      have TL := Lib.hid tl
      have TR := Lib.hid tr
      have HC := Lib.hid hcn
      have HCL := Lib.hid (cntOf_tm tl)
      have HCR := Lib.hid (cntOf_tm tr)
      clear rw0 tl tr hcn h2 hrel
      by_cases h1 : lt k a
      · have e : fndT k (.node l a b r) = fndT k l := by rw [fndT]; exact if_pos h1
        have hc : cmpK k a = -1 := if_pos h1
        rw [e] at HE
        clear e
        go_wp2_with (go_at_call 43; refine (cmp_i _ _ _).mono ?_; rintro e w' ⟨rfl, rfl⟩; rw [hc])
        go_roundw
        case rel => exact ⟨trivial, Lib.hid ⟨_, TL.out, HE.out⟩⟩
        case measure => rw [HC.out, HCL.out]; simp only [Tr.size]; omega
      · by_cases h2 : lt a k
        · have e : fndT k (.node l a b r) = fndT k r := by rw [fndT]; exact (if_neg h1).trans (if_pos h2)
          have hc : cmpK k a = 1 := (if_neg h1).trans (if_pos h2)
          rw [e] at HE
          clear e
          go_wp2_with (go_at_call 43; refine (cmp_i _ _ _).mono ?_; rintro e w' ⟨rfl, rfl⟩; rw [hc])
          go_roundw
          case rel => exact ⟨trivial, Lib.hid ⟨_, TR.out, HE.out⟩⟩
          case measure => rw [HC.out, HCR.out]; simp only [Tr.size]; omega
        · have e : fndT k (.node l a b r) = .node l a b r := by rw [fndT]; exact (if_neg h1).trans (if_neg h2)
          have hc : cmpK k a = 0 := (if_neg h1).trans (if_neg h2)
          rw [e] at HE
          clear e
          go_wp2_with (go_at_call 43; refine (cmp_i _ _ _).mono ?_; rintro e w' ⟨rfl, rfl⟩; rw [hc])
          go_ret
          exact ⟨_, rfl, by rw [← HE.out]; exact H1.out, rfl⟩
def tops_i (t : Tr Int Int) : Array Value := match topT t with
  | none => #[.int .i64 0, .int .i64 0, .bool false]
  | some (a, b) => #[.int .i64 a, .int .i64 b, .bool true]
theorem told_i (t : Tr Int Int) (p : Value) (w : World) (h : TmI w t p) : Calls Try.prog 26 #[p] w fun e w' => e = .returned (.tuple (tops_i t)) ∧ ∃ n, w' = w.drewN n := by
  cases t with
  | leaf =>
    obtain rfl : p = .pointer none := h
    go_enter Try.func26, Try.ntmps26
    go_wp2
    exact bodyPost_ret (v := .tuple #[.int .i64 0, .int .i64 0, .bool false]) (by simp [results, Try.results26, go_sem]; try rfl) rfl ⟨rfl, 0, rfl⟩
  | node l a b r =>
    obtain ⟨g, pl, pr, rfl, rw0, _⟩ := h
    have c0 : w.cell? ⟨g, 0, none⟩ = some (.int .i64 a) := (rw0.cell 0).trans rfl
    have c1 : w.cell? ⟨g, 1, none⟩ = some (.int .i64 b) := (rw0.cell 1).trans rfl
    have e : tops_i (.node l a b r) = #[.int .i64 a, .int .i64 b, .bool true] := rfl
    rw [e]
    clear rw0 e
    go_enter Try.func26, Try.ntmps26
    go_wp2
    go_quiet (fail)
    go_wp2
    exact bodyPost_ret (v := .tuple #[.int .i64 a, .int .i64 b, .bool true]) (by simp [results, Try.results26, go_sem]; try rfl) rfl ⟨rfl, _, rfl⟩

set_option maxHeartbeats 4000000 in
theorem without_i : ∀ (t : Tr Int Int) (k : Int) (p : Value) (w : World), TmI w t p → Up t.toL → (find k t).isSome → t.size ≤ 100000000 →
    Calls Try.prog 25 #[p, .int .i64 k] w fun e w' => ∃ p', e = .returned p' ∧ TmI w' (wout k t) p' ∧ Below w.heap.size w w'
  | .leaf, k, p, w, _, _, h, _ => by cases h
  | .node l a b r, k, p, w, h, hu, hf, hs => by
    obtain ⟨g, pl, pr, rfl, rw0, tl, tr⟩ := h
    obtain ⟨ql, rfl⟩ := tl.isPtr
    obtain ⟨qr, rfl⟩ := tr.isPtr
    obtain ⟨u1, u2, u3, u4, u5⟩ := up_node (show Up (l.toL ++ (a, b) :: r.toL) from hu)
    have hsz : (Tr.node l a b r).size = l.size + 1 + r.size := rfl
    have HSZ : Hid (l.size + r.size ≤ 100000000) := Lib.hid (by omega)
    have IHL : Hid (∀ W : World, Below w.heap.size w W → (find k l).isSome → Calls Try.prog 25 #[.pointer ql, .int .i64 k] W fun e w' => ∃ p', e = .returned p' ∧ TmI w' (wout k l) p' ∧ Below W.heap.size W w') := Lib.hid (fun W hW hf => without_i l k _ W (tl.below hW) u1 hf (by omega))
    have IHR : Hid (∀ (W : World) (x : Int), Below w.heap.size w W → (find x r).isSome → Calls Try.prog 25 #[.pointer qr, .int .i64 x] W fun e w' => ∃ p', e = .returned p' ∧ TmI w' (wout x r) p' ∧ Below W.heap.size W w') := Lib.hid (fun W x hW hf => without_i r x _ W (tr.below hW) u2 hf (by omega))
    have HLl : Hid ((wout k l).size ≤ l.size) := Lib.hid (wout_le u1)
    have HLr : Hid (∀ x, (wout x r).size ≤ r.size) := Lib.hid (fun x => wout_le u2)
    have HU2 := Lib.hid u2
    have HR := Lib.hid rw0
    have TL := Lib.hid tl
    have TR := Lib.hid tr
    have HF := Lib.hid hf
    have c0 : w.cell? ⟨g, 0, none⟩ = some (.int .i64 a) := (rw0.cell 0).trans rfl
    have c2 : w.cell? ⟨g, 2, none⟩ = some (.pointer ql) := (rw0.cell 2).trans rfl
    have c3 : w.cell? ⟨g, 3, none⟩ = some (.pointer qr) := (rw0.cell 3).trans rfl
    have HS2 : Hid (∀ V : World, Below w.heap.size w V → V.cell? ⟨g, 2, none⟩ = some (.pointer ql) ∧ V.cell? ⟨g, 3, none⟩ = some (.pointer qr)) := Lib.hid (fun V hV => ⟨((rw0.below hV rw0.lt).cell 2).trans rfl, ((rw0.below hV rw0.lt).cell 3).trans rfl⟩)
    have HB : Hid (Below w.heap.size w w.drew) := Lib.hid (Below.refl _ w).drew
    have hgl : g < w.heap.size := rw0.lt
    clear rw0 tl tr hs hsz hu u1 u2 u3 u4 u5 hf
    by_cases h1 : lt k a
    · have e : wout k (.node l a b r) = bet (wout k l) a b r := wout_lt h1
      have hc : cmpK k a = -1 := if_pos h1
      have hfl : Hid ((find k l).isSome) := Lib.hid (by have h := HF.out; unfold find at h; rw [if_pos h1] at h; exact h)
      rw [e]
      clear e
      go_enter Try.func25, Try.ntmps25
      go_upto_region 3 with (go_at_call 43; refine (cmp_i _ _ _).mono ?_; rintro e w' ⟨rfl, rfl⟩; rw [hc])
      refine wp_region_noPanic ?_
      refine wp_region_held_drew (S := (fun V => V.cell? ⟨g, 2, none⟩ = some (.pointer ql) ∧ V.cell? ⟨g, 3, none⟩ = some (.pointer qr))) (by kernel_rfl) ?_ (fun hHeld => ?_)
      · exact HS2.out _ HB.out
      refine take_at 0 16 _ (v := ?vr31_0) rfl rfl (by kernel_rfl) (by kernel_rfl) (by kernel_rfl) (fun _ _ _ h => h) (Or.inl ⟨by rfl, ?hyr31_0⟩) (by assumption) ?restr31_0
      case hyr31_0 =>
        intro wX hSw
        try dsimp only at hSw
        go_simp
        first
        | done
        | (with_reducible rfl)
      try simp only [Act.put, List.setIfInBounds_toArray, List.set_cons_zero, List.set_cons_succ]
      refine take_at 1 17 _ (v := ?vr31_1) rfl rfl (by kernel_rfl) (by kernel_rfl) (by kernel_rfl) (fun _ _ _ h => h) (Or.inl ⟨by rfl, ?hyr31_1⟩) (by assumption) ?restr31_1
      case hyr31_1 =>
        intro wX hSw
        try dsimp only at hSw
        go_simp
        first
        | done
        | (with_reducible rfl)
      try simp only [Act.put, List.setIfInBounds_toArray, List.set_cons_zero, List.set_cons_succ]
      refine take_at 2 18 _ (v := ?vr31_2) rfl rfl (by kernel_rfl) (by kernel_rfl) (by kernel_rfl) (fun _ _ _ h => h) (Or.inl ⟨by rfl, ?hyr31_2⟩) (by assumption) ?restr31_2
      case hyr31_2 =>
        intro wX hSw
        try dsimp only at hSw
        go_simp
        first
        | done
        | (with_reducible rfl)
      try simp only [Act.put, List.setIfInBounds_toArray, List.set_cons_zero, List.set_cons_succ]
      refine take_at 3 19 _ (v := ?vr31_3) rfl rfl (by kernel_rfl) (by kernel_rfl) (by kernel_rfl) (fun _ _ _ h => h) (Or.inl ⟨by rfl, ?hyr31_3⟩) (by assumption) ?restr31_3
      case hyr31_3 =>
        intro wX hSw
        try dsimp only at hSw
        go_simp
        first
        | done
        | (with_reducible rfl)
      try simp only [Act.put, List.setIfInBounds_toArray, List.set_cons_zero, List.set_cons_succ]
      refine take_at 4 20 _ (v := ?vr31_4) rfl rfl (by kernel_rfl) (by kernel_rfl) (by kernel_rfl) (fun _ _ _ h => h) (Or.inl ⟨by rfl, ?hyr31_4⟩) (by assumption) ?restr31_4
      case hyr31_4 =>
        intro wX hSw
        try dsimp only at hSw
        go_simp
        first
        | done
        | (with_reducible rfl)
      try simp only [Act.put, List.setIfInBounds_toArray, List.set_cons_zero, List.set_cons_succ]
      refine take_at 5 21 _ (v := ?vr31_5) rfl rfl (by kernel_rfl) (by kernel_rfl) (by kernel_rfl) (fun _ _ _ h => h) (Or.inl ⟨by rfl, ?hyr31_5⟩) (by assumption) ?restr31_5
      case hyr31_5 =>
        intro wX hSw
        try dsimp only at hSw
        go_simp
        first
        | done
        | (with_reducible rfl)
      try simp only [Act.put, List.setIfInBounds_toArray, List.set_cons_zero, List.set_cons_succ]
      refine take_at 7 23 _ (v := ?vr31_7) rfl rfl (by kernel_rfl) (by kernel_rfl) (by kernel_rfl) (fun _ _ _ h => h) (Or.inl ⟨by rfl, ?hyr31_7⟩) (by assumption) ?restr31_7
      case hyr31_7 =>
        intro wX hSw
        try dsimp only at hSw
        go_simp
        first
        | done
        | (with_reducible rfl)
      try simp only [Act.put, List.setIfInBounds_toArray, List.set_cons_zero, List.set_cons_succ]
      refine take_at 8 24 _ (v := ?vr31_8) rfl rfl (by kernel_rfl) (by kernel_rfl) (by kernel_rfl) (fun _ _ _ h => h) (Or.inl ⟨by rfl, ?hyr31_8⟩) (by assumption) ?restr31_8
      case hyr31_8 =>
        intro wX hSw
        try dsimp only at hSw
        go_simp
        first
        | done
        | (with_reducible rfl)
      try simp only [Act.put, List.setIfInBounds_toArray, List.set_cons_zero, List.set_cons_succ]
      refine take_at 9 25 _ (v := ?vr31_9) rfl rfl (by kernel_rfl) (by kernel_rfl) (by kernel_rfl) (fun _ _ _ h => h) (Or.inl ⟨by rfl, ?hyr31_9⟩) (by assumption) ?restr31_9
      case hyr31_9 =>
        intro wX hSw
        try dsimp only at hSw
        go_simp
        first
        | done
        | (with_reducible rfl)
      try simp only [Act.put, List.setIfInBounds_toArray, List.set_cons_zero, List.set_cons_succ]
      refine take_at 10 26 _ (v := ?vr31_10) rfl rfl (by kernel_rfl) (by kernel_rfl) (by kernel_rfl) (fun _ _ _ h => h) (Or.inl ⟨by rfl, ?hyr31_10⟩) (by assumption) ?restr31_10
      case hyr31_10 =>
        intro wX hSw
        try dsimp only at hSw
        go_simp
        first
        | done
        | (with_reducible rfl)
      try simp only [Act.put, List.setIfInBounds_toArray, List.set_cons_zero, List.set_cons_succ]
      refine wpAnyH_ready (rs := [6]) (by kernel_rfl) (by simp) ?_
      refine AllReadyH.cons rfl (fun K hK => ?_) AllReadyH.nil
      go_simp
      go_at_call 25
      refine (IHL.out _ HB.out hfl.out).mono ?_
      rintro e V1 ⟨p, rfl, ht, hb⟩
      obtain ⟨q1, rfl⟩ := ht.isPtr
      have HT1 := Lib.hid ht
      have HBn := Lib.hid (HB.out.trans (hb.mono HB.out.size))
      clear HB
      have HB := HBn
      clear HBn
      have HD1 := Lib.hid hb
      clear hb ht
      try go_wp2_with fail
      refine hK.out _ _ ?_ (fun hHeld2 => ?_)
      · exact HS2.out _ HB.out
      clear hK K hHeld
      have hHeld := hHeld2
      clear hHeld2
      try simp only [Act.put, List.setIfInBounds_toArray, List.set_cons_zero, List.set_cons_succ]
      refine wpAnyH_ready (rs := [11]) (by kernel_rfl) (by simp) ?_
      refine AllReadyH.cons rfl (fun K hK => ?_) AllReadyH.nil
      go_simp
      go_at_call 44
      refine (between_i g a b _ _ _ (wout k l) r _ _ _ (HR.out.below HB.out HR.out.lt) HT1.out (TR.out.below HB.out) (by have h1 := HLl.out; have h2 := HSZ.out; omega)).mono ?_
      rintro e V2 ⟨p, rfl, ht, hb⟩
      obtain ⟨q2, rfl⟩ := ht.isPtr
      have HT2 := Lib.hid ht
      have HBn := Lib.hid (HB.out.trans (hb.mono HB.out.size))
      clear HB
      have HB := HBn
      clear HBn
      have HD2 := Lib.hid hb
      clear hb ht
      try go_wp2_with fail
      refine hK.out _ _ ?_ (fun hHeld2 => ?_)
      · exact HS2.out _ HB.out
      clear hK K hHeld
      have hHeld := hHeld2
      clear hHeld2
      try simp only [Act.put, List.setIfInBounds_toArray, List.set_cons_zero, List.set_cons_succ]
      refine take_at 12 4 _ (v := ?vr31_12) rfl rfl (by kernel_rfl) (by kernel_rfl) (by kernel_rfl) (fun _ _ _ h => h) (Or.inl ⟨by rfl, ?hyr31_12⟩) (by assumption) ?restr31_12
      case hyr31_12 =>
        intro wX hSw
        try dsimp only at hSw
        go_simp
        first
        | done
        | (with_reducible rfl)
      try simp only [Act.put, List.setIfInBounds_toArray, List.set_cons_zero, List.set_cons_succ]
      refine wpAnyH_done (by kernel_rfl) ?_ _
      refine NoPanic.normal ?_
      go_wp2
      go_ret
      exact ⟨_, rfl, HT2.out, HB.out⟩
    · by_cases h2 : lt a k
      · have e : wout k (.node l a b r) = bet l a b (wout k r) := wout_gt h1 h2
        have hc : cmpK k a = 1 := (if_neg h1).trans (if_pos h2)
        have hfr : Hid ((find k r).isSome) := Lib.hid (by have h := HF.out; unfold find at h; rw [if_neg h1, if_pos h2] at h; exact h)
        rw [e]
        clear e
        go_enter Try.func25, Try.ntmps25
        go_upto_region 5 with (go_at_call 43; refine (cmp_i _ _ _).mono ?_; rintro e w' ⟨rfl, rfl⟩; rw [hc])
        refine wp_region_noPanic ?_
        refine wp_region_held_drew (S := (fun V => V.cell? ⟨g, 2, none⟩ = some (.pointer ql) ∧ V.cell? ⟨g, 3, none⟩ = some (.pointer qr))) (by kernel_rfl) ?_ (fun hHeld => ?_)
        · exact HS2.out _ HB.out
        refine take_at 0 31 _ (v := ?vr32_0) rfl rfl (by kernel_rfl) (by kernel_rfl) (by kernel_rfl) (fun _ _ _ h => h) (Or.inl ⟨by rfl, ?hyr32_0⟩) (by assumption) ?restr32_0
        case hyr32_0 =>
          intro wX hSw
          try dsimp only at hSw
          go_simp
          first
          | done
          | (with_reducible rfl)
        try simp only [Act.put, List.setIfInBounds_toArray, List.set_cons_zero, List.set_cons_succ]
        refine take_at 1 32 _ (v := ?vr32_1) rfl rfl (by kernel_rfl) (by kernel_rfl) (by kernel_rfl) (fun _ _ _ h => h) (Or.inl ⟨by rfl, ?hyr32_1⟩) (by assumption) ?restr32_1
        case hyr32_1 =>
          intro wX hSw
          try dsimp only at hSw
          go_simp
          first
          | done
          | (with_reducible rfl)
        try simp only [Act.put, List.setIfInBounds_toArray, List.set_cons_zero, List.set_cons_succ]
        refine take_at 2 33 _ (v := ?vr32_2) rfl rfl (by kernel_rfl) (by kernel_rfl) (by kernel_rfl) (fun _ _ _ h => h) (Or.inl ⟨by rfl, ?hyr32_2⟩) (by assumption) ?restr32_2
        case hyr32_2 =>
          intro wX hSw
          try dsimp only at hSw
          go_simp
          first
          | done
          | (with_reducible rfl)
        try simp only [Act.put, List.setIfInBounds_toArray, List.set_cons_zero, List.set_cons_succ]
        refine take_at 3 34 _ (v := ?vr32_3) rfl rfl (by kernel_rfl) (by kernel_rfl) (by kernel_rfl) (fun _ _ _ h => h) (Or.inl ⟨by rfl, ?hyr32_3⟩) (by assumption) ?restr32_3
        case hyr32_3 =>
          intro wX hSw
          try dsimp only at hSw
          go_simp
          first
          | done
          | (with_reducible rfl)
        try simp only [Act.put, List.setIfInBounds_toArray, List.set_cons_zero, List.set_cons_succ]
        refine take_at 4 35 _ (v := ?vr32_4) rfl rfl (by kernel_rfl) (by kernel_rfl) (by kernel_rfl) (fun _ _ _ h => h) (Or.inl ⟨by rfl, ?hyr32_4⟩) (by assumption) ?restr32_4
        case hyr32_4 =>
          intro wX hSw
          try dsimp only at hSw
          go_simp
          first
          | done
          | (with_reducible rfl)
        try simp only [Act.put, List.setIfInBounds_toArray, List.set_cons_zero, List.set_cons_succ]
        refine take_at 5 36 _ (v := ?vr32_5) rfl rfl (by kernel_rfl) (by kernel_rfl) (by kernel_rfl) (fun _ _ _ h => h) (Or.inl ⟨by rfl, ?hyr32_5⟩) (by assumption) ?restr32_5
        case hyr32_5 =>
          intro wX hSw
          try dsimp only at hSw
          go_simp
          first
          | done
          | (with_reducible rfl)
        try simp only [Act.put, List.setIfInBounds_toArray, List.set_cons_zero, List.set_cons_succ]
        refine take_at 6 37 _ (v := ?vr32_6) rfl rfl (by kernel_rfl) (by kernel_rfl) (by kernel_rfl) (fun _ _ _ h => h) (Or.inl ⟨by rfl, ?hyr32_6⟩) (by assumption) ?restr32_6
        case hyr32_6 =>
          intro wX hSw
          try dsimp only at hSw
          go_simp
          first
          | done
          | (with_reducible rfl)
        try simp only [Act.put, List.setIfInBounds_toArray, List.set_cons_zero, List.set_cons_succ]
        refine take_at 7 38 _ (v := ?vr32_7) rfl rfl (by kernel_rfl) (by kernel_rfl) (by kernel_rfl) (fun _ _ _ h => h) (Or.inl ⟨by rfl, ?hyr32_7⟩) (by assumption) ?restr32_7
        case hyr32_7 =>
          intro wX hSw
          try dsimp only at hSw
          go_simp
          first
          | done
          | (with_reducible rfl)
        try simp only [Act.put, List.setIfInBounds_toArray, List.set_cons_zero, List.set_cons_succ]
        refine take_at 8 39 _ (v := ?vr32_8) rfl rfl (by kernel_rfl) (by kernel_rfl) (by kernel_rfl) (fun _ _ _ h => h) (Or.inl ⟨by rfl, ?hyr32_8⟩) (by assumption) ?restr32_8
        case hyr32_8 =>
          intro wX hSw
          try dsimp only at hSw
          go_simp
          first
          | done
          | (with_reducible rfl)
        try simp only [Act.put, List.setIfInBounds_toArray, List.set_cons_zero, List.set_cons_succ]
        refine take_at 9 40 _ (v := ?vr32_9) rfl rfl (by kernel_rfl) (by kernel_rfl) (by kernel_rfl) (fun _ _ _ h => h) (Or.inl ⟨by rfl, ?hyr32_9⟩) (by assumption) ?restr32_9
        case hyr32_9 =>
          intro wX hSw
          try dsimp only at hSw
          go_simp
          first
          | done
          | (with_reducible rfl)
        try simp only [Act.put, List.setIfInBounds_toArray, List.set_cons_zero, List.set_cons_succ]
        refine wpAnyH_ready (rs := [10]) (by kernel_rfl) (by simp) ?_
        refine AllReadyH.cons rfl (fun K hK => ?_) AllReadyH.nil
        go_simp
        go_at_call 25
        refine (IHR.out _ _ HB.out hfr.out).mono ?_
        rintro e V1 ⟨p, rfl, ht, hb⟩
        obtain ⟨q1, rfl⟩ := ht.isPtr
        have HT1 := Lib.hid ht
        have HBn := Lib.hid (HB.out.trans (hb.mono HB.out.size))
        clear HB
        have HB := HBn
        clear HBn
        have HD1 := Lib.hid hb
        clear hb ht
        try go_wp2_with fail
        refine hK.out _ _ ?_ (fun hHeld2 => ?_)
        · exact HS2.out _ HB.out
        clear hK K hHeld
        have hHeld := hHeld2
        clear hHeld2
        try simp only [Act.put, List.setIfInBounds_toArray, List.set_cons_zero, List.set_cons_succ]
        refine wpAnyH_ready (rs := [11]) (by kernel_rfl) (by simp) ?_
        refine AllReadyH.cons rfl (fun K hK => ?_) AllReadyH.nil
        go_simp
        go_at_call 44
        refine (between_i g a b _ _ _ l (wout k r) _ _ _ (HR.out.below HB.out HR.out.lt) (TL.out.below HB.out) HT1.out (by have h1 := HLr.out k; have h2 := HSZ.out; omega)).mono ?_
        rintro e V2 ⟨p, rfl, ht, hb⟩
        obtain ⟨q2, rfl⟩ := ht.isPtr
        have HT2 := Lib.hid ht
        have HBn := Lib.hid (HB.out.trans (hb.mono HB.out.size))
        clear HB
        have HB := HBn
        clear HBn
        have HD2 := Lib.hid hb
        clear hb ht
        try go_wp2_with fail
        refine hK.out _ _ ?_ (fun hHeld2 => ?_)
        · exact HS2.out _ HB.out
        clear hK K hHeld
        have hHeld := hHeld2
        clear hHeld2
        try simp only [Act.put, List.setIfInBounds_toArray, List.set_cons_zero, List.set_cons_succ]
        refine take_at 12 4 _ (v := ?vr32_12) rfl rfl (by kernel_rfl) (by kernel_rfl) (by kernel_rfl) (fun _ _ _ h => h) (Or.inl ⟨by rfl, ?hyr32_12⟩) (by assumption) ?restr32_12
        case hyr32_12 =>
          intro wX hSw
          try dsimp only at hSw
          go_simp
          first
          | done
          | (with_reducible rfl)
        try simp only [Act.put, List.setIfInBounds_toArray, List.set_cons_zero, List.set_cons_succ]
        refine wpAnyH_done (by kernel_rfl) ?_ _
        refine NoPanic.normal ?_
        go_wp2
        go_ret
        exact ⟨_, rfl, HT2.out, HB.out⟩
      · have hc : cmpK k a = 0 := (if_neg h1).trans (if_neg h2)
        cases l with
        | leaf =>
          have e : wout k (.node .leaf a b r) = r := by unfold wout; exact (if_neg h1).trans (if_neg h2)
          rw [e]
          clear e
          obtain rfl : ql = none := by have h := TL.out; injection h
          go_enter Try.func25, Try.ntmps25
          go_wp2_with (go_at_call 43; refine (cmp_i _ _ _).mono ?_; rintro e w' ⟨rfl, rfl⟩; rw [hc])
          go_ret
          exact ⟨_, rfl, TR.out, Below.refl _ _⟩
        | node la lb lc ld =>
          obtain ⟨gl, _, _, e1, _⟩ := id TL.out
          injection e1 with e1
          subst e1
          cases r with
          | leaf =>
            have e : wout k (.node (.node la lb lc ld) a b .leaf) = .node la lb lc ld := by unfold wout; exact (if_neg h1).trans (if_neg h2)
            rw [e]
            clear e
            obtain rfl : qr = none := by have h := TR.out; injection h
            go_enter Try.func25, Try.ntmps25
            go_wp2_with (go_at_call 43; refine (cmp_i _ _ _).mono ?_; rintro e w' ⟨rfl, rfl⟩; rw [hc])
            go_ret
            exact ⟨_, rfl, TL.out, Below.refl _ _⟩
          | node ra rb rc rd =>
            obtain ⟨gr, _, _, e2, _⟩ := id TR.out
            injection e2 with e2
            subst e2
            obtain ⟨R, hR⟩ : ∃ R, Tr.node ra rb rc rd = R := ⟨_, rfl⟩
            obtain ⟨L, hL⟩ : ∃ L, Tr.node la lb lc ld = L := ⟨_, rfl⟩
            obtain ⟨fl, x, y, fr, hfst⟩ : ∃ fl x y fr, fstT R = .node fl x y fr := by
              have h := fstT_top R
              rw [fst_toL] at h
              cases hh : fstT R with
              | leaf => rw [hh] at h; rw [← hR] at h; simp [topT, Tr.toL] at h
              | node fl x y fr => exact ⟨fl, x, y, fr, rfl⟩
            have hf2 : fst? R = some (x, y) := by rw [← fstT_top, hfst]; rfl
            have e : wout k (.node (.node la lb lc ld) a b (.node ra rb rc rd)) = bet L x y (wout x R) := by
              rw [← hR] at hf2
              rw [wout_two h1 h2 hf2, hR, hL]
            rw [e]
            have HFX : Hid ((find x R).isSome) := Lib.hid (by rw [find_fst (hR ▸ HU2.out) hf2]; rfl)
            rw [hR] at TR IHR HLr HSZ
            rw [hL] at TL HSZ
            have HFT : Hid (fstT R = .node fl x y fr) := Lib.hid hfst
            clear e hfst hf2 hR hL HU2 IHL HLl HF
            go_enter Try.func25, Try.ntmps25
            go_upto_region 11 with (first
              | (go_at_call 43; refine (cmp_i _ _ _).mono ?_; rintro e w' ⟨rfl, rfl⟩; rw [hc])
              | (go_at_call 31; refine (first_i R _ _ TR.out).mono ?_; rintro e w' ⟨p6, rfl, htf, rfl⟩; rw [HFT.out] at htf; obtain ⟨g6, p61, p62, rfl, r6, _⟩ := htf; have HR6 := Lib.hid r6; have HS6 : Hid (∀ V : World, Below w.heap.size w V → (V.cell? ⟨g, 2, none⟩ = some (.pointer (some ⟨gl, 0, none⟩)) ∧ V.cell? ⟨g, 3, none⟩ = some (.pointer (some ⟨gr, 0, none⟩))) ∧ V.cell? ⟨g6, 0, none⟩ = some (.int .i64 x)) := Lib.hid (fun V hV => ⟨HS2.out V hV, ((r6.below hV r6.lt).cell 0).trans rfl⟩); clear r6))
            refine wp_region_noPanic ?_
            refine wp_region_held_drew (S := (fun V => (V.cell? ⟨g, 2, none⟩ = some (.pointer (some ⟨gl, 0, none⟩)) ∧ V.cell? ⟨g, 3, none⟩ = some (.pointer (some ⟨gr, 0, none⟩))) ∧ V.cell? ⟨g6, 0, none⟩ = some (.int .i64 x))) (by kernel_rfl) ?_ (fun hHeld => ?_)
            · exact HS6.out _ HB.out
            refine take_at 0 68 _ (v := ?vr33_0) rfl rfl (by kernel_rfl) (by kernel_rfl) (by kernel_rfl) (fun _ _ _ h => h) (Or.inl ⟨by rfl, ?hyr33_0⟩) (by assumption) ?restr33_0
            case hyr33_0 =>
              intro wX hSw
              try dsimp only at hSw
              go_simp
              first
              | done
              | (with_reducible rfl)
            try simp only [Act.put, List.setIfInBounds_toArray, List.set_cons_zero, List.set_cons_succ]
            refine take_at 1 69 _ (v := ?vr33_1) rfl rfl (by kernel_rfl) (by kernel_rfl) (by kernel_rfl) (fun _ _ _ h => h) (Or.inl ⟨by rfl, ?hyr33_1⟩) (by assumption) ?restr33_1
            case hyr33_1 =>
              intro wX hSw
              try dsimp only at hSw
              go_simp
              first
              | done
              | (with_reducible rfl)
            try simp only [Act.put, List.setIfInBounds_toArray, List.set_cons_zero, List.set_cons_succ]
            refine take_at 2 70 _ (v := ?vr33_2) rfl rfl (by kernel_rfl) (by kernel_rfl) (by kernel_rfl) (fun _ _ _ h => h) (Or.inl ⟨by rfl, ?hyr33_2⟩) (by assumption) ?restr33_2
            case hyr33_2 =>
              intro wX hSw
              try dsimp only at hSw
              go_simp
              first
              | done
              | (with_reducible rfl)
            try simp only [Act.put, List.setIfInBounds_toArray, List.set_cons_zero, List.set_cons_succ]
            refine take_at 3 71 _ (v := ?vr33_3) rfl rfl (by kernel_rfl) (by kernel_rfl) (by kernel_rfl) (fun _ _ _ h => h) (Or.inl ⟨by rfl, ?hyr33_3⟩) (by assumption) ?restr33_3
            case hyr33_3 =>
              intro wX hSw
              try dsimp only at hSw
              go_simp
              first
              | done
              | (with_reducible rfl)
            try simp only [Act.put, List.setIfInBounds_toArray, List.set_cons_zero, List.set_cons_succ]
            refine take_at 4 72 _ (v := ?vr33_4) rfl rfl (by kernel_rfl) (by kernel_rfl) (by kernel_rfl) (fun _ _ _ h => h) (Or.inl ⟨by rfl, ?hyr33_4⟩) (by assumption) ?restr33_4
            case hyr33_4 =>
              intro wX hSw
              try dsimp only at hSw
              go_simp
              first
              | done
              | (with_reducible rfl)
            try simp only [Act.put, List.setIfInBounds_toArray, List.set_cons_zero, List.set_cons_succ]
            refine take_at 5 73 _ (v := ?vr33_5) rfl rfl (by kernel_rfl) (by kernel_rfl) (by kernel_rfl) (fun _ _ _ h => h) (Or.inl ⟨by rfl, ?hyr33_5⟩) (by assumption) ?restr33_5
            case hyr33_5 =>
              intro wX hSw
              try dsimp only at hSw
              go_simp
              first
              | done
              | (with_reducible rfl)
            try simp only [Act.put, List.setIfInBounds_toArray, List.set_cons_zero, List.set_cons_succ]
            refine take_at 6 74 _ (v := ?vr33_6) rfl rfl (by kernel_rfl) (by kernel_rfl) (by kernel_rfl) (fun _ _ _ h => h) (Or.inl ⟨by rfl, ?hyr33_6⟩) (by assumption) ?restr33_6
            case hyr33_6 =>
              intro wX hSw
              try dsimp only at hSw
              go_simp
              first
              | done
              | (with_reducible rfl)
            try simp only [Act.put, List.setIfInBounds_toArray, List.set_cons_zero, List.set_cons_succ]
            refine take_at 7 75 _ (v := ?vr33_7) rfl rfl (by kernel_rfl) (by kernel_rfl) (by kernel_rfl) (fun _ _ _ h => h) (Or.inl ⟨by rfl, ?hyr33_7⟩) (by assumption) ?restr33_7
            case hyr33_7 =>
              intro wX hSw
              try dsimp only at hSw
              go_simp
              first
              | done
              | (with_reducible rfl)
            try simp only [Act.put, List.setIfInBounds_toArray, List.set_cons_zero, List.set_cons_succ]
            refine take_at 8 76 _ (v := ?vr33_8) rfl rfl (by kernel_rfl) (by kernel_rfl) (by kernel_rfl) (fun _ _ _ h => h) (Or.inl ⟨by rfl, ?hyr33_8⟩) (by assumption) ?restr33_8
            case hyr33_8 =>
              intro wX hSw
              try dsimp only at hSw
              go_simp
              first
              | done
              | (with_reducible rfl)
            try simp only [Act.put, List.setIfInBounds_toArray, List.set_cons_zero, List.set_cons_succ]
            refine take_at 9 77 _ (v := ?vr33_9) rfl rfl (by kernel_rfl) (by kernel_rfl) (by kernel_rfl) (fun _ _ _ h => h) (Or.inl ⟨by rfl, ?hyr33_9⟩) (by assumption) ?restr33_9
            case hyr33_9 =>
              intro wX hSw
              try dsimp only at hSw
              go_simp
              first
              | done
              | (with_reducible rfl)
            try simp only [Act.put, List.setIfInBounds_toArray, List.set_cons_zero, List.set_cons_succ]
            refine take_at 10 78 _ (v := ?vr33_10) rfl rfl (by kernel_rfl) (by kernel_rfl) (by kernel_rfl) (fun _ _ _ h => h) (Or.inl ⟨by rfl, ?hyr33_10⟩) (by assumption) ?restr33_10
            case hyr33_10 =>
              intro wX hSw
              try dsimp only at hSw
              go_simp
              first
              | done
              | (with_reducible rfl)
            try simp only [Act.put, List.setIfInBounds_toArray, List.set_cons_zero, List.set_cons_succ]
            refine take_at 11 79 _ (v := ?vr33_11) rfl rfl (by kernel_rfl) (by kernel_rfl) (by kernel_rfl) (fun _ _ _ h => h) (Or.inl ⟨by rfl, ?hyr33_11⟩) (by assumption) ?restr33_11
            case hyr33_11 =>
              intro wX hSw
              try dsimp only at hSw
              go_simp
              first
              | done
              | (with_reducible rfl)
            try simp only [Act.put, List.setIfInBounds_toArray, List.set_cons_zero, List.set_cons_succ]
            refine take_at 12 80 _ (v := ?vr33_12) rfl rfl (by kernel_rfl) (by kernel_rfl) (by kernel_rfl) (fun _ _ _ h => h) (Or.inl ⟨by rfl, ?hyr33_12⟩) (by assumption) ?restr33_12
            case hyr33_12 =>
              intro wX hSw
              try dsimp only at hSw
              go_simp
              first
              | done
              | (with_reducible rfl)
            try simp only [Act.put, List.setIfInBounds_toArray, List.set_cons_zero, List.set_cons_succ]
            refine wpAnyH_ready (rs := [13]) (by kernel_rfl) (by simp) ?_
            refine AllReadyH.cons rfl (fun K hK => ?_) AllReadyH.nil
            go_simp
            go_at_call 25
            refine (IHR.out _ _ HB.out HFX.out).mono ?_
            rintro e V1 ⟨p, rfl, ht, hb⟩
            obtain ⟨q1, rfl⟩ := ht.isPtr
            have HT1 := Lib.hid ht
            have HBn := Lib.hid (HB.out.trans (hb.mono HB.out.size))
            clear HB
            have HB := HBn
            clear HBn
            have HD1 := Lib.hid hb
            clear hb ht
            try go_wp2_with fail
            refine hK.out _ _ ?_ (fun hHeld2 => ?_)
            · exact HS6.out _ HB.out
            clear hK K hHeld
            have hHeld := hHeld2
            clear hHeld2
            try simp only [Act.put, List.setIfInBounds_toArray, List.set_cons_zero, List.set_cons_succ]
            refine wpAnyH_ready (rs := [14]) (by kernel_rfl) (by simp) ?_
            refine AllReadyH.cons rfl (fun K hK => ?_) AllReadyH.nil
            go_simp
            go_at_call 44
            refine (between_i g6 x y _ _ _ L (wout x R) _ _ _ (HR6.out.below HB.out HR6.out.lt) (TL.out.below HB.out) HT1.out (by have h1 := HLr.out x; have h2 := HSZ.out; omega)).mono ?_
            rintro e V2 ⟨p, rfl, ht, hb⟩
            obtain ⟨q2, rfl⟩ := ht.isPtr
            have HT2 := Lib.hid ht
            have HBn := Lib.hid (HB.out.trans (hb.mono HB.out.size))
            clear HB
            have HB := HBn
            clear HBn
            have HD2 := Lib.hid hb
            clear hb ht
            try go_wp2_with fail
            refine hK.out _ _ ?_ (fun hHeld2 => ?_)
            · exact HS6.out _ HB.out
            clear hK K hHeld
            have hHeld := hHeld2
            clear hHeld2
            try simp only [Act.put, List.setIfInBounds_toArray, List.set_cons_zero, List.set_cons_succ]
            refine take_at 15 4 _ (v := ?vr33_15) rfl rfl (by kernel_rfl) (by kernel_rfl) (by kernel_rfl) (fun _ _ _ h => h) (Or.inl ⟨by rfl, ?hyr33_15⟩) (by assumption) ?restr33_15
            case hyr33_15 =>
              intro wX hSw
              try dsimp only at hSw
              go_simp
              first
              | done
              | (with_reducible rfl)
            try simp only [Act.put, List.setIfInBounds_toArray, List.set_cons_zero, List.set_cons_succ]
            refine wpAnyH_done (by kernel_rfl) ?_ _
            refine NoPanic.normal ?_
            go_wp2
            go_ret
            exact ⟨_, rfl, HT2.out, HB.out⟩
theorem less_i (a b : Int) (w : World) : Calls Try.prog 30 #[.int .i64 a, .int .i64 b] w fun e w' => e = .returned (.bool (decide (lt a b))) ∧ w = w' := by
  go_enter Try.func30, Try.ntmps30
  go_wp2_with (first | (go_at_call 45; refine (nan_i _ _).mono ?_; rintro e w1 ⟨rfl, rfl⟩) | fail)
  go_ret
  exact ⟨rfl, rfl⟩
set_option maxHeartbeats 1000000 in
theorem below_i (k : Int) (t : Tr Int Int) (p : Value) (w : World) (h : TmI w t p) (hs : t.size ≤ 100000000) : Calls Try.prog 28 #[p, .int .i64 k] w fun e w' => e = .returned (.int .i64 (blw k t : Nat)) ∧ w = w' := by
  have HM : Hid (∃ t1, TmI w t1 p ∧ 0 + blw k t1 = blw k t ∧ 0 + t1.size ≤ t.size) := Lib.hid ⟨t, h, by omega, by omega⟩
  clear h
  go_enter Try.func28, Try.ntmps28
  go_wp2_with fail
  go_loopw [0, 5] (fun s s5 wr => w = wr ∧ ∃ c : Nat, s5 = .int .i64 c ∧ Hid (∃ t1, TmI w t1 s ∧ c + blw k t1 = blw k t ∧ c + t1.size ≤ t.size)) (fun s _ wr => cntOf wr s)
  case atStart => exact ⟨rfl, 0, rfl, HM⟩
  case round =>
    clear HM
    obtain ⟨rfl, c, rfl, hrel⟩ := hrel
    obtain ⟨t1, h1, h2, h3⟩ := hrel.out
    have HE := Lib.hid h2
    cases t1 with
    | leaf =>
      unfold TmI Tm at h1
      subst h1
      clear h2 hrel
      go_wp2
      go_ret
      exact ⟨ret_int (by rw [← HE.out]; rfl), rfl⟩
    | node l a b r =>
      have hcn := cntOf_tm h1
      obtain ⟨g, pl, pr, rfl, rw0, tl, tr⟩ := h1
      obtain ⟨ql, rfl⟩ := tl.isPtr
      obtain ⟨qr, rfl⟩ := tr.isPtr
      have hsz : (Tr.node l a b r).size = l.size + 1 + r.size := rfl
      have c0 : w.cell? ⟨g, 0, none⟩ = some (.int .i64 a) := (rw0.cell 0).trans rfl
      have c2 : w.cell? ⟨g, 2, none⟩ = some (.pointer ql) := (rw0.cell 2).trans rfl
      have c3 : w.cell? ⟨g, 3, none⟩ = some (.pointer qr) := (rw0.cell 3).trans rfl
      have TL := Lib.hid tl
      have TR := Lib.hid tr
      have HC := Lib.hid hcn
      have HCL := Lib.hid (cntOf_tm tl)
      have HCR := Lib.hid (cntOf_tm tr)
      obtain ⟨x, hx⟩ : ∃ x, l.size = x := ⟨_, rfl⟩
      have HSL : Hid (Calls Try.prog 27 #[.pointer ql] w fun e w' => e = .returned (.int .i64 (x : Nat)) ∧ w = w') := Lib.hid (by rw [← hx]; exact size_i _ _ _ tl)
      have HX := Lib.hid hx
      have w1 : IntKind.i64.wrap ((x : Int) + 1) = (x : Int) + 1 := by rw [IntKind.wrap_i64]; omega
      have w2 : IntKind.i64.wrap ((c : Int) + ((x : Int) + 1)) = (c : Int) + ((x : Int) + 1) := by rw [IntKind.wrap_i64]; omega
      have H3 : Hid (c + (x + 1 + r.size) ≤ t.size) := Lib.hid (by omega)
      clear rw0 tl tr hcn h2 hrel hsz hx h3
      by_cases h1 : lt a k
      · have e : blw k (.node l a b r) = l.size + 1 + blw k r := blw_lt h1
        rw [e, HX.out] at HE
        have hd : decide (lt a k) = true := decide_eq_true h1
        clear e
        go_wp2_with (first
          | (go_at_call 30; refine (less_i _ _ _).mono ?_; rintro e w' ⟨rfl, rfl⟩; rw [hd])
          | (go_at_call 27; refine HSL.out.mono ?_; rintro e w' ⟨rfl, rfl⟩)
          | fail)
        go_roundw
        case rel => exact ⟨trivial, c + (x + 1), by go_num, Lib.hid ⟨_, TR.out, by have := HE.out; omega, by have := H3.out; omega⟩⟩
        case measure => rw [HC.out, HCR.out]; simp only [Tr.size]; omega
      · have e : blw k (.node l a b r) = blw k l := blw_ge h1
        rw [e] at HE
        have hd : decide (lt a k) = false := decide_eq_false h1
        clear e
        go_wp2_with (first
          | (go_at_call 30; refine (less_i _ _ _).mono ?_; rintro e w' ⟨rfl, rfl⟩; rw [hd])
          | fail)
        go_roundw
        case rel => exact ⟨trivial, c, rfl, Lib.hid ⟨_, TL.out, HE.out, by have := H3.out; have := HX.out; omega⟩⟩
        case measure => rw [HC.out, HCL.out]; simp only [Tr.size]; omega
end Go.Proofs.Ytnibmfijkbfaeaa.Om
