/- A message's twin. -/
import Derived.Test.YtpgacadnmekdhaaMsI
import Derived.Deep.RegionLaw
namespace Go.Proofs.Ytpgacadnmekdhaa.Ms
open Go.RowKit Go.Proofs.Ytpgacadnmekdhaa Go.Proofs.Ytpgacadnmekdhaa.Ev
set_option linter.unusedVariables false
set_option maxRecDepth 100000
section
variable {X : World} {b : Nat} {v0 v1 v2 v3 v4 v5 v6 v7 v8 v9 v10 v11 : Value}
theorem tw_row (u2 u3 u4 u5 u6 : Value) (h : Row X b 85 #[v0, v1, v2, v3, v4, v5, v6, v7, v8, v9, v10, v11]) : Row (((((X.setCell ⟨b, 2, none⟩ u2).setCell ⟨b, 3, none⟩ u3).setCell ⟨b, 4, none⟩ u4).setCell ⟨b, 5, none⟩ u5).setCell ⟨b, 6, none⟩ u6) b 85 #[v0, v1, u2, u3, u4, u5, u6, v7, v8, v9, v10, v11] :=
  ((((h.put 2 u2).put 3 u3).put 4 u4).put 5 u5).put 6 u6
theorem tw_row2 (u9 u10 u11 : Value) (h : Row X b 85 #[v0, v1, v2, v3, v4, v5, v6, v7, v8, v9, v10, v11]) : Row (((X.setCell ⟨b, 9, none⟩ u9).setCell ⟨b, 10, none⟩ u10).setCell ⟨b, 11, none⟩ u11) b 85 #[v0, v1, v2, v3, v4, v5, v6, v7, v8, u9, u10, u11] :=
  ((h.put 9 u9).put 10 u10).put 11 u11
end
theorem tw_all {w W w2 w3 : World} {b b2 : Nat} {v0 v1 v2 v3 v4 v5 v6 v7 v8 v9 v10 v11 : Value} {cy : Array Value} {vs : List VV} {yA : Option Addr} {yc : Nat} {yob : Option Nat} (hb2 : Below w.heap.size w w2) (hb3 : Below w2.heap.size w2 w3) (r0 : Row w3 b 85 #[v0, v1, v2, v3, v4, v5, v6, v7, v8, v9, v10, v11]) (r1 : Row w3 b2 85 cy)
    (hs : Seg w2 94 4 (.slice yA vs.length yc) vs.length (vcells vs) yob) (hg : ∀ g, yob = some g → W.heap.size ≤ g) (hW : w.heap.size ≤ W.heap.size) (hne : b2 ≠ b) (u2 u3 u4 u5 u6 u9 u10 u11 : Value) (hge : w.heap.size ≤ b := by exact Nat.le_refl _) :
    Below w.heap.size w ((((((((w3.setCell ⟨b, 2, none⟩ u2).setCell ⟨b, 3, none⟩ u3).setCell ⟨b, 4, none⟩ u4).setCell ⟨b, 5, none⟩ u5).setCell ⟨b, 6, none⟩ u6).setCell ⟨b, 9, none⟩ u9).setCell ⟨b, 10, none⟩ u10).setCell ⟨b, 11, none⟩ u11) ∧
    Row ((((((((w3.setCell ⟨b, 2, none⟩ u2).setCell ⟨b, 3, none⟩ u3).setCell ⟨b, 4, none⟩ u4).setCell ⟨b, 5, none⟩ u5).setCell ⟨b, 6, none⟩ u6).setCell ⟨b, 9, none⟩ u9).setCell ⟨b, 10, none⟩ u10).setCell ⟨b, 11, none⟩ u11) b 85 #[v0, v1, u2, u3, u4, u5, u6, v7, v8, u9, u10, u11] ∧
    Row ((((((((w3.setCell ⟨b, 2, none⟩ u2).setCell ⟨b, 3, none⟩ u3).setCell ⟨b, 4, none⟩ u4).setCell ⟨b, 5, none⟩ u5).setCell ⟨b, 6, none⟩ u6).setCell ⟨b, 9, none⟩ u9).setCell ⟨b, 10, none⟩ u10).setCell ⟨b, 11, none⟩ u11) b2 85 cy ∧
    Seg ((((((((w3.setCell ⟨b, 2, none⟩ u2).setCell ⟨b, 3, none⟩ u3).setCell ⟨b, 4, none⟩ u4).setCell ⟨b, 5, none⟩ u5).setCell ⟨b, 6, none⟩ u6).setCell ⟨b, 9, none⟩ u9).setCell ⟨b, 10, none⟩ u10).setCell ⟨b, 11, none⟩ u11) 94 4 (.slice yA vs.length yc) vs.length (vcells vs) yob ∧ (∀ g, yob = some g → w.heap.size ≤ g) ∧ w.heap.size ≤ b := by
  have hs3 := hs.turns (Turns.of_below hb3) (fun _ _ x => x)
  have hn : yob ≠ some b := fun e => by
    rw [e] at hs3
    obtain ⟨c, hr⟩ := seg_row hs3
    exact row_ne hr r0 (by decide) rfl
  refine ⟨?_, tw_row2 u9 u10 u11 (tw_row u2 u3 u4 u5 u6 r0), ?_, ?_, fun g h => by have := hg g h; omega, hge⟩
  · have h := hb2.trans (hb3.mono hb2.size)
    exact (((((((h.setCell (p := ⟨b, 2, none⟩) hge u2).setCell (p := ⟨b, 3, none⟩) hge u3).setCell (p := ⟨b, 4, none⟩) hge u4).setCell (p := ⟨b, 5, none⟩) hge u5).setCell (p := ⟨b, 6, none⟩) hge u6).setCell (p := ⟨b, 9, none⟩) hge u9).setCell (p := ⟨b, 10, none⟩) hge u10).setCell (p := ⟨b, 11, none⟩) hge u11
  · exact (((((((r1.past (p := ⟨b, 2, none⟩) hne u2).past (p := ⟨b, 3, none⟩) hne u3).past (p := ⟨b, 4, none⟩) hne u4).past (p := ⟨b, 5, none⟩) hne u5).past (p := ⟨b, 6, none⟩) hne u6).past (p := ⟨b, 9, none⟩) hne u9).past (p := ⟨b, 10, none⟩) hne u10).past (p := ⟨b, 11, none⟩) hne u11
  · exact (((((((hs3.past (p := ⟨b, 2, none⟩) hn u2).past (p := ⟨b, 3, none⟩) hn u3).past (p := ⟨b, 4, none⟩) hn u4).past (p := ⟨b, 5, none⟩) hn u5).past (p := ⟨b, 6, none⟩) hn u6).past (p := ⟨b, 9, none⟩) hn u9).past (p := ⟨b, 10, none⟩) hn u10).past (p := ⟨b, 11, none⟩) hn u11
theorem tw_h1 {X : World} {b2 : Nat} {v0 v1 v2 v3 v4 v5 v6 v7 v8 v9 v10 v11 : Value} (hr : Row X b2 85 #[v0, v1, v2, v3, v4, v5, v6, v7, v8, v9, v10, v11]) (u0 u1 u2 u3 : Value) : Row (((((X).setCell ⟨b2, 0, none⟩ u0).setCell ⟨b2, 1, none⟩ u1).setCell ⟨b2, 2, none⟩ u2).setCell ⟨b2, 3, none⟩ u3) b2 85 #[u0, u1, u2, u3, v4, v5, v6, v7, v8, v9, v10, v11] := ((((hr.put 0 u0).put 1 u1).put 2 u2).put 3 u3)
theorem tw_h2 {X : World} {b2 : Nat} {v0 v1 v2 v3 v4 v5 v6 v7 v8 v9 v10 v11 : Value} (hr : Row X b2 85 #[v0, v1, v2, v3, v4, v5, v6, v7, v8, v9, v10, v11]) (u4 u5 u6 u7 : Value) : Row (((((X).setCell ⟨b2, 4, none⟩ u4).setCell ⟨b2, 5, none⟩ u5).setCell ⟨b2, 6, none⟩ u6).setCell ⟨b2, 7, none⟩ u7) b2 85 #[v0, v1, v2, v3, u4, u5, u6, u7, v8, v9, v10, v11] := ((((hr.put 4 u4).put 5 u5).put 6 u6).put 7 u7)
theorem tw_h3 {X : World} {b2 : Nat} {v0 v1 v2 v3 v4 v5 v6 v7 v8 v9 v10 v11 : Value} (hr : Row X b2 85 #[v0, v1, v2, v3, v4, v5, v6, v7, v8, v9, v10, v11]) (u8 u9 u10 u11 : Value) : Row (((((X).setCell ⟨b2, 8, none⟩ u8).setCell ⟨b2, 9, none⟩ u9).setCell ⟨b2, 10, none⟩ u10).setCell ⟨b2, 11, none⟩ u11) b2 85 #[v0, v1, v2, v3, v4, v5, v6, v7, u8, u9, u10, u11] := ((((hr.put 8 u8).put 9 u9).put 10 u10).put 11 u11)
theorem tw_last {w X : World} {b2 : Nat} {v0 v1 v2 v3 v4 v5 v6 v7 v8 v9 v10 v11 : Value} {vs : List VV} {yA : Option Addr} {yc : Nat} {yob : Option Nat} (hb : Below w.heap.size w X) (hr : Row X b2 85 #[v0, v1, v2, v3, v4, v5, v6, v7, v8, v9, v10, v11]) (hs : Seg X 94 4 (.slice yA vs.length yc) vs.length (vcells vs) yob) (hg : ∀ g, yob = some g → w.heap.size ≤ g) (hge : w.heap.size ≤ b2) (u0 u1 u2 u3 u4 u5 u6 u7 u8 u9 u10 u11 : Value) :
    Row (((((((((((((X).setCell ⟨b2, 0, none⟩ u0).setCell ⟨b2, 1, none⟩ u1).setCell ⟨b2, 2, none⟩ u2).setCell ⟨b2, 3, none⟩ u3).setCell ⟨b2, 4, none⟩ u4).setCell ⟨b2, 5, none⟩ u5).setCell ⟨b2, 6, none⟩ u6).setCell ⟨b2, 7, none⟩ u7).setCell ⟨b2, 8, none⟩ u8).setCell ⟨b2, 9, none⟩ u9).setCell ⟨b2, 10, none⟩ u10).setCell ⟨b2, 11, none⟩ u11) b2 85 #[u0, u1, u2, u3, u4, u5, u6, u7, u8, u9, u10, u11] ∧ Cpy w (((((((((((((X).setCell ⟨b2, 0, none⟩ u0).setCell ⟨b2, 1, none⟩ u1).setCell ⟨b2, 2, none⟩ u2).setCell ⟨b2, 3, none⟩ u3).setCell ⟨b2, 4, none⟩ u4).setCell ⟨b2, 5, none⟩ u5).setCell ⟨b2, 6, none⟩ u6).setCell ⟨b2, 7, none⟩ u7).setCell ⟨b2, 8, none⟩ u8).setCell ⟨b2, 9, none⟩ u9).setCell ⟨b2, 10, none⟩ u10).setCell ⟨b2, 11, none⟩ u11) vs yA yc yob := by
  have hn : yob ≠ some b2 := fun e => by
    rw [e] at hs
    obtain ⟨c, h⟩ := seg_row hs
    exact row_ne h hr (by decide) rfl
  exact ⟨tw_h3 (tw_h2 (tw_h1 hr u0 u1 u2 u3) u4 u5 u6 u7) u8 u9 u10 u11, ((((((((((((hs.past (p := ⟨b2, 0, none⟩) hn u0).past (p := ⟨b2, 1, none⟩) hn u1).past (p := ⟨b2, 2, none⟩) hn u2).past (p := ⟨b2, 3, none⟩) hn u3).past (p := ⟨b2, 4, none⟩) hn u4).past (p := ⟨b2, 5, none⟩) hn u5).past (p := ⟨b2, 6, none⟩) hn u6).past (p := ⟨b2, 7, none⟩) hn u7).past (p := ⟨b2, 8, none⟩) hn u8).past (p := ⟨b2, 9, none⟩) hn u9).past (p := ⟨b2, 10, none⟩) hn u10).past (p := ⟨b2, 11, none⟩) hn u11), hg, ((((((((((((hb.setCell (p := ⟨b2, 0, none⟩) hge u0).setCell (p := ⟨b2, 1, none⟩) hge u1).setCell (p := ⟨b2, 2, none⟩) hge u2).setCell (p := ⟨b2, 3, none⟩) hge u3).setCell (p := ⟨b2, 4, none⟩) hge u4).setCell (p := ⟨b2, 5, none⟩) hge u5).setCell (p := ⟨b2, 6, none⟩) hge u6).setCell (p := ⟨b2, 7, none⟩) hge u7).setCell (p := ⟨b2, 8, none⟩) hge u8).setCell (p := ⟨b2, 9, none⟩) hge u9).setCell (p := ⟨b2, 10, none⟩) hge u10).setCell (p := ⟨b2, 11, none⟩) hge u11)⟩
set_option maxHeartbeats 40000000 in
theorem twin_any (kind tick : Int) (ty key : ByteArray) (t q : Int) (A : Option Addr) (c : Nat) (vs : List VV) (T : Int) (id : ByteArray) (win cap : Int) (w : World) (h : Vls w A c vs) :
    Calls Try.prog 105 #[.agg #[.int .i64 kind, .int .i64 tick, .string ty, .string key, .int .i64 t, .int .i64 q, .slice A vs.length c, .int .i64 T, .string id, .slice none 0 0, .int .i64 win, .int .i64 cap]] w (TwinEnd w kind tick ty key t q vs T id win cap) := by
  have H := Lib.hid h
  clear h
  obtain ⟨n, hn⟩ : ∃ n, vs.length = n := ⟨_, rfl⟩
  have HN := Lib.hid hn
  rw [hn]
  clear hn
  go_enter Try.func105, Try.ntmps105
  go_upto_region 1 with fail
  have hb0 : Below w.heap.size w ((w.alloc (.cells #[.int .i64 kind, .int .i64 tick, .string ty, .string key, .int .i64 t, .int .i64 q, .slice A n c, .int .i64 T, .string id, .slice none 0 0, .int .i64 win, .int .i64 cap] 85)).alloc (.cells #[.int .i64 0, .int .i64 0, .string { data := #[] }, .string { data := #[] }, .int .i64 0, .int .i64 0, .slice none 0 0, .int .i64 0, .string { data := #[] }, .slice none 0 0, .int .i64 0, .int .i64 0] 85)) := ((Below.refl _ w).alloc (Nat.le_refl _) _).alloc (by simp) _
  have r0 := (Row.made w 85 #[.int .i64 kind, .int .i64 tick, .string ty, .string key, .int .i64 t, .int .i64 q, .slice A n c, .int .i64 T, .string id, .slice none 0 0, .int .i64 win, .int .i64 cap]).alloc (.cells #[.int .i64 0, .int .i64 0, .string { data := #[] }, .string { data := #[] }, .int .i64 0, .int .i64 0, .slice none 0 0, .int .i64 0, .string { data := #[] }, .slice none 0 0, .int .i64 0, .int .i64 0] 85)
  have r1 := Row.made (w.alloc (.cells #[.int .i64 kind, .int .i64 tick, .string ty, .string key, .int .i64 t, .int .i64 q, .slice A n c, .int .i64 T, .string id, .slice none 0 0, .int .i64 win, .int .i64 cap] 85)) 85 #[.int .i64 0, .int .i64 0, .string { data := #[] }, .string { data := #[] }, .int .i64 0, .int .i64 0, .slice none 0 0, .int .i64 0, .string { data := #[] }, .slice none 0 0, .int .i64 0, .int .i64 0]
  rw [World.size_alloc] at r1
  generalize (w.alloc (.cells #[.int .i64 kind, .int .i64 tick, .string ty, .string key, .int .i64 t, .int .i64 q, .slice A n c, .int .i64 T, .string id, .slice none 0 0, .int .i64 win, .int .i64 cap] 85)).alloc (.cells #[.int .i64 0, .int .i64 0, .string { data := #[] }, .string { data := #[] }, .int .i64 0, .int .i64 0, .slice none 0 0, .int .i64 0, .string { data := #[] }, .slice none 0 0, .int .i64 0, .int .i64 0] 85) = W at hb0 r0 r1 ⊢
  have HB0 := Lib.hid hb0
  have R0 := Lib.hid r0
  have R1 := Lib.hid r1
  have hge : w.heap.size ≤ w.heap.size + 1 := by omega
  have hne : w.heap.size + 1 ≠ w.heap.size := by omega
  clear hb0 r0 r1
  generalize w.heap.size + 1 = b2 at R1 hge hne ⊢
  have HNE := Lib.hid hne
  clear hne
  have p2 := R0.out.is 2 (v := .string ty) rfl
  have p3 := R0.out.is 3 (v := .string key) rfl
  have p4 := R0.out.is 4 (v := .int .i64 t) rfl
  have p5 := R0.out.is 5 (v := .int .i64 q) rfl
  have p6 := R0.out.is 6 (v := .slice A n c) rfl
  have p9 := R0.out.is 9 (v := .slice none 0 0) rfl
  have p10 := R0.out.is 10 (v := .int .i64 win) rfl
  have p11 := R0.out.is 11 (v := .int .i64 cap) rfl
  have hv1 : Vls W A c vs := H.out.call HB0.out
  have HV2 : Hid (Vls W.drew A c vs) := hv1
  clear hv1
  have HS0 := Lib.hid (And.intro p9 (And.intro p10 p11))
  clear HS0
  first | go_region_law (first
    | (
          go_simp
          go_at_call 144
          (with_reducible refine (ev_copy' ty key t q A c vs n HN.out W.drew HV2.out).mono ?_)
          rintro e w2 ⟨yA, yc, yob, rfl, hc⟩
          have HC := Lib.hid hc
          have R2 := Lib.hid (Row.below (Row.drew R0.out) hc.be R0.out.lt)
          have q9 := R2.out.is 9 (v := .slice none 0 0) rfl
          have q10 := R2.out.is 10 (v := .int .i64 win) rfl
          have q11 := R2.out.is 11 (v := .int .i64 cap) rfl
          clear hc p2 p3 p4 p5 p6 p9 p10 p11)
    | (
          go_simp
          go_at_call 78
          (with_reducible refine (q_copy win cap _).mono ?_)
          rintro e w3 ⟨rfl, hb3⟩
          have HB3 := Lib.hid hb3
          have R3 := Lib.hid (Row.below R2.out hb3 R2.out.lt)
          have s2 := R3.out.is 2 (v := .string ty) rfl
          have s3 := R3.out.is 3 (v := .string key) rfl
          have s4 := R3.out.is 4 (v := .int .i64 t) rfl
          have s5 := R3.out.is 5 (v := .int .i64 q) rfl
          have s6 := R3.out.is 6 (v := .slice A n c) rfl
          have s9 := R3.out.is 9 (v := .slice none 0 0) rfl
          have s10 := R3.out.is 10 (v := .int .i64 win) rfl
          have s11 := R3.out.is 11 (v := .int .i64 cap) rfl
          have z2 := R3.out.free 2
          have z3 := R3.out.free 3
          have z4 := R3.out.free 4
          have z5 := R3.out.free 5
          have z6 := R3.out.free 6
          have z9 := R3.out.free 9
          have z10 := R3.out.free 10
          have z11 := R3.out.free 11
          clear hb3 q9 q10 q11)) | fail
  all_goals
    go_upto_region 2 with fail
    have hseg := HC.out.seg
    have h5 := tw_all (HB0.out.trans (Below.mono ((below_drewN (Below.refl _ W) 1).trans HC.out.be) HB0.out.size)) HB3.out R3.out (Row.below (Row.below (Row.drew R1.out) HC.out.be R1.out.lt) HB3.out (Row.below (Row.drew R1.out) HC.out.be R1.out.lt).lt) HC.out.seg HC.out.ge HB0.out.size HNE.out (.string ty) (.string key) (.int .i64 t) (.int .i64 q) (.slice yA n yc) (.slice none 0 0) (.int .i64 win) (.int .i64 cap)
    generalize (((((((w3.setCell ⟨w.heap.size, 2, none⟩ (.string ty)).setCell ⟨w.heap.size, 3, none⟩ (.string key)).setCell ⟨w.heap.size, 4, none⟩ (.int .i64 t)).setCell ⟨w.heap.size, 5, none⟩ (.int .i64 q)).setCell ⟨w.heap.size, 6, none⟩ (.slice yA n yc)).setCell ⟨w.heap.size, 9, none⟩ (.slice none 0 0)).setCell ⟨w.heap.size, 10, none⟩ (.int .i64 win)).setCell ⟨w.heap.size, 11, none⟩ (.int .i64 cap) = W5 at h5 ⊢
    have H5 := Lib.hid h5
    clear h5 hseg s2 s3 s4 s5 s6 s9 s10 s11 z2 z3 z4 z5 z6 z9 z10 z11 HC HB3 R3 R2 HB0 R0 R1 HNE HV2
    have p0 := H5.out.2.1.is 0 (v := .int .i64 kind) rfl
    have p1 := H5.out.2.1.is 1 (v := .int .i64 tick) rfl
    have p2 := H5.out.2.1.is 2 (v := .string ty) rfl
    have p3 := H5.out.2.1.is 3 (v := .string key) rfl
    have p4 := H5.out.2.1.is 4 (v := .int .i64 t) rfl
    have p5 := H5.out.2.1.is 5 (v := .int .i64 q) rfl
    have p6 := H5.out.2.1.is 6 (v := .slice yA n yc) rfl
    have p7 := H5.out.2.1.is 7 (v := .int .i64 T) rfl
    have p8 := H5.out.2.1.is 8 (v := .string id) rfl
    have p9 := H5.out.2.1.is 9 (v := .slice none 0 0) rfl
    have p10 := H5.out.2.1.is 10 (v := .int .i64 win) rfl
    have p11 := H5.out.2.1.is 11 (v := .int .i64 cap) rfl
    have q0 := H5.out.2.2.1.is 0 (v := .int .i64 0) rfl
    have q1 := H5.out.2.2.1.is 1 (v := .int .i64 0) rfl
    have q2 := H5.out.2.2.1.is 2 (v := .string { data := #[] }) rfl
    have q3 := H5.out.2.2.1.is 3 (v := .string { data := #[] }) rfl
    have q4 := H5.out.2.2.1.is 4 (v := .int .i64 0) rfl
    have q5 := H5.out.2.2.1.is 5 (v := .int .i64 0) rfl
    have q6 := H5.out.2.2.1.is 6 (v := .slice none 0 0) rfl
    have q7 := H5.out.2.2.1.is 7 (v := .int .i64 0) rfl
    have q8 := H5.out.2.2.1.is 8 (v := .string { data := #[] }) rfl
    have q9 := H5.out.2.2.1.is 9 (v := .slice none 0 0) rfl
    have q10 := H5.out.2.2.1.is 10 (v := .int .i64 0) rfl
    have q11 := H5.out.2.2.1.is 11 (v := .int .i64 0) rfl
    have z0 := H5.out.2.2.1.free 0
    have z1 := H5.out.2.2.1.free 1
    have z2 := H5.out.2.2.1.free 2
    have z3 := H5.out.2.2.1.free 3
    have z4 := H5.out.2.2.1.free 4
    have z5 := H5.out.2.2.1.free 5
    have z6 := H5.out.2.2.1.free 6
    have z7 := H5.out.2.2.1.free 7
    have z8 := H5.out.2.2.1.free 8
    have z9 := H5.out.2.2.1.free 9
    have z10 := H5.out.2.2.1.free 10
    have z11 := H5.out.2.2.1.free 11
    go_wp2
    have h6 := tw_last H5.out.1 H5.out.2.2.1 H5.out.2.2.2.1 H5.out.2.2.2.2.1 hge (.int .i64 kind) (.int .i64 tick) (.string ty) (.string key) (.int .i64 t) (.int .i64 q) (.slice yA n yc) (.int .i64 T) (.string id) (.slice none 0 0) (.int .i64 win) (.int .i64 cap)
    generalize ((((((((((((W5).setCell ⟨b2, 0, none⟩ (.int .i64 kind)).setCell ⟨b2, 1, none⟩ (.int .i64 tick)).setCell ⟨b2, 2, none⟩ (.string ty)).setCell ⟨b2, 3, none⟩ (.string key)).setCell ⟨b2, 4, none⟩ (.int .i64 t)).setCell ⟨b2, 5, none⟩ (.int .i64 q)).setCell ⟨b2, 6, none⟩ (.slice yA n yc)).setCell ⟨b2, 7, none⟩ (.int .i64 T)).setCell ⟨b2, 8, none⟩ (.string id)).setCell ⟨b2, 9, none⟩ (.slice none 0 0)).setCell ⟨b2, 10, none⟩ (.int .i64 win)).setCell ⟨b2, 11, none⟩ (.int .i64 cap) = W6 at h6 ⊢
    have H6 := Lib.hid h6
    clear h6 H5 p0 q0 z0 p1 q1 z1 p2 q2 z2 p3 q3 z3 p4 q4 z4 p5 q5 z5 p6 q6 z6 p7 q7 z7 p8 q8 z8 p9 q9 z9 p10 q10 z10 p11 q11 z11
    have p0 := H6.out.1.is 0 (v := .int .i64 kind) rfl
    have p1 := H6.out.1.is 1 (v := .int .i64 tick) rfl
    have p2 := H6.out.1.is 2 (v := .string ty) rfl
    have p3 := H6.out.1.is 3 (v := .string key) rfl
    have p4 := H6.out.1.is 4 (v := .int .i64 t) rfl
    have p5 := H6.out.1.is 5 (v := .int .i64 q) rfl
    have p6 := H6.out.1.is 6 (v := .slice yA n yc) rfl
    have p7 := H6.out.1.is 7 (v := .int .i64 T) rfl
    have p8 := H6.out.1.is 8 (v := .string id) rfl
    have p9 := H6.out.1.is 9 (v := .slice none 0 0) rfl
    have p10 := H6.out.1.is 10 (v := .int .i64 win) rfl
    have p11 := H6.out.1.is 11 (v := .int .i64 cap) rfl
    exact bodyPost_ret (v := .agg #[.int .i64 kind, .int .i64 tick, .string ty, .string key, .int .i64 t, .int .i64 q, .slice yA n yc, .int .i64 T, .string id, .slice none 0 0, .int .i64 win, .int .i64 cap]) (by simp [results, Try.results105, go_sem, p0, p1, p2, p3, p4, p5, p6, p7, p8, p9, p10, p11]) rfl ⟨yA, yc, yob, by rw [HN.out], H6.out.2⟩
theorem twin_is : TwinAny := twin_any
end Go.Proofs.Ytpgacadnmekdhaa.Ms
