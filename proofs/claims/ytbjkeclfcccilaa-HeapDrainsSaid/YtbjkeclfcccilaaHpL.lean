/- A heap in memory: the least is taken. -/
import Derived.Test.YtbjkeclfcccilaaHpK
namespace Go.Proofs.Ytbjkeclfcccilaa.Hp
open Go.RowKit Go.Proofs.Ytbjkeclfcccilaa
set_option linter.unusedVariables false
set_option maxRecDepth 100000
/-- What taking the least leaves. -/
structure Dz (w wx : World) (b : Nat) (ob : Option Nat) (v' : Value) (ys : List St) : Prop where
  hm : Hm wx b v' ob ys
  tr : Turns w wx (fun k => k = b ∨ ob = some k)
theorem Hm.obt {w : World} {b g : Nat} {v : Value} {ob : Option Nat} {xs : List St} (h : Hm w b v ob xs) (hg : ob = some g) : g < w.heap.size := h.seg.lt g hg
theorem drop_gen (b : Nat) (v : Value) (ob : Option Nat) (xs : List St) (w : World) (h : Hm w b v ob xs) (h0 : 0 < xs.length) (h64 : xs.length ≤ 65536) :
    Calls Try.prog 17 #[.pointer (some ⟨b, 0, none⟩)] w fun e w' => e = .returned (.tuple #[]) ∧ ∃ v', Dz w w' b ob v' (drop1 xs) := by
  obtain ⟨g, o, cap, rfl, rfl, _⟩ := h.at h0
  obtain ⟨n, hn⟩ : ∃ n, xs.length = n + 1 := ⟨xs.length - 1, by omega⟩
  rw [hn] at h
  refine (drop_any b g o cap n xs w h hn (by omega)).mono ?_
  rintro e w' ⟨rfl, h1, h2⟩
  exact ⟨rfl, _, h1, h2.mono (fun k _ e => e.imp id (fun e => by rw [e]))⟩
set_option maxHeartbeats 2000000 in
theorem pop_yes (b : Nat) (v : Value) (ob : Option Nat) (xs : List St) (w : World) (h : Hm w b v ob xs) (h0 : 0 < xs.length) (h64 : xs.length ≤ 65536) :
    Calls Try.prog 8 #[.pointer (some ⟨b, 0, none⟩)] w fun e w' => e = .returned (.tuple #[.agg #[.int .i64 (gt xs 0).t, .int .i64 (gt xs 0).q, .int .i64 (gt xs 0).a], .bool true]) ∧ ∃ v', Dz w w' b ob v' (drop1 xs) := by
  have hB := (Below.refl _ w).alloc (Nat.le_refl _) (.cells #[.int .i64 0, .int .i64 0, .int .i64 0] 28)
  have HM := Lib.hid (h.call hB)
  have HX := Lib.hid (Row.made w 28 #[.int .i64 0, .int .i64 0, .int .i64 0])
  have hbw : b < w.heap.size := h.row.lt
  have HOB : Hid (∀ g, ob = some g → g < w.heap.size) := Lib.hid h.seg.lt
  obtain ⟨x, hx⟩ : ∃ x, gt xs 0 = x := ⟨_, rfl⟩
  have hpk := peek_yes b v ob xs _ HM.out h0
  rw [hx] at hpk ⊢
  have HPK := Lib.hid hpk
  clear h hB hx hpk
  go_enter Try.func8, Try.ntmps8
  go_wp2_with fail
  refine HPK.out.mono ?_
  rintro e w2 ⟨rfl, hb2⟩
  have HM2 := Lib.hid (HM.out.call hb2)
  have r2 : Row w2 w.heap.size 28 #[.int .i64 0, .int .i64 0, .int .i64 0] := HX.out.below hb2 (by simp)
  have HR2 := Lib.hid r2
  have hz2 : w.heap.size < w2.heap.size := r2.lt
  have HB2 : Hid (Below w.heap.size w w2) := Lib.hid (Below.trans ((Below.refl _ w).alloc (Nat.le_refl _) _) (hb2.mono (by simp)))
  clear hb2 r2
  go_wp2_with fail
  refine (drop_gen b v ob xs _ (HM2.out.call ((Below.refl _ w2).alloc (Nat.le_refl _) _)) h0 h64).mono ?_
  rintro e w3 ⟨rfl, v', hd⟩
  have n1 : ¬ (w.heap.size = b ∨ ob = some w.heap.size) := by
    rintro (e | e)
    · omega
    · exact Nat.lt_irrefl _ (HOB.out _ e)
  have n2 : ¬ (w2.heap.size = b ∨ ob = some w2.heap.size) := by
    rintro (e | e)
    · omega
    · have := HOB.out _ e; omega
  have r3 := (Row.alloc HR2.out _).turns hd.tr n1
  have q3 := (Row.made w2 28 #[.int .i64 x.t, .int .i64 x.q, .int .i64 x.a]).turns hd.tr n2
  have q0 : w3.cell? ⟨w2.heap.size, 0, none⟩ = some (.int .i64 x.t) := (q3.cell 0).trans rfl
  have q1 : w3.cell? ⟨w2.heap.size, 1, none⟩ = some (.int .i64 x.q) := (q3.cell 1).trans rfl
  have q2 : w3.cell? ⟨w2.heap.size, 2, none⟩ = some (.int .i64 x.a) := (q3.cell 2).trans rfl
  have p0 : w3.cell? ⟨w.heap.size, 0, none⟩ = some (.int .i64 0) := (r3.cell 0).trans rfl
  have p1 : w3.cell? ⟨w.heap.size, 1, none⟩ = some (.int .i64 0) := (r3.cell 1).trans rfl
  have p2 : w3.cell? ⟨w.heap.size, 2, none⟩ = some (.int .i64 0) := (r3.cell 2).trans rfl
  have f0 := r3.free 0
  have f1 := r3.free 1
  have f2 := r3.free 2
  have k0 : (w3.setCell ⟨w.heap.size, 0, none⟩ (.int .i64 x.t)).cell? ⟨w.heap.size, 0, none⟩ = some (.int .i64 x.t) := World.cell?_setCell_same' _ _ _ (by rw [p0]; rfl)
  have k1 : ((w3.setCell ⟨w.heap.size, 0, none⟩ (.int .i64 x.t)).setCell ⟨w.heap.size, 1, none⟩ (.int .i64 x.q)).cell? ⟨w.heap.size, 1, none⟩ = some (.int .i64 x.q) := World.cell?_setCell_same' _ _ _ (by rw [World.cell?_setCell_other _ _ _ _ (by simp), p1]; rfl)
  have k2 : (((w3.setCell ⟨w.heap.size, 0, none⟩ (.int .i64 x.t)).setCell ⟨w.heap.size, 1, none⟩ (.int .i64 x.q)).setCell ⟨w.heap.size, 2, none⟩ (.int .i64 x.a)).cell? ⟨w.heap.size, 2, none⟩ = some (.int .i64 x.a) := World.cell?_setCell_same' _ _ _ (by rw [World.cell?_setCell_other _ _ _ _ (by simp), World.cell?_setCell_other _ _ _ _ (by simp), p2]; rfl)
  have HD : Hid (∀ X, Turns w3 X (fun k => k = w.heap.size) → Dz w X b ob v' (drop1 xs)) := Lib.hid fun X hX => by
    have hz3 := hd.tr.size
    simp at hz3
    have hX2 := hX
    refine ⟨⟨hd.hm.row.turns hX (by omega), hd.hm.seg.turns hX (fun g hg e => by have := HOB.out g hg; omega)⟩, ?_⟩
    have t1 : Turns w w3 (fun k => k = b ∨ ob = some k) := (fun h0 t => ((Turns.of_below h0).mono (S' := fun k => k = b ∨ ob = some k) (fun _ _ h => h.elim)).trans t (fun _ _ h => h) : Below w.heap.size w w2 → Turns w2 w3 (fun k => k = b ∨ ob = some k) → Turns w w3 (fun k => k = b ∨ ob = some k)) HB2.out (((Turns.refl w2 (fun k => k = b ∨ ob = some k)).alloc _).trans hd.tr (fun _ _ e => e))
    exact t1.trans hX (fun k hk e => by omega)
  clear hd r3 q3 n1 n2
  go_wp2
  refine bodyPost_ret (v := .tuple #[.agg #[.int .i64 x.t, .int .i64 x.q, .int .i64 x.a], .bool true]) (by simp [results, Try.results8, go_sem, k0, k1, k2]; try rfl) rfl ⟨rfl, v', HD.out _ ?_⟩
  exact ((((Turns.refl w3 (fun k => k = w.heap.size)).put w.heap.size 0 _ (fun _ => rfl)).put w.heap.size 1 _ (fun _ => rfl)).put w.heap.size 2 _ (fun _ => rfl))
theorem pop_no (b : Nat) (v : Value) (ob : Option Nat) (w : World) (h : Hm w b v ob []) :
    Calls Try.prog 8 #[.pointer (some ⟨b, 0, none⟩)] w fun e w' => e = .returned (.tuple #[.agg #[.int .i64 0, .int .i64 0, .int .i64 0], .bool false]) ∧ Below w.heap.size w w' := by
  have HM := Lib.hid (h.call ((Below.refl _ w).alloc (Nat.le_refl _) (.cells #[.int .i64 0, .int .i64 0, .int .i64 0] 28)))
  have HX := Lib.hid (Row.made w 28 #[.int .i64 0, .int .i64 0, .int .i64 0])
  clear h
  go_enter Try.func8, Try.ntmps8
  go_wp2_with fail
  refine (peek_no b _ _ _ HM.out).mono ?_
  rintro e w2 ⟨rfl, hb2⟩
  have r2 : Row w2 w.heap.size 28 #[.int .i64 0, .int .i64 0, .int .i64 0] := HX.out.below hb2 (by simp)
  have hlt := r2.lt
  have HB2 : Hid (Below w.heap.size w w2) := Lib.hid (Below.trans ((Below.refl _ w).alloc (Nat.le_refl _) _) (hb2.mono (by simp)))
  have p0 : w2.cell? ⟨w.heap.size, 0, none⟩ = some (.int .i64 0) := (r2.cell 0).trans rfl
  have p1 : w2.cell? ⟨w.heap.size, 1, none⟩ = some (.int .i64 0) := (r2.cell 1).trans rfl
  have p2 : w2.cell? ⟨w.heap.size, 2, none⟩ = some (.int .i64 0) := (r2.cell 2).trans rfl
  have f0 := r2.free 0
  have f1 := r2.free 1
  have f2 := r2.free 2
  have r4 : Row ((((w2.setCell ⟨w.heap.size, 0, none⟩ (.int .i64 0)).setCell ⟨w.heap.size, 1, none⟩ (.int .i64 0)).setCell ⟨w.heap.size, 2, none⟩ (.int .i64 0)).alloc (.cells #[.int .i64 0, .int .i64 0, .int .i64 0] 28)) w.heap.size 28 #[.int .i64 0, .int .i64 0, .int .i64 0] := by
    simpa using ((((r2.put 0 (.int .i64 0)).put 1 (.int .i64 0)).put 2 (.int .i64 0)).alloc (.cells #[.int .i64 0, .int .i64 0, .int .i64 0] 28))
  have k0 := (r4.cell 0).trans (show _ = some (Value.int .i64 0) from rfl)
  have k1 := (r4.cell 1).trans (show _ = some (Value.int .i64 0) from rfl)
  have k2 := (r4.cell 2).trans (show _ = some (Value.int .i64 0) from rfl)
  clear hb2 r2 r4
  go_wp2
  refine bodyPost_ret (v := .tuple #[.agg #[.int .i64 0, .int .i64 0, .int .i64 0], .bool false]) (by simp [results, Try.results8, go_sem, k0, k1, k2]; try rfl) rfl ⟨rfl, ?_⟩
  have hs := HB2.out.size
  exact ((((HB2.out.setCell (p := ⟨w.heap.size, 0, none⟩) (Nat.le_refl _) _).setCell (p := ⟨w.heap.size, 1, none⟩) (Nat.le_refl _) _).setCell (p := ⟨w.heap.size, 2, none⟩) (Nat.le_refl _) _).alloc (by simp; omega) _)
theorem pop_nil (w : World) :
    Calls Try.prog 8 #[.pointer none] w fun e w' => e = .returned (.tuple #[.agg #[.int .i64 0, .int .i64 0, .int .i64 0], .bool false]) ∧ Below w.heap.size w w' := by
  have HX := Lib.hid (Row.made w 28 #[.int .i64 0, .int .i64 0, .int .i64 0])
  go_enter Try.func8, Try.ntmps8
  go_wp2_with fail
  refine (peek_nil _).mono ?_
  rintro e w2 ⟨rfl, hb2⟩
  have r2 : Row w2 w.heap.size 28 #[.int .i64 0, .int .i64 0, .int .i64 0] := HX.out.below hb2 (by simp)
  have hlt := r2.lt
  have HB2 : Hid (Below w.heap.size w w2) := Lib.hid (Below.trans ((Below.refl _ w).alloc (Nat.le_refl _) _) (hb2.mono (by simp)))
  have p0 : w2.cell? ⟨w.heap.size, 0, none⟩ = some (.int .i64 0) := (r2.cell 0).trans rfl
  have p1 : w2.cell? ⟨w.heap.size, 1, none⟩ = some (.int .i64 0) := (r2.cell 1).trans rfl
  have p2 : w2.cell? ⟨w.heap.size, 2, none⟩ = some (.int .i64 0) := (r2.cell 2).trans rfl
  have f0 := r2.free 0
  have f1 := r2.free 1
  have f2 := r2.free 2
  have r4 : Row ((((w2.setCell ⟨w.heap.size, 0, none⟩ (.int .i64 0)).setCell ⟨w.heap.size, 1, none⟩ (.int .i64 0)).setCell ⟨w.heap.size, 2, none⟩ (.int .i64 0)).alloc (.cells #[.int .i64 0, .int .i64 0, .int .i64 0] 28)) w.heap.size 28 #[.int .i64 0, .int .i64 0, .int .i64 0] := by
    simpa using ((((r2.put 0 (.int .i64 0)).put 1 (.int .i64 0)).put 2 (.int .i64 0)).alloc (.cells #[.int .i64 0, .int .i64 0, .int .i64 0] 28))
  have k0 := (r4.cell 0).trans (show _ = some (Value.int .i64 0) from rfl)
  have k1 := (r4.cell 1).trans (show _ = some (Value.int .i64 0) from rfl)
  have k2 := (r4.cell 2).trans (show _ = some (Value.int .i64 0) from rfl)
  clear hb2 r2 r4
  go_wp2
  refine bodyPost_ret (v := .tuple #[.agg #[.int .i64 0, .int .i64 0, .int .i64 0], .bool false]) (by simp [results, Try.results8, go_sem, k0, k1, k2]; try rfl) rfl ⟨rfl, ?_⟩
  have hs := HB2.out.size
  exact ((((HB2.out.setCell (p := ⟨w.heap.size, 0, none⟩) (Nat.le_refl _) _).setCell (p := ⟨w.heap.size, 1, none⟩) (Nat.le_refl _) _).setCell (p := ⟨w.heap.size, 2, none⟩) (Nat.le_refl _) _).alloc (by simp; omega) _)
end Go.Proofs.Ytbjkeclfcccilaa.Hp
