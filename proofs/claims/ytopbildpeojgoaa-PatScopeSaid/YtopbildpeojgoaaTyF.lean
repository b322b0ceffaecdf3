/- The kind of a part that is of others. -/
import Derived.Test.YtopbildpeojgoaaTyE
namespace Go.Proofs.Ytopbildpeojgoaa.Ty
open Go.RowKit Go.Proofs.Ytopbildpeojgoaa Go.Proofs.Ytopbildpeojgoaa.Sch
set_option linter.unusedVariables false
set_option maxRecDepth 100000
/-- A kind, if what it asks for is so. -/
def ask (k : Int) (so : Bool) : Int × Int := if so = true then (k, 0) else (0, 10)
theorem asked_any (k : Int) (so : Bool) (w : World) : Calls Try.prog 240 #[.int .i64 k, .bool so] w fun e w' => e = .returned (.tuple #[.int .i64 (ask k so).1, .int .i64 (ask k so).2]) ∧ w = w' := by
  cases so
  · go_enter Try.func240, Try.ntmps240
    go_wp2
    go_ret2
    exact ⟨rfl, rfl⟩
  · go_enter Try.func240, Try.ntmps240
    go_wp2
    go_ret2
    exact ⟨rfl, rfl⟩
/-- What a part of an op comes to, by the kinds that it is of. -/
def opK (o : Int) (L : List Int) : Int × Int :=
  if o ≤ 6 then ask 1 (L.all (fun x => x == 1)) else if 13 ≤ o then ask 3 (L.all (fun x => x == 3)) else ask 3 (L.all (fun x => x == L.headD 0))
def KPost (w : World) (r : Int × Int) (e : Ending) (w' : World) : Prop := e = .returned (.tuple #[.int .i64 r.1, .int .i64 r.2]) ∧ Below w.heap.size w w'
theorem kpost_mk {w w' : World} {r r' : Int × Int} (h : r = r') (hb : Below w.heap.size w w') : KPost w r' (.returned (.tuple #[.int .i64 r.1, .int .i64 r.2])) w' := ⟨by rw [h], hb⟩
set_option maxHeartbeats 2000000 in
theorem part_const (p sc : Value) (A : Option Addr) (n c : Nat) (k i : Int) (s : ByteArray) (b : Bool) (x y : ByteArray) (w : World) :
    Calls Try.prog 227 #[p, sc, .agg #[.int .i64 1, .int .i64 k, .int .i64 i, .string s, .bool b, .string x, .string y], .slice A n c] w (KPost w (k, 0)) := by
  go_enter Try.func227, Try.ntmps227
  go_wp2
  go_ret2
  exact ⟨rfl, by go_grown⟩
set_option maxHeartbeats 8000000 in
theorem part_op (p sc v : Value) (o : Int) (h1 : 3 ≤ o) (h2 : o ≤ 15) (L : List Int) (w : World) (hL : IL w w.heap.size v L) (h0 : 0 < L.length) :
    Calls Try.prog 227 #[p, sc, .agg #[.int .i64 o, .int .i64 0, .int .i64 0, .string ⟨#[]⟩, .bool false, .string ⟨#[]⟩, .string ⟨#[]⟩], v] w (KPost w (opK o L)) := by
  have HI := Lib.hid (fun X (hX : Below w.heap.size w X) => hL.below hX hX.size)
  obtain ⟨A, c, rfl, hn, hcm, h3⟩ := hL
  obtain ⟨g, og, rfl, hg, c0⟩ := h3 0 h0
  simp only [Nat.add_zero] at c0
  obtain ⟨y, hy⟩ : ∃ y, L[0] = y := ⟨_, rfl⟩
  rw [hy] at c0
  have hyd : L.headD 0 = y := by rw [← hy]; cases L with
    | nil => simp at h0
    | cons a r => rfl
  obtain ⟨r1, hr1⟩ : ∃ r, L.all (fun x => x == 1) = r := ⟨_, rfl⟩
  obtain ⟨r3, hr3⟩ : ∃ r, L.all (fun x => x == 3) = r := ⟨_, rfl⟩
  obtain ⟨ry, hry⟩ : ∃ r, L.all (fun x => x == y) = r := ⟨_, rfl⟩
  have HR1 := Lib.hid hr1
  have HR3 := Lib.hid hr3
  have HRY := Lib.hid hry
  have HC0 := Lib.hid c0
  have HO : Hid (opK o L = if o ≤ 6 then ask 1 r1 else if 13 ≤ o then ask 3 r3 else ask 3 ry) := Lib.hid (by unfold opK; rw [hr1, hr3, hyd, hry])
  clear h3 hy hyd hr1 hr3 hry c0
  have hcs : o = 3 ∨ o = 4 ∨ o = 5 ∨ o = 6 ∨ o = 13 ∨ o = 14 ∨ o = 15 ∨ o = 7 ∨ o = 8 ∨ o = 9 ∨ o = 10 ∨ o = 11 ∨ o = 12 := by omega
  rcases hcs with rfl | rfl | rfl | rfl | rfl | rfl | rfl | hcs
  case inl | inr.inl | inr.inr.inl | inr.inr.inr.inl =>
    go_enter Try.func227, Try.ntmps227
    go_wp2_with fail
    refine (all_1 _ L _ (HI.out _ (by go_grown)|>.below (Below.refl _ _) (by simp)) r1 HR1.out).mono ?_
    rintro e w1 ⟨rfl, hb1⟩
    have HB1 := Lib.hid hb1
    clear hb1
    go_wp2_with fail
    refine (asked_any 1 r1 _).mono ?_
    rintro e w2 ⟨rfl, rfl⟩
    go_wp2
    go_ret2
    exact kpost_mk (by rw [HO.out]; rfl) ((((Below.refl _ w).alloc (Nat.le_refl _) _).alloc (by simp) _).trans (HB1.out.mono (by simp; omega)))
  case inr.inr.inr.inr.inl | inr.inr.inr.inr.inr.inl | inr.inr.inr.inr.inr.inr.inl =>
    go_enter Try.func227, Try.ntmps227
    go_wp2_with fail
    refine (all_3 _ L _ (HI.out _ (by go_grown)|>.below (Below.refl _ _) (by simp)) r3 HR3.out).mono ?_
    rintro e w1 ⟨rfl, hb1⟩
    have HB1 := Lib.hid hb1
    clear hb1
    go_wp2_with fail
    refine (asked_any 3 r3 _).mono ?_
    rintro e w2 ⟨rfl, rfl⟩
    go_wp2
    go_ret2
    exact kpost_mk (by rw [HO.out]; rfl) ((((Below.refl _ w).alloc (Nat.le_refl _) _).alloc (by simp) _).trans (HB1.out.mono (by simp; omega)))
  rcases hcs with rfl | rfl | rfl | rfl | rfl | rfl
  all_goals
    go_enter Try.func227, Try.ntmps227
    go_wp2_with fail
    refine (all_y _ L y (w.heap.size + 1) g og L.length c _ (HI.out _ (by go_grown)|>.below (Below.refl _ _) (by simp)) ⟨by simp, ?_, h0⟩ ry HRY.out).mono ?_
    · exact (((((Below.refl _ w).alloc (Nat.le_refl _) _).alloc (by simp) _).cell (p := ⟨g, og, none⟩) hg)).trans HC0.out
    rintro e w1 ⟨rfl, hb1⟩
    have HB1 := Lib.hid hb1
    clear hb1
    go_wp2_with fail
    refine (asked_any 3 ry _).mono ?_
    rintro e w2 ⟨rfl, rfl⟩
    go_wp2
    go_ret2
    exact kpost_mk (by rw [HO.out]; rfl) ((((Below.refl _ w).alloc (Nat.le_refl _) _).alloc (by simp) _).trans (HB1.out.mono (by simp; omega)))
end Go.Proofs.Ytopbildpeojgoaa.Ty
