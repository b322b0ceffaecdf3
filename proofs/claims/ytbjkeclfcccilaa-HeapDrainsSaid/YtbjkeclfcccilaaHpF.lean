/- A heap in memory: the lesser of the two below; a thing is brought back. -/
import Derived.Test.YtbjkeclfcccilaaHpE
import Derived.Deep.QuietTactic
namespace Go.Proofs.Ytbjkeclfcccilaa.Hp
open Go.RowKit Go.Proofs.Ytbjkeclfcccilaa
set_option linter.unusedVariables false
set_option maxRecDepth 100000
def lowI (xs : List St) (i : Nat) : Int := if 2 * i + 1 < xs.length then (low xs i : Int) else -1
theorem lowI_no {xs : List St} {i : Nat} (h : ¬ 2 * i + 1 < xs.length) : lowI xs i = -1 := by unfold lowI; rw [if_neg h]
theorem lowI_yes {xs : List St} {i : Nat} (h : 2 * i + 1 < xs.length) : lowI xs i = (low xs i : Int) := by unfold lowI; rw [if_pos h]
def LowPost (r : Int) (w : World) (e : Ending) (w' : World) : Prop := e = .returned (.int .i64 r) ∧ Below w.heap.size w w'
theorem low_mk {r r' : Int} {w w' : World} (h : r = r') (hb : Below w.heap.size w w') : LowPost r' w (.returned (.int .i64 r)) w' := ⟨by rw [h], hb⟩
set_option maxHeartbeats 4000000 in
theorem lesser_any (b g o cap n : Nat) (xs : List St) (i : Nat) (w : World) (h : Hm w b (.slice (some ⟨g, o, none⟩) n cap) (some g) xs) (hn : xs.length = n) (hi : i < n) (h64 : n ≤ 65536) :
    Calls Try.prog 23 #[.pointer (some ⟨b, 0, none⟩), .int .i64 i] w (LowPost (lowI xs i) w) := by
  have hm := h
  rw [← hn] at hm
  obtain ⟨g', o', cap', e, hob, hg, h1, h2, hcl, hfz⟩ := hm.at (i := i) (by omega)
  injection e with e1 e2 e3
  injection e1 with e1
  injection e1 with e1 e4
  subst e1 e4 e3
  clear e2 hob hfz hm
  have c0 : w.cell? ⟨b, 0, none⟩ = some (.slice (some ⟨g, o, none⟩) n cap) := (h.row.cell 0).trans rfl
  have hbV : b < w.heap.size := h.row.lt
  rw [hn] at h1
  obtain ⟨l, hl⟩ : ∃ l : Nat, 2 * i + 1 = l := ⟨_, rfl⟩
  obtain ⟨r, hr⟩ : ∃ r : Nat, 2 * i + 2 = r := ⟨_, rfl⟩
  have hli : 2 * (i : Int) + 1 = (l : Int) := by omega
  have hri : 2 * (i : Int) + 2 = (r : Int) := by omega
  by_cases hln : l < n
  · have hlni : (l : Int) < (n : Int) := by omega
    have hln2 : ¬ (n : Int) ≤ (l : Int) := by omega
    obtain ⟨j0, j1, j2⟩ := hcl l (by omega)
    obtain ⟨y, hy⟩ : ∃ y, gt xs l = y := ⟨_, rfl⟩
    rw [hy] at j0 j1 j2
    have hL := lowI_yes (xs := xs) (i := i) (by omega)
    by_cases hrn : r < n
    · have hrni : (r : Int) < (n : Int) := by omega
      obtain ⟨i0, i1, i2⟩ := hcl r (by omega)
      obtain ⟨x, hx⟩ : ∃ x, gt xs r = x := ⟨_, rfl⟩
      rw [hx] at i0 i1 i2
      obtain ⟨lb, hlb⟩ : ∃ lb, decide (lt x y) = lb := ⟨_, rfl⟩
      have HLB := Lib.hid hlb
      have HL : Hid (lowI xs i = if lb = true then (r : Int) else (l : Int)) := Lib.hid (by
        rw [hL]
        unfold low
        rw [hr, hl, hx, hy, hn]
        by_cases hlt : lt x y
        · rw [if_pos ⟨hrn, hlt⟩, if_pos (by rw [← hlb]; exact decide_eq_true hlt)]
        · rw [if_neg (fun g => hlt g.2), if_neg (by rw [← hlb]; simpa using hlt)])
      clear hlb hL hx hy hcl h hn hl hr
      go_enter Try.func23, Try.ntmps23
      go_upto_region 4 with fail
      go_region_held3 (fun X => X.cell? ⟨b, 0, none⟩ = some (.slice (some ⟨g, o, none⟩) n cap) ∧ X.cell? ⟨g, o + r * 3, none⟩ = some (.int .i64 x.t) ∧ X.cell? ⟨g, o + r * 3 + 1, none⟩ = some (.int .i64 x.q) ∧ X.cell? ⟨g, o + r * 3 + 2, none⟩ = some (.int .i64 x.a) ∧ X.cell? ⟨g, o + l * 3, none⟩ = some (.int .i64 y.t) ∧ X.cell? ⟨g, o + l * 3 + 1, none⟩ = some (.int .i64 y.q) ∧ X.cell? ⟨g, o + l * 3 + 2, none⟩ = some (.int .i64 y.a))
        (first | exact ⟨c0, i0, i1, i2, j0, j1, j2⟩ | exact ⟨(HB2.out.cell (p := ⟨b, 0, none⟩) hbV).trans c0, (HB2.out.cell (p := ⟨g, o + r * 3, none⟩) hg).trans i0, (HB2.out.cell (p := ⟨g, o + r * 3 + 1, none⟩) hg).trans i1, (HB2.out.cell (p := ⟨g, o + r * 3 + 2, none⟩) hg).trans i2, (HB2.out.cell (p := ⟨g, o + l * 3, none⟩) hg).trans j0, (HB2.out.cell (p := ⟨g, o + l * 3 + 1, none⟩) hg).trans j1, (HB2.out.cell (p := ⟨g, o + l * 3 + 2, none⟩) hg).trans j2⟩ | fail)
        ((
          go_at_call 39
          refine (less_any x y _).mono ?_
          rintro e w2 ⟨rfl, hb2⟩
          rw [HLB.out]
          have HB2 : Hid (Below w.heap.size w w2) := Lib.hid ((show Below w.heap.size w _ from by go_grown).trans (hb2.mono (show Below w.heap.size w _ from by go_grown).size))
          clear hb2))
      all_goals
        cases lb
        · go_wp2
          go_ret
          exact low_mk (by rw [HL.out]; rfl) HB2.out
        · go_wp2
          go_ret
          exact low_mk (by rw [HL.out]; rfl) HB2.out
    · have hrni : ¬ (r : Int) < (n : Int) := by omega
      have hrnd : decide ((r : Int) < (n : Int)) = false := decide_eq_false hrni
      have HL : Hid (lowI xs i = (l : Int)) := Lib.hid (by
        rw [hL]
        unfold low
        rw [hr, hl, hn, if_neg (fun g => hrn g.1)])
      clear hL hy hcl h hn hl hr
      go_enter Try.func23, Try.ntmps23
      go_upto_region 4 with fail
      go_quiet (fail)
      go_wp2
      go_ret
      exact low_mk HL.out.symm (below_drewN (Below.refl _ _) _)
  · have hln2 : (n : Int) ≤ (l : Int) := by omega
    have HL := Lib.hid (lowI_no (xs := xs) (i := i) (by omega))
    clear hcl h hn hl hr
    go_enter Try.func23, Try.ntmps23
    go_wp2
    go_ret
    exact low_mk HL.out.symm (Below.refl _ _)
end Go.Proofs.Ytbjkeclfcccilaa.Hp
