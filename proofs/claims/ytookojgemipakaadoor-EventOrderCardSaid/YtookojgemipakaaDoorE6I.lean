/- ref03.Sort of events that were made. -/
import Derived.Test.YtookojgemipakaaDoorE6H
namespace Go.Proofs.YtookojgemipakaaDoor.E6
open Go.RowKit Go.Proofs.YtookojgemipakaaDoor Go.Proofs.YtookojgemipakaaDoor.Ev Go.Proofs.YtookojgemipakaaDoor.Evl Go.Proofs.YtookojgemipakaaDoor.E4
set_option linter.unusedVariables false
set_option maxRecDepth 100000
/-- Events in a block that has room for more. -/
def RD (w : World) (g o cap : Nat) (R : List Rc) : Prop := (∃ cur, Row w g 24 cur ∧ o + cap * 5 ≤ cur.size) ∧ DL w g o R
theorem rd_of_seg {w : World} {v : Value} {n g : Nat} {R : List Rc} (h : Seg w 24 5 v n (R.flatMap Rc.cells) (some g)) : ∃ o cap, v = .slice (some ⟨g, o, none⟩) n cap ∧ n ≤ cap ∧ cap ≤ 9223372036854775807 ∧ RD w g o cap R := by
  obtain ⟨hx, A, cap, rfl, h1, h2, h3⟩ := id h
  rcases h3 with ⟨_, h3, _⟩ | ⟨g', o, cur, rfl, h4, h5, h6, h7⟩
  · cases h3
  · cases h4
    exact ⟨o, cap, rfl, h1, by unfold maxLen at h2; omega, ⟨cur, h5, h6⟩, dl_seg h⟩
theorem flat_len (R : List Rc) : (R.flatMap Rc.cells).length = R.length * 5 := by
  induction R with
  | nil => rfl
  | cons x r ih => rw [List.flatMap_cons, List.length_append, ih, rc_len]; simp; omega
theorem flat_at (R : List Rc) (p : Nat) (hp : p < R.length * 5) : (R.flatMap Rc.cells)[p]? = (R[p / 5]'(by omega)).cells[p % 5]? := by
  have hk : p / 5 < R.length := by omega
  have hj : p % 5 < (R[p / 5]).cells.length := by rw [rc_len]; omega
  have := flat_get Rc.cells 5 rc_len R (p / 5) hk (p % 5) _ (List.getElem?_eq_getElem hj)
  rw [List.getElem?_eq_getElem hj, ← this]
  congr 1
  omega
theorem RD.seg {w : World} {n g o cap : Nat} {R : List Rc} (h : RD w g o cap R) (hn : R.length = n) (hc : n ≤ cap) (hm : cap ≤ maxLen) : Seg w 24 5 (.slice (some ⟨g, o, none⟩) n cap) n (R.flatMap Rc.cells) (some g) := by
  obtain ⟨⟨cur, hr, hs⟩, hd⟩ := h
  refine ⟨by rw [flat_len, hn], _, cap, rfl, hc, hm, .inr ⟨g, o, cur, rfl, rfl, hr, hs, ?_⟩⟩
  apply List.ext_getElem?
  intro p
  rcases Nat.lt_or_ge p (n * 5) with hp | hp
  · rw [List.getElem?_take_of_lt hp, List.getElem?_drop]
    have hp' : p < R.length * 5 := by rw [hn]; exact hp
    have hk : p / 5 < R.length := by omega
    have hj : p % 5 < (R[p / 5]).cells.length := by rw [rc_len]; omega
    rw [flat_at R p hp']
    have hce := hd.ce (p / 5) hk (p % 5) _ (List.getElem?_eq_getElem hj)
    rw [show o + p / 5 * 5 + p % 5 = o + p by omega] at hce
    have hcl := (hr.cell (o + p)).symm.trans hce
    rw [List.getElem?_eq_getElem hj, ← hcl]
    simp
  · rw [List.getElem?_eq_none (by rw [List.length_take]; omega), List.getElem?_eq_none (by rw [flat_len, hn]; exact hp)]
theorem RD.store {w : World} {g o cap : Nat} {L : List Rc} (h : RD w g o cap L) {k : Nat} (hk : k < L.length) (r : Rc) : RD (set5 w g (o + k * 5) (.string r.ty) (.string r.key) (.int .i64 r.t) (.int .i64 r.q) (.slice r.A r.n r.c)) g o cap (L.set k r) := by
  obtain ⟨⟨cur, hr, hs⟩, hd⟩ := h
  refine ⟨⟨_, ((((hr.put _ _).put _ _).put _ _).put _ _).put _ _, by simpa using hs⟩, hd.store hk r⟩
theorem RD.drew {w : World} {g o cap : Nat} {L : List Rc} (h : RD w g o cap L) : RD w.drew g o cap L := ⟨h.1.imp fun _ h => ⟨h.1.drewN 1, h.2⟩, h.2.drew⟩
theorem RD.call {w w' : World} {g o cap : Nat} {L : List Rc} (h : RD w g o cap L) (hb : Below w.heap.size w w') : RD w' g o cap L := by
  obtain ⟨⟨cur, hr, hs⟩, hd⟩ := h
  exact ⟨⟨cur, hr.below hb hr.lt, hs⟩, hd.call hb hr.lt⟩
theorem RD.lt {w : World} {g o cap : Nat} {L : List Rc} (h : RD w g o cap L) : g < w.heap.size := by
  obtain ⟨⟨cur, hr, hs⟩, hd⟩ := h
  exact hr.lt
/-- A thing put where another one was copied from. -/
theorem put_set {G y : Rc} {M : List Rc} {k : Nat} (h : M[k]? = some y) : (putAt G M (k + 1)).set (k + 1) y = putAt y M k := by
  have h1 := putAt_hi (x := G) (R := []) h
  have h2 := putAt_lo (x := y) (R := []) h
  obtain ⟨hj, _⟩ := List.getElem?_eq_some_iff.1 h
  have hl : (M.take k).length = k := by rw [List.length_take]; omega
  rw [List.append_nil] at h1 h2
  rw [h1, h2, List.set_append_right _ _ (by omega), hl]
  simp [show k + 1 - k = 1 by omega]
theorem put_put {G x : Rc} {M : List Rc} {k : Nat} (h : k ≤ M.length) : (putAt G M k).set k x = putAt x M k := by
  have hl : (M.take k).length = k := by rw [List.length_take]; omega
  unfold putAt
  rw [List.set_append_right _ _ (by omega), hl]
  simp
theorem put_len (G : Rc) (M : List Rc) (k : Nat) : (putAt G M k).length = M.length + 1 := by
  unfold putAt
  simp
  omega
def zeroR : Rc := ⟨⟨#[]⟩, ⟨#[]⟩, 0, 0, none, 0, 0⟩
theorem put_end (M : List Rc) (i : Nat) (h : M.length = i) : putAt zeroR M i = M ++ [zeroR] := by
  unfold putAt
  rw [List.take_of_length_le (by omega), List.drop_of_length_le (by omega)]
def rcE (e : EM) : Rc := ⟨e.ty, e.key, e.t, e.q, some ⟨e.vb, 0, none⟩, e.vs.length, e.vs.length⟩
end Go.Proofs.YtookojgemipakaaDoor.E6
