/- A queue beside a list of the law's own. -/
import Derived.Test.YtmkofjdmjilpiabQuN
import Derived.Test.YtmkofjdmjilpiabOpen
import Derived.Test.YtmkofjdmjilpiabBits
namespace Go.Proofs.Ytmkofjdmjilpiab.Qu
open Go.RowKit Go.Proofs.Ytmkofjdmjilpiab
set_option linter.unusedVariables false

structure Pr (w0 w : World) (b fb : Nat) (ob : Option Nat) (room : Nat) (zs : List Int) (s : QS) (ws : List Int) (om : Option Nat) (mv : Value) : Prop where
  li : LI w0 w b fb ob room zs s
  sg : Seg w 3 1 mv ws.length (ws.map (Value.int .i64)) om
  ap : ∀ k, ob = some k → om ≠ some k
  bm : ∀ k, om = some k → w0.heap.size ≤ k
  mb : om ≠ some b
  mf : om ≠ some fb
section
variable {w0 w w2 : World} {b fb room : Nat} {zs zs' ws ws2 : List Int} {s s' : QS} {ob om om2 : Option Nat} {mv mv2 : Value}
theorem Pr.left (h : Pr w0 w b fb ob room zs s ws om mv) (g : Left w b fb ob room zs' s' w2) : ∃ ob', Pr w0 w2 b fb ob' room zs' s' ws om mv := by
  obtain ⟨ob', h1, h2, h3⟩ := g
  have hz := h.li.be.size
  refine ⟨ob', ⟨h1, h2.below h.li.be hz (fun k hk e => ?_), h.li.bb, h.li.bf, fun k hk => ?_⟩, h.sg.turns h2 (fun k hk e => ?_), fun k hk e => ?_, h.bm, h.mb, h.mf⟩
  · rcases e with e | e | e
    · have := h.li.bb; omega
    · have := h.li.bf; omega
    · have := h.li.bo k e; omega
  · rcases h3 with h3 | h3 | ⟨g, h3, hg⟩
    · exact h.li.bo k (by rw [← h3, hk])
    · rw [h3] at hk; cases hk
    · rw [h3] at hk; injection hk with hk; omega
  · rcases e with e | e | e
    · exact h.mb (by rw [hk, e])
    · exact h.mf (by rw [hk, e])
    · exact h.ap k e hk
  · rcases h3 with e3 | e3 | ⟨g, e3, hg⟩
    · exact h.ap k (by rw [← e3, hk]) e
    · rw [e3] at hk; cases hk
    · rw [e3] at hk; injection hk with hk
      have := h.sg.lt _ e; omega
theorem Pr.more {x : Int} (h : Pr w0 w b fb ob room zs s ws om mv) (hs : Seg w2 3 1 mv2 (ws.length + 1) (ws.map (Value.int .i64) ++ [.int .i64 x]) om2) (ht : Turns (w.alloc (.cells #[.int .i64 x] 3)) w2 (fun k => om = some k))
    (ho : om2 = om ∨ ∃ g, om2 = some g ∧ (w.alloc (.cells #[.int .i64 x] 3)).heap.size ≤ g) : Pr w0 w2 b fb ob room zs s (ws ++ [x]) om2 mv2 := by
  have ht' : Turns w w2 (fun k => om = some k) := ((Turns.refl w _).alloc _).trans ht (fun _ _ e => e)
  simp only [World.size_alloc] at ho
  have hz := h.li.be.size
  have hbl := h.li.qu.row.lt
  have hfl := h.li.qu.ff.lt
  refine ⟨⟨h.li.qu.turns ht' h.mb h.mf (fun k hk e => h.ap k hk e), ht'.below h.li.be hz (fun k hk e => ?_), h.li.bb, h.li.bf, h.li.bo⟩, by simpa using hs, fun k hk e => ?_, fun k hk => ?_, fun e => ?_, fun e => ?_⟩
  · have := h.bm k e; omega
  · rcases ho with h1 | ⟨g, h1, hg⟩
    · exact h.ap k hk (by rw [← h1, e])
    · rw [h1] at e; injection e with e
      have := h.li.qu.ff.olt k hk; omega
  · rcases ho with h1 | ⟨g, h1, hg⟩
    · exact h.bm k (by rw [← h1, hk])
    · rw [h1] at hk; injection hk with hk; omega
  · rcases ho with h1 | ⟨g, h1, hg⟩
    · exact h.mb (by rw [← h1, e])
    · rw [h1] at e; injection e with e; omega
  · rcases ho with h1 | ⟨g, h1, hg⟩
    · exact h.mf (by rw [← h1, e])
    · rw [h1] at e; injection e with e; omega
theorem Pr.less (h : Pr w0 w b fb ob room zs s ws om mv) (hs : Seg w 3 1 mv2 ws2.length (ws2.map (Value.int .i64)) om2) (ho : om2 = om ∨ om2 = none) : Pr w0 w b fb ob room zs s ws2 om2 mv2 := by
  refine ⟨h.li, hs, fun k hk e => ?_, fun k hk => ?_, fun e => ?_, fun e => ?_⟩
  all_goals
    rcases ho with h1 | h1
  · exact h.ap k hk (by rw [← h1, e])
  · rw [h1] at e; cases e
  · exact h.bm k (by rw [← h1, hk])
  · rw [h1] at hk; cases hk
  · exact h.mb (by rw [← h1, e])
  · rw [h1] at e; cases e
  · exact h.mf (by rw [← h1, e])
  · rw [h1] at e; cases e
theorem Pr.call (h : Pr w0 w b fb ob room zs s ws om mv) (g : Below w.heap.size w w2) : Pr w0 w2 b fb ob room zs s ws om mv :=
  ⟨h.li.call g, h.sg.turns (Turns.of_below g) (fun _ _ h => h), h.ap, h.bm, h.mb, h.mf⟩
theorem Pr.drewN (h : Pr w0 w b fb ob room zs s ws om mv) (n : Nat) : Pr w0 (w.drewN n) b fb ob room zs s ws om mv :=
  ⟨⟨h.li.qu.drewN n, below_drewN h.li.be n, h.li.bb, h.li.bf, h.li.bo⟩, h.sg, h.ap, h.bm, h.mb, h.mf⟩
end
theorem pr_start {w w1 : World} {room : Nat} {s : QS} (h : Qu w1 (w.heap.size + 1) w.heap.size none room [] s) (hb : Below w.heap.size w w1) :
    Pr w (w1.alloc (.cells #[] 3)) (w.heap.size + 1) w.heap.size none room [] s [] none (.slice (some ⟨w1.heap.size, 0, none⟩) 0 0) :=
  ⟨(li_new h hb).call ((Below.refl _ _).alloc (Nat.le_refl _) _), ⟨by simp, _, 0, rfl, Nat.le_refl _, by unfold maxLen; omega, .inl ⟨rfl, rfl, fun _ => trivial⟩⟩, (fun _ h => by cases h), (fun _ h => by cases h), by simp, by simp⟩
theorem seg_rest {w : World} {g o cap : Nat} {x : Int} {r : List Int} {ob : Option Nat} (h : Seg w 3 1 (.slice (some ⟨g, o, none⟩) (x :: r).length cap) (x :: r).length ((x :: r).map (Value.int .i64)) ob) (hc : 1 < cap) :
    Seg w 3 1 (.slice (some ⟨g, o + 1, none⟩) r.length (cap - 1)) r.length (r.map (Value.int .i64)) ob := by
  have := Seg.cut h (k := 1) (by simp) hc
  simpa [Addr.add_lit] using this
/-- What holds between two rounds. -/
structure Md (w0 w : World) (b fb : Nat) (room j : Nat) (zs : List Int) (s : QS) (mv : Value) : Prop where
  pr : ∃ ob om, Pr w0 w b fb ob room zs s zs om mv
  le : zs.length ≤ room
  ln : zs.length ≤ j
  p1 : s.put ≤ j
  p2 : s.taken ≤ j
  p3 : s.full ≤ j
  p4 : s.most ≤ j
theorem Md.mono {w0 w : World} {b fb room j j' : Nat} {zs : List Int} {s : QS} {mv : Value} (h : Md w0 w b fb room j zs s mv) (hj : j ≤ j') : Md w0 w b fb room j' zs s mv :=
  ⟨h.pr, h.le, Nat.le_trans h.ln hj, Nat.le_trans h.p1 hj, Nat.le_trans h.p2 hj, Nat.le_trans h.p3 hj, Nat.le_trans h.p4 hj⟩
end Go.Proofs.Ytmkofjdmjilpiab.Qu
