/- Queries, read: what must not be there; the wake-up. -/
import Derived.Test.YtopbildpeojgoaaPaC
namespace Go.Proofs.Ytopbildpeojgoaa.Pa
open Go.RowKit Go.Proofs.Ytopbildpeojgoaa
set_option linter.unusedVariables false
set_option maxRecDepth 100000

theorem BI.base {w wr : World} {x : Obj} {v : Value} {L : List Int} (h : BI (w.alloc x) wr v L) : BI w wr v L := by
  obtain ⟨ob, h1, h2⟩ := h.sg
  exact ⟨⟨ob, h1, fun g hg => by have := h2 g hg; simp at this; omega⟩, ((Below.refl _ w).alloc (Nat.le_refl _) x).trans (h.be.mono (by simp))⟩
set_option maxHeartbeats 4000000 in
theorem between_any (g o n c : Nat) (win cap at' : Int) (E : Nat → ElV) (w : World) (h : LE w g o n E) (hn : n ≤ 1000) (ha : -9223372036854775808 ≤ at' ∧ at' ≤ 9223372036854775807) :
    Calls Try.prog 109 #[.agg #[.slice (some ⟨g, o, none⟩) n c, .int .i64 win, .int .i64 cap], .int .i64 at'] w fun e w' => ∃ v, e = .returned v ∧ BI w w' v (bet (negs E) at' n) := by
  have H0 := Lib.hid (h.alloc (.cells #[.slice (some ⟨g, o, none⟩) n c, .int .i64 win, .int .i64 cap] 67))
  have HBN := Lib.hid (behN_is n at')
  have hh : ∀ wr, Below (w.alloc (.cells #[.slice (some ⟨g, o, none⟩) n c, .int .i64 win, .int .i64 cap] 67)).heap.size (w.alloc (.cells #[.slice (some ⟨g, o, none⟩) n c, .int .i64 win, .int .i64 cap] 67)) wr → LE wr g o n E ∧ wr.cell? ⟨w.heap.size, 0, none⟩ = some (.slice (some ⟨g, o, none⟩) n c) ∧ w.heap.size < wr.heap.size := fun wr hb =>
    have r := (Row.made w 67 #[.slice (some ⟨g, o, none⟩) n c, .int .i64 win, .int .i64 cap]).below hb (by simp)
    ⟨(h.alloc _).call hb, r.cell 0, r.lt⟩
  have HH := Lib.hid hh
  clear h hh
  obtain ⟨i0, hi0, hz0, hz1, hz2⟩ := info_parts int_info
  go_enter Try.func109, Try.ntmps109
  go_wp2_with fail
  refine (behind_any _ n c win cap at' _ hn ha).mono ?_
  rintro e w1 ⟨rfl, hb⟩
  have HB1 : Hid (Below (w.alloc (.cells #[.slice (some ⟨g, o, none⟩) n c, .int .i64 win, .int .i64 cap] 67)).heap.size (w.alloc (.cells #[.slice (some ⟨g, o, none⟩) n c, .int .i64 win, .int .i64 cap] 67)) w1) := hb
  clear hb H0
  have hbn : behN n at' ≤ n + 1 := by have := HBN.out; omega
  have HX : Hid (opn (negs E) at' (min (behN n at') n) = true ∧ bet (negs E) at' (min (behN n at') n) = [] ∧ nxt (negs E) at' (min (behN n at') n) = -1) := by
    refine early (negs E) at' _ (fun j hj => ?_)
    have := HBN.out; omega
  have HI : Hid (BI (w.alloc (.cells #[.slice (some ⟨g, o, none⟩) n c, .int .i64 win, .int .i64 cap] 67)) w1 (.slice none 0 0) (bet (negs E) at' (min (behN n at') n))) := by
    show BI _ _ _ _
    rw [HX.out.2.1]
    exact ⟨⟨none, Seg.nil _ _ _, (fun g hg => by cases hg)⟩, HB1.out⟩
  have c0 := (HH.out _ HB1.out).2.1
  have HX2 : Hid (opn (negs E) at' (min (behN n at') n) = true ∧ nxt (negs E) at' (min (behN n at') n) = -1) := ⟨HX.out.1, HX.out.2.2⟩
  clear HX HB1
  go_wp2
  clear c0
  go_loopw [5, 6] (fun v s wr => ∃ i : Nat, behN n at' ≤ i ∧ i ≤ n + 1 ∧ s = .int .i64 i ∧ Hid (opn (negs E) at' (min i n) = true ∧ nxt (negs E) at' (min i n) = -1) ∧ Hid (BI (w.alloc (.cells #[.slice (some ⟨g, o, none⟩) n c, .int .i64 win, .int .i64 cap] 67)) wr v (bet (negs E) at' (min i n)))) (fun _ s _ => n + 1 - (intOf s).toNat)
  case atStart => exact ⟨_, Nat.le_refl _, hbn, rfl, HX2, HI⟩
  case round =>
    clear HX2 HI
    obtain ⟨i, hi, hi1, rfl, HX, HI⟩ := hrel
    obtain ⟨hl, c0, ql⟩ := HH.out _ HI.out.be
    have HL := Lib.hid hl
    clear hl
    by_cases hlt : i < n
    · have hli : (i : Int) < (n : Int) := by omega
      have ha2 : at' < (i : Int) := by have := HBN.out; omega
      have hx := HX.out
      rw [Nat.min_eq_left (by omega)] at hx
      obtain ⟨hx1, hx2⟩ := hx
      have c2 := HL.out.neg hlt
      cases hng : (E i).neg with
      | true =>
        rw [hng] at c2
        obtain ⟨y1, y2, y3⟩ := on_neg (negs E) at' ha2 hng hx1 hx2
        have HY1 : Hid (opn (negs E) at' (min (i + 1) n) = true ∧ nxt (negs E) at' (min (i + 1) n) = -1) := by
          rw [Nat.min_eq_left (show i + 1 ≤ n by omega)]; exact ⟨y1, y3⟩
        have HY2 : Hid (bet (negs E) at' (min (i + 1) n) = bet (negs E) at' (min i n) ++ [(i : Int)]) := by
          show _ = _
          rw [Nat.min_eq_left (show i + 1 ≤ n by omega), Nat.min_eq_left (show i ≤ n by omega)]; exact y2
        obtain ⟨ob, hs, hob⟩ := HI.out.sg
        have hln := bet_len (negs E) at' (min i n)
        have HS := Lib.hid hs
        have HOB := Lib.hid hob
        have HBW := Lib.hid HI.out.be
        clear y1 y2 y3 hx1 hx2 hs hob hng ha2 HX
        have hl2 : (bet (negs E) at' (min i n)).length ≤ n := by omega
        generalize bet (negs E) at' (min i n) = L at HS HY2 hl2 hln ⊢
        clear HI
        go_wp2_with (at_builtin; refine wpList_append_seg _ rfl _ _ 28 rfl 3 i0 (.int .i64 0) 1 8 Try.underlying28 hi0 hz0 hz1 hz2 rfl (by decide) _ _ _ _ rfl (HS.out.alloc _) ⟨wr.heap.size, 0, none⟩ 1 1 [.int .i64 i] rfl rfl (one_newsI _ _ _ rfl) (by simp [Value.oneCell']) (by decide) (by unfold maxLen; omega) (by omega) ?_; intro v2 w2 ob2 hs2 ht2 ho2; have HS3 := Lib.hid hs2; have HT3 := Lib.hid ht2; have HO3 := Lib.hid ho2; clear hs2 ht2 ho2)
        go_roundw
        case measure => simp [intOf]; omega
        case rel => exact ⟨i + 1, by omega, by omega, by go_num, HY1, by show BI _ _ _ _; rw [HY2.out]; exact BI.more HOB.out (HBW.out.alloc HBW.out.size _) HS3.out HT3.out HO3.out⟩
      | false =>
        rw [hng] at c2
        have HX2 : Hid (bet (negs E) at' n = bet (negs E) at' (min i n)) := by
          show _ = _
          rw [Nat.min_eq_left (show i ≤ n by omega)]; exact (shut (negs E) at' ha2 hng hx2 n hlt).2.1
        clear hx1 hx2 hng ha2 HX
        go_wp2
        go_ret
        exact ⟨_, rfl, by rw [HX2.out]; exact BI.base HI.out⟩
    · have hli : ¬ (i : Int) < (n : Int) := by omega
      have HX2 : Hid (bet (negs E) at' n = bet (negs E) at' (min i n)) := by show _ = _; rw [Nat.min_eq_right (by omega)]
      clear HX hlt
      go_wp2
      go_ret
      exact ⟨_, rfl, by rw [HX2.out]; exact BI.base HI.out⟩
def aw (k : Nat) : ElV := match k with
  | 0 => ⟨⟨#[97]⟩, none, 0, 0, false, 1, 2, none, 0, 0⟩
  | 1 => ⟨⟨#[98]⟩, none, 0, 0, true, 1, 1, none, 0, 0⟩
  | _ => ⟨⟨#[99]⟩, none, 0, 0, false, 1, 1, none, 0, 0⟩
def awC : Array Value := #[.string ⟨#[97]⟩, .slice none 0 0, .bool false, .int .i64 1, .int .i64 2, .slice none 0 0, .string ⟨#[98]⟩, .slice none 0 0, .bool true, .int .i64 1, .int .i64 1, .slice none 0 0, .string ⟨#[99]⟩, .slice none 0 0, .bool false, .int .i64 1, .int .i64 1, .slice none 0 0]
theorem awC_at : ∀ k, k < 3 → ∀ j, j < 6 → awC[0 + k * 6 + j]? = some ((aw k).val j) := by
  intro k hk j hj
  rcases (show k = 0 ∨ k = 1 ∨ k = 2 from by omega) with rfl | rfl | rfl <;> rcases (show j = 0 ∨ j = 1 ∨ j = 2 ∨ j = 3 ∨ j = 4 ∨ j = 5 from by omega) with rfl | rfl | rfl | rfl | rfl | rfl <;> rfl
theorem aw_lo : ∀ k, k < 3 → (0 ≤ (aw k).mx ∧ (aw k).mx ≤ 4) ∧ (0 ≤ (aw k).mn ∧ (aw k).mn ≤ 4) := by
  intro k hk
  rcases (show k = 0 ∨ k = 1 ∨ k = 2 from by omega) with rfl | rfl | rfl <;> decide
theorem next_is (g o n c : Nat) (win cap at' : Int) (E : Nat → ElV) (w : World) (h : LE w g o n E) (hn : n ≤ 1000) (ha : -9223372036854775808 ≤ at' ∧ at' ≤ 9223372036854775807) (r : Int) (hr : nxt (negs E) at' n = r) :
    Calls Try.prog 108 #[.agg #[.slice (some ⟨g, o, none⟩) n c, .int .i64 win, .int .i64 cap], .int .i64 at'] w fun e w' => e = .returned (.int .i64 r) ∧ Below w.heap.size w w' := by subst hr; exact next_any g o n c win cap at' E w h hn ha
theorem last_is (g o n c : Nat) (win cap : Int) (E : Nat → ElV) (w : World) (h : LE w g o n E) (hn : n ≤ 1000) (r : Int) (hr : lst (negs E) n = r) :
    Calls Try.prog 110 #[.agg #[.slice (some ⟨g, o, none⟩) n c, .int .i64 win, .int .i64 cap]] w fun e w' => e = .returned (.int .i64 r) ∧ Below w.heap.size w w' := by subst hr; exact last_any g o n c win cap E w h hn
theorem most_is (g o n c : Nat) (win cap : Int) (E : Nat → ElV) (w : World) (h : LE w g o n E) (hn : n ≤ 1000) (hm : ∀ k, k < n → 0 ≤ (E k).mx ∧ (E k).mx ≤ 4) (r : Int) (hr : mostS E n = r) :
    Calls Try.prog 43 #[.agg #[.slice (some ⟨g, o, none⟩) n c, .int .i64 win, .int .i64 cap]] w fun e w' => e = .returned (.int .i64 r) ∧ Below w.heap.size w w' := by subst hr; exact most_any g o n c win cap E w h hn hm
theorem least_is (g o n c : Nat) (win cap : Int) (E : Nat → ElV) (w : World) (h : LE w g o n E) (hn : n ≤ 1000) (hm : ∀ k, k < n → 0 ≤ (E k).mn ∧ (E k).mn ≤ 4) (r : Int) (hr : leastS E n = r) :
    Calls Try.prog 44 #[.agg #[.slice (some ⟨g, o, none⟩) n c, .int .i64 win, .int .i64 cap]] w fun e w' => e = .returned (.int .i64 r) ∧ Below w.heap.size w w' := by subst hr; exact least_any g o n c win cap E w h hn hm
theorem between_is (g o n c : Nat) (win cap at' : Int) (E : Nat → ElV) (w : World) (h : LE w g o n E) (hn : n ≤ 1000) (ha : -9223372036854775808 ≤ at' ∧ at' ≤ 9223372036854775807) (m : Nat) (hm : (bet (negs E) at' n).length = m) :
    Calls Try.prog 109 #[.agg #[.slice (some ⟨g, o, none⟩) n c, .int .i64 win, .int .i64 cap], .int .i64 at'] w fun e w' => ∃ A c, e = .returned (.slice A m c) ∧ Below w.heap.size w w' := by
  subst hm
  refine (between_any g o n c win cap at' E w h hn ha).mono ?_
  rintro e w' ⟨v, rfl, hv⟩
  obtain ⟨ob, hs, _⟩ := hv.sg
  obtain ⟨A, c', rfl, _, _⟩ := hs.form
  exact ⟨A, c', rfl, hv.be⟩
structure AW (w wr : World) : Prop where
  le : LE wr w.heap.size 0 3 aw
  row : Row wr (w.heap.size + 1) 67 #[.slice (some ⟨w.heap.size, 0, none⟩) 3 3, .int .i64 0, .int .i64 0]
  be : Below w.heap.size w wr
theorem AW.call {w wr wx : World} (h : AW w wr) (hb : Below wr.heap.size wr wx) : AW w wx := ⟨h.le.call hb, h.row.below hb h.row.lt, h.be.trans (hb.mono h.be.size)⟩
set_option maxHeartbeats 4000000 in
theorem awake_any (w : World) : Calls Try.prog 42 #[] w fun e w' => e = .returned (.bool true) ∧ Below w.heap.size w w' := by
  have hM : AW w ((w.alloc (.cells awC 73)).alloc (.cells #[.slice (some ⟨w.heap.size, 0, none⟩) 3 3, .int .i64 0, .int .i64 0] 67)) := by
    refine ⟨LE.alloc ⟨awC, Row.made _ _ _, awC_at⟩ _, ?_, by go_grown⟩
    have := Row.made (w.alloc (.cells awC 73)) 67 #[.slice (some ⟨w.heap.size, 0, none⟩) 3 3, .int .i64 0, .int .i64 0]
    rw [World.size_alloc] at this
    exact this
  have HM0 := Lib.hid hM
  clear hM
  go_enter Try.func42, Try.ntmps42
  go_upto_region 2 with fail
  have HM0 : Hid (AW w ((w.alloc (.cells #[.string ⟨#[97]⟩, .slice none 0 0, .bool false, .int .i64 1, .int .i64 2, .slice none 0 0, .string ⟨#[98]⟩, .slice none 0 0, .bool true, .int .i64 1, .int .i64 1, .slice none 0 0, .string ⟨#[99]⟩, .slice none 0 0, .bool false, .int .i64 1, .int .i64 1, .slice none 0 0] 73)).alloc (.cells #[.slice (some ⟨w.heap.size, 0, none⟩) 3 3, .int .i64 0, .int .i64 0] 67))) := HM0.out
  generalize (w.alloc (.cells #[.string ⟨#[97]⟩, .slice none 0 0, .bool false, .int .i64 1, .int .i64 2, .slice none 0 0, .string ⟨#[98]⟩, .slice none 0 0, .bool true, .int .i64 1, .int .i64 1, .slice none 0 0, .string ⟨#[99]⟩, .slice none 0 0, .bool false, .int .i64 1, .int .i64 1, .slice none 0 0] 73)).alloc (.cells #[.slice (some ⟨w.heap.size, 0, none⟩) 3 3, .int .i64 0, .int .i64 0] 67) = w0 at HM0 ⊢
  have c0 : w0.cell? ⟨w.heap.size + 1, 0, none⟩ = some (.slice (some ⟨w.heap.size, 0, none⟩) 3 3) := HM0.out.row.cell 0
  have c1 : w0.cell? ⟨w.heap.size + 1, 1, none⟩ = some (.int .i64 0) := HM0.out.row.cell 1
  have c2 : w0.cell? ⟨w.heap.size + 1, 2, none⟩ = some (.int .i64 0) := HM0.out.row.cell 2
  go_wp2_with fail
  refine (next_is _ _ _ _ _ _ 0 aw _ HM0.out.le (by omega) (by omega) 2 (by decide)).mono ?_
  rintro e w1 ⟨rfl, hb⟩
  have HM1 := Lib.hid (HM0.out.call hb)
  clear hb c0 c1 c2
  have c0 : w1.cell? ⟨w.heap.size + 1, 0, none⟩ = some (.slice (some ⟨w.heap.size, 0, none⟩) 3 3) := HM1.out.row.cell 0
  have c1 : w1.cell? ⟨w.heap.size + 1, 1, none⟩ = some (.int .i64 0) := HM1.out.row.cell 1
  have c2 : w1.cell? ⟨w.heap.size + 1, 2, none⟩ = some (.int .i64 0) := HM1.out.row.cell 2
  go_wp2_with fail
  refine (between_is _ _ _ _ _ _ 0 aw _ HM1.out.le (by omega) (by omega) 1 (by decide)).mono ?_
  rintro e w2 ⟨A2, cx, rfl, hb⟩
  have HM2 := Lib.hid (HM1.out.call hb)
  clear hb c0 c1 c2
  have c0 : w2.cell? ⟨w.heap.size + 1, 0, none⟩ = some (.slice (some ⟨w.heap.size, 0, none⟩) 3 3) := HM2.out.row.cell 0
  have c1 : w2.cell? ⟨w.heap.size + 1, 1, none⟩ = some (.int .i64 0) := HM2.out.row.cell 1
  have c2 : w2.cell? ⟨w.heap.size + 1, 2, none⟩ = some (.int .i64 0) := HM2.out.row.cell 2
  go_wp2_with fail
  refine (last_is _ _ _ _ _ _ aw _ HM2.out.le (by omega) 2 (by decide)).mono ?_
  rintro e w3 ⟨rfl, hb⟩
  have HM3 := Lib.hid (HM2.out.call hb)
  clear hb c0 c1 c2
  have c0 : w3.cell? ⟨w.heap.size + 1, 0, none⟩ = some (.slice (some ⟨w.heap.size, 0, none⟩) 3 3) := HM3.out.row.cell 0
  have c1 : w3.cell? ⟨w.heap.size + 1, 1, none⟩ = some (.int .i64 0) := HM3.out.row.cell 1
  have c2 : w3.cell? ⟨w.heap.size + 1, 2, none⟩ = some (.int .i64 0) := HM3.out.row.cell 2
  go_wp2_with fail
  refine (most_is _ _ _ _ _ _ aw _ HM3.out.le (by omega) (fun k hk => (aw_lo k hk).1) 3 (by decide)).mono ?_
  rintro e w4 ⟨rfl, hb⟩
  have HM4 := Lib.hid (HM3.out.call hb)
  clear hb c0 c1 c2
  have c0 : w4.cell? ⟨w.heap.size + 1, 0, none⟩ = some (.slice (some ⟨w.heap.size, 0, none⟩) 3 3) := HM4.out.row.cell 0
  have c1 : w4.cell? ⟨w.heap.size + 1, 1, none⟩ = some (.int .i64 0) := HM4.out.row.cell 1
  have c2 : w4.cell? ⟨w.heap.size + 1, 2, none⟩ = some (.int .i64 0) := HM4.out.row.cell 2
  go_wp2_with fail
  refine (least_is _ _ _ _ _ _ aw _ HM4.out.le (by omega) (fun k hk => (aw_lo k hk).2) 2 (by decide)).mono ?_
  rintro e w5 ⟨rfl, hb⟩
  have HM5 := Lib.hid (HM4.out.call hb)
  clear hb c0 c1 c2
  have c0 : w5.cell? ⟨w.heap.size + 1, 0, none⟩ = some (.slice (some ⟨w.heap.size, 0, none⟩) 3 3) := HM5.out.row.cell 0
  have c1 : w5.cell? ⟨w.heap.size + 1, 1, none⟩ = some (.int .i64 0) := HM5.out.row.cell 1
  have c2 : w5.cell? ⟨w.heap.size + 1, 2, none⟩ = some (.int .i64 0) := HM5.out.row.cell 2
  go_wp2
  go_ret
  exact ⟨rfl, HM5.out.be⟩
end Go.Proofs.Ytopbildpeojgoaa.Pa
