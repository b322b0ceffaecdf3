/- The walk of the law PatParts. -/
import Derived.Test.YtjciilnbcmaikaaPaD
import Derived.Test.YtjciilnbcmaikaaPqD
import Derived.Test.YtjciilnbcmaikaaOpen2
namespace Go.Proofs.Ytjciilnbcmaikaa.Pa
open Go.RowKit Go.Proofs.Ytjciilnbcmaikaa Go.Proofs.Ytjciilnbcmaikaa.Pq
set_option linter.unusedVariables false
set_option maxRecDepth 100000

/-- An element as it is read. -/
def evOf (e : El) : ElV := ⟨e.v, some ⟨e.tb, 0, none⟩, e.ts.length, e.ts.length, e.neg, e.mn, e.mx, (match e.pb with | none => none | some b => some ⟨b, 0, none⟩), (match e.pb with | none => 0 | some _ => e.nds.length), (match e.pb with | none => 0 | some _ => e.nds.length)⟩
theorem evOf_cells (e : El) (j : Nat) (hj : j < 6) : e.cells[j]? = some ((evOf e).val j) := by
  obtain ⟨v, tb, ts, neg, mn, mx, pb, nds⟩ := e
  rcases (show j = 0 ∨ j = 1 ∨ j = 2 ∨ j = 3 ∨ j = 4 ∨ j = 5 from by omega) with rfl | rfl | rfl | rfl | rfl | rfl <;> cases pb <;> rfl
def elAt (es : List El) (k : Nat) : ElV := evOf (es.getD k ⟨⟨#[]⟩, 0, [], false, 0, 0, none, []⟩)
theorem elAt_some {es : List El} {k : Nat} {e : El} (h : es[k]? = some e) : elAt es k = evOf e := by unfold elAt; rw [List.getD_eq_getElem?_getD, h]; rfl
theorem flat_at (es : List El) (k : Nat) (e : El) (h : es[k]? = some e) (j : Nat) (hj : j < 6) : (es.flatMap El.cells)[k * 6 + j]? = e.cells[j]? := by
  induction es generalizing k with
  | nil => simp at h
  | cons x es ih =>
    have hx : x.cells.length = 6 := rfl
    cases k with
    | zero =>
      simp at h
      subst h
      simp only [List.flatMap_cons, Nat.zero_mul, Nat.zero_add]
      rw [List.getElem?_append_left (by rw [hx]; exact hj)]
    | succ k =>
      simp only [List.flatMap_cons]
      rw [List.getElem?_append_right (by rw [hx]; omega), hx, show (k + 1) * 6 + j - 6 = k * 6 + j from by omega]
      exact ih k (by simpa using h)
/-- The elements of a query that was made lie in one block of the call's own. -/
theorem QI.le {w0 w : World} {qb : Nat} {v : Value} {win cap : Int} {es : List El} (h : QI w0 w qb v win cap es) (hn : 0 < es.length) :
    ∃ g o c, v = .slice (some ⟨g, o, none⟩) es.length c ∧ LE w g o es.length (elAt es) ∧ w0.heap.size ≤ g ∧ g ≠ qb ∧ es.length ≤ c := by
  obtain ⟨ob, hs, hob, _⟩ := h.sg
  obtain ⟨h0, A, cap', hv, h1, h2, h3⟩ := hs
  rcases h3 with ⟨h3, _⟩ | ⟨g, o, cur, a1, a2, a3, a4, a5⟩
  · omega
  · obtain ⟨g0, g1⟩ := hob g a2
    refine ⟨g, o, cap', by rw [hv, a1], ⟨cur, a3, fun k hk j hj => ?_⟩, g0, g1, h1⟩
    obtain ⟨e, he⟩ : ∃ e, es[k]? = some e := ⟨es[k], List.getElem?_eq_getElem hk⟩
    rw [elAt_some he, ← evOf_cells e j hj, ← flat_at es k e he j hj, ← a5, List.getElem?_take, if_pos (by omega), List.getElem?_drop]
    simp [Nat.add_assoc]
/-- Between two rounds: the query at qv, its elements at ⟨g, o⟩. -/
structure PI (w0 w : World) (qv g o n c : Nat) (win cap : Int) (E : Nat → ElV) : Prop where
  le : LE w g o n E
  row : Row w qv 43 #[.slice (some ⟨g, o, none⟩) n c, .int .i64 win, .int .i64 cap]
  be : Below w0.heap.size w0 w
  ge : w0.heap.size ≤ g ∧ w0.heap.size ≤ qv ∧ g ≠ qv
section
variable {w0 w w' : World} {qv g o n c : Nat} {win cap : Int} {E : Nat → ElV}
theorem PI.call (h : PI w0 w qv g o n c win cap E) (hb : Below w.heap.size w w') : PI w0 w' qv g o n c win cap E := ⟨h.le.call hb, h.row.below hb h.row.lt, h.be.trans (hb.mono h.be.size), h.ge⟩
theorem PI.turn {S : Nat → Prop} (h : PI w0 w qv g o n c win cap E) (ht : Turns w w' S) (hs : ∀ k, k < w.heap.size → S k → w0.heap.size ≤ k ∧ k ≠ g ∧ k ≠ qv) : PI w0 w' qv g o n c win cap E :=
  ⟨h.le.turns ht (fun x => (hs g h.le.lt x).2.1 rfl), h.row.turns ht (fun x => (hs qv h.row.lt x).2.2 rfl), ht.below h.be h.be.size (fun k hk x => by have := hs k (by have := h.be.size; omega) x; omega), h.ge⟩
theorem PI.drew (h : PI w0 w qv g o n c win cap E) : PI w0 w.drew qv g o n c win cap E := ⟨h.le.drew, h.row, ⟨h.be.os, h.be.tape, h.be.output, h.be.size, h.be.block⟩, h.ge⟩
theorem PI.drewN (h : PI w0 w qv g o n c win cap E) (q : Nat) : PI w0 (w.drewN q) qv g o n c win cap E := ⟨h.le.drewN q, h.row, below_drewN h.be q, h.ge⟩
theorem PI.put (h : PI w0 w qv g o n c win cap E) {k : Nat} (hk : k < n) (b : Bool) : PI w0 (w.setCell ⟨g, o + k * 6 + 2, none⟩ (.bool b)) qv g o n c win cap (setNeg E k b) :=
  ⟨h.le.put hk b, h.row.past (fun e => h.ge.2.2 e.symm) _, h.be.setCell (p := ⟨g, o + k * 6 + 2, none⟩) h.ge.1 _, h.ge⟩
theorem PI.c0 (h : PI w0 w qv g o n c win cap E) : w.cell? ⟨qv, 0, none⟩ = some (.slice (some ⟨g, o, none⟩) n c) := h.row.cell 0
theorem PI.c1 (h : PI w0 w qv g o n c win cap E) : w.cell? ⟨qv, 1, none⟩ = some (.int .i64 win) := h.row.cell 1
theorem PI.c2 (h : PI w0 w qv g o n c win cap E) : w.cell? ⟨qv, 2, none⟩ = some (.int .i64 cap) := h.row.cell 2
end
theorem BI.lies {w0 w : World} {v : Value} {L : List Int} (h : BI w0 w v L) : ∃ A c, v = .slice A L.length c ∧ Lies w w.heap.size A L.length (fun k => .int .i64 (L.getD k 0)) := by
  obtain ⟨ob, hs, _⟩ := h.sg
  obtain ⟨A, c, rfl, _, _⟩ := hs.form
  refine ⟨A, c, rfl, fun k hk => ?_⟩
  obtain ⟨g, o, cap, hv, hg, _, _, hc, _⟩ := hs.shape (by omega)
  injection hv with e1 _ _
  exact ⟨g, o, e1, hs.lt g hg, hc k _ (by simp [hk])⟩
theorem seg_zero' (w : World) (e : TypeId) (A : Option Addr) : Seg w e 1 (.slice A 0 0) 0 [] none := ⟨by simp, _, 0, rfl, Nat.le_refl _, by unfold maxLen; omega, .inl ⟨rfl, rfl, fun _ => trivial⟩⟩
set_option maxHeartbeats 8000000 in
theorem parts_law (A : Option Addr) (m c0 : Nat) (F : Nat → Int) (ln : m ≤ c0) (lc : c0 ≤ 9223372036854775807) (lb : ∀ k, -9223372036854775808 ≤ F k ∧ F k ≤ 9223372036854775807) (w : World) (lies : Lies w w.heap.size A m (fun k => .int .i64 (F k)))
    (at' : Int) (ha : -9223372036854775808 ≤ at' ∧ at' ≤ 9223372036854775807) (odd : Bool) :
    Calls Try.prog 6 #[.slice A m c0, .int .i64 at', .bool odd] w fun e w' => e = .returned (.bool true) ∧ Below w.heap.size w w' := by
  have HL := Lib.hid lies
  have HB := Lib.hid lb
  clear lies lb
  go_enter Try.func6, Try.ntmps6
  go_wp2_with fail
  refine (query_any A m c0 F ln lc HB.out w HL.out).mono ?_
  rintro e w1 ⟨v, win, cap, es, rfl, hq, hg, h1, h4, _, _, _⟩
  obtain ⟨g, o, c, rfl, hle, g0, g1, hnc⟩ := Pa.QI.le hq (by omega)
  have HP : Hid (∃ E, PI w (w1.alloc (.cells #[.slice (some ⟨g, o, none⟩) es.length c, .int .i64 win, .int .i64 cap] 43)) w1.heap.size g o es.length c win cap E) :=
    ⟨_, hle.alloc _, Row.made _ _ _, hq.be.alloc hq.be.size _, g0, hq.be.size, by have := hle.lt; omega⟩
  clear hq hg hle
  generalize es.length = n at HP h1 h4 hnc ⊢
  go_upto_if 18 with fail
  generalize w1.alloc (.cells #[.slice (some ⟨g, o, none⟩) n c, .int .i64 win, .int .i64 cap] 43) = wa at HP ⊢
  generalize w1.heap.size = qv at HP ⊢
  go_cut [] (fun wx => Hid (∃ E, PI w wx qv g o n c win cap E))
  case first =>
    cases odd with
    | false =>
      go_wp2
      go_meet
      exact HP
    | true =>
      go_wp2
      go_loopw [8] (fun s wr => ∃ i : Nat, i ≤ n ∧ s = .int .i64 i ∧ Hid (∃ E, PI w wr qv g o n c win cap E)) (fun s _ => n - (intOf s).toNat)
      case atStart => exact ⟨0, by omega, rfl, HP⟩
      case round =>
        clear HP
        obtain ⟨i, hi, rfl, HP⟩ := hrel
        obtain ⟨E, hP⟩ := HP.out
        have HPE := Lib.hid hP
        clear hP HP
        have c00 := HPE.out.c0
        have ql := HPE.out.row.lt
        by_cases hlt : i < n
        · have hli : (i : Int) < (n : Int) := by omega
          have k2 := HPE.out.le.neg hlt
          have kf := HPE.out.le.free (o + i * 6 + 2)
          have kl := HPE.out.le.lt
          cases A with
          | none =>
            have q := fun wx => run_neq_slice_nil_any (P := Try.prog) wx 34 3 none m c0 0 0 Try.underlying34
            go_upto_region 6 with fail
            go_region
            all_goals
              go_wp2
              go_roundw
              case measure => simp [intOf]; omega
              case rel => exact ⟨i + 1, by omega, by go_num, _, (HPE.out.put hlt _).drew⟩
          | some ad =>
            have q := fun wx => run_neq_slice_nil_any (P := Try.prog) wx 34 3 (some ad) m c0 0 0 Try.underlying34
            by_cases hm : i < m
            · have hmi : decide ((i : Int) < (m : Int)) = true := by simp; omega
              have hmi2 : (i : Int) < (m : Int) := by omega
              obtain ⟨g2, o2, e, hg2, hc⟩ := HL.out i hm
              injection e with e
              subst e
              have c3 : wr.cell? ⟨g2, o2 + i, none⟩ = some (.int .i64 (F i)) := (HPE.out.be.cell (p := ⟨g2, o2 + i, none⟩) hg2).trans hc
              have gl : g2 < wr.heap.size := by have := HPE.out.be.size; omega
              have b1 := and1 (F i)
              obtain ⟨b2, b3⟩ := HB.out i
              clear hc
              go_upto_region 6 with fail
              go_region
              all_goals
                go_wp2
                go_roundw
                case measure => simp [intOf]; omega
                case rel => exact ⟨i + 1, by omega, by go_num, _, (HPE.out.put hlt _).drew⟩
            · have hmi : decide ((i : Int) < (m : Int)) = false := by simp; omega
              go_upto_region 6 with fail
              go_region
              all_goals
                go_wp2
                go_roundw
                case measure => simp [intOf]; omega
                case rel => exact ⟨i + 1, by omega, by go_num, _, (HPE.out.put hlt _).drew⟩
        · go_wp2
          go_meet
          exact ⟨E, HPE.out⟩
  case rest =>
    clear HP
    obtain ⟨E, hP⟩ := hcut.out
    have HP := Lib.hid hP
    clear hP hcut
    obtain ⟨i0, hi0, hz0, hz1, hz2⟩ := info_parts int_info
    have HB0 : Hid (BI wc (wc.alloc (.cells #[] 3)) (.slice (some ⟨wc.heap.size, 0, none⟩) 0 0) (bet (negs E) at' 0)) :=
      ⟨⟨none, seg_zero' _ _ _, (fun g hg => by cases hg)⟩, (Below.refl _ wc).alloc (Nat.le_refl _) _⟩
    have gl := HP.out.le.lt
    have ql := HP.out.row.lt
    go_wp2
    go_loopw [9, 10, 11, 12, 13] (fun s9 s10 s11 s12 s13 wr => ∃ i : Nat, i ≤ n ∧ s13 = .int .i64 i ∧ s9 = .int .i64 (nxt (negs E) at' i) ∧ s11 = .int .i64 (lst (negs E) i) ∧ s12 = .bool (opn (negs E) at' i) ∧ Hid (BI wc wr s10 (bet (negs E) at' i))) (fun _ _ _ _ s _ => n - (intOf s).toNat)
    case atStart => exact ⟨0, by omega, rfl, rfl, rfl, rfl, HB0⟩
    case round =>
      clear HB0
      obtain ⟨i, hi, rfl, rfl, rfl, rfl, HI⟩ := hrel
      have HPR := Lib.hid (HP.out.call HI.out.be)
      have c00 := HPR.out.c0
      have ql2 := HPR.out.row.lt
      by_cases hlt : i < n
      · have hli : (i : Int) < (n : Int) := by omega
        have k2 := HPR.out.le.neg hlt
        have kl := HPR.out.le.lt
        obtain ⟨x0, x1⟩ := nxt_lo (negs E) at' i
        have y1 : Hid (opn (negs E) at' (i + 1) = (opn (negs E) at' i && (decide ((i : Int) ≤ at') || (E i).neg))) := rfl
        have y2 : Hid (bet (negs E) at' (i + 1) = bet (negs E) at' i ++ (if at' < (i : Int) ∧ (E i).neg = true ∧ opn (negs E) at' i = true then [(i : Int)] else [])) := rfl
        have y3 : Hid (nxt (negs E) at' (i + 1) = if nxt (negs E) at' i < 0 ∧ at' < (i : Int) ∧ (E i).neg = false then (i : Int) else nxt (negs E) at' i) := rfl
        have y4 : Hid (lst (negs E) (i + 1) = if (E i).neg = false then (i : Int) else lst (negs E) i) := rfl
        by_cases hat : (i : Int) ≤ at'
        · have z2 : Hid (bet (negs E) at' (i + 1) = bet (negs E) at' i) := by show _ = _; rw [y2.out, if_neg (by omega)]; simp
          have z3 : Hid (nxt (negs E) at' (i + 1) = nxt (negs E) at' i) := by show _ = _; rw [y3.out, if_neg (by omega)]
          have z1 : Hid (opn (negs E) at' (i + 1) = opn (negs E) at' i) := by show _ = _; rw [y1.out, decide_eq_true hat]; simp
          clear y1 y2 y3
          cases hng : (E i).neg with
          | true =>
            rw [hng] at k2 y4
            clear hng
            go_wp2
            go_roundw
            case measure => simp [intOf]; omega
            case rel => exact ⟨i + 1, by omega, by go_num, by rw [z3.out], by rw [y4.out]; simp, by rw [z1.out], by show BI _ _ _ _; rw [z2.out]; exact HI.out⟩
          | false =>
            rw [hng] at k2 y4
            clear hng
            go_wp2
            go_roundw
            case measure => simp [intOf]; omega
            case rel => exact ⟨i + 1, by omega, by go_num, by rw [z3.out], by rw [y4.out]; simp, by rw [z1.out], by show BI _ _ _ _; rw [z2.out]; exact HI.out⟩
        · have hat2 : at' < (i : Int) := by omega
          cases hng : (E i).neg with
          | false =>
            rw [hng] at k2 y1 y2 y3 y4
            have z2 : Hid (bet (negs E) at' (i + 1) = bet (negs E) at' i) := by show _ = _; rw [y2.out, if_neg (by simp)]; simp
            have z1 : Hid (opn (negs E) at' (i + 1) = false) := by show _ = _; rw [y1.out, decide_eq_false hat]; simp
            clear hng y1 y2
            rcases (show nxt (negs E) at' i < 0 ∨ 0 ≤ nxt (negs E) at' i from by omega) with h0 | h0
            · have z3 : Hid (nxt (negs E) at' (i + 1) = (i : Int)) := by show _ = _; rw [y3.out, if_pos ⟨h0, hat2, rfl⟩]
              clear y3
              go_wp2
              go_roundw
              case measure => simp [intOf]; omega
              case rel => exact ⟨i + 1, by omega, by go_num, by rw [z3.out], by rw [y4.out]; simp, by rw [z1.out], by show BI _ _ _ _; rw [z2.out]; exact HI.out⟩
            · have z3 : Hid (nxt (negs E) at' (i + 1) = nxt (negs E) at' i) := by show _ = _; rw [y3.out, if_neg (by omega)]
              clear y3
              go_wp2
              go_roundw
              case measure => simp [intOf]; omega
              case rel => exact ⟨i + 1, by omega, by go_num, by rw [z3.out], by rw [y4.out]; simp, by rw [z1.out], by show BI _ _ _ _; rw [z2.out]; exact HI.out⟩
          | true =>
            rw [hng] at k2 y1 y2 y3 y4
            have z3 : Hid (nxt (negs E) at' (i + 1) = nxt (negs E) at' i) := by show _ = _; rw [y3.out, if_neg (by simp)]
            have z1 : Hid (opn (negs E) at' (i + 1) = opn (negs E) at' i) := by show _ = _; rw [y1.out]; simp
            clear hng y1 y3
            cases hop : opn (negs E) at' i with
            | false =>
              have z2 : Hid (bet (negs E) at' (i + 1) = bet (negs E) at' i) := by show _ = _; rw [y2.out, if_neg (by simp [hop])]; simp
              rw [hop] at z1
              clear hop y2
              go_wp2
              go_roundw
              case measure => simp [intOf]; omega
              case rel => exact ⟨i + 1, by omega, by go_num, by rw [z3.out], by rw [y4.out]; simp, by rw [z1.out], by show BI _ _ _ _; rw [z2.out]; exact HI.out⟩
            | true =>
              have z2 : Hid (bet (negs E) at' (i + 1) = bet (negs E) at' i ++ [(i : Int)]) := by show _ = _; rw [y2.out, if_pos ⟨hat2, rfl, hop⟩]
              rw [hop] at z1
              have hln := bet_len (negs E) at' i
              obtain ⟨ob, hs, hob⟩ := HI.out.sg
              have HS := Lib.hid hs
              have HOB := Lib.hid hob
              have HBW := Lib.hid HI.out.be
              clear hop y2 hs hob HI
              generalize bet (negs E) at' i = L at HS z2 hln ⊢
              go_wp2_with (at_builtin; refine wpList_append_seg _ rfl _ _ 34 rfl 3 i0 (.int .i64 0) 1 8 Try.underlying34 hi0 hz0 hz1 hz2 rfl (by decide) _ _ _ _ rfl (HS.out.alloc _) ⟨wr.heap.size, 0, none⟩ 1 1 [.int .i64 i] rfl rfl (one_newsI _ _ _ rfl) (by simp [Value.oneCell']) (by decide) (by unfold maxLen; omega) (by omega) ?_; intro v2 w2 ob2 hs2 ht2 ho2; have HS3 := Lib.hid hs2; have HT3 := Lib.hid ht2; have HO3 := Lib.hid ho2; clear hs2 ht2 ho2)
              go_roundw
              case measure => simp [intOf]; omega
              case rel => exact ⟨i + 1, by omega, by go_num, by rw [z3.out], by rw [y4.out]; simp, by rw [z1.out], by show BI _ _ _ _; rw [z2.out]; exact BI.more HOB.out (HBW.out.alloc HBW.out.size _) HS3.out HT3.out HO3.out⟩
      · obtain rfl : i = n := by omega
        have c01 := HPR.out.c1
        have c02 := HPR.out.c2
        obtain ⟨A1, cp1, rfl, hL1⟩ := BI.lies HI.out
        have HL1 := Lib.hid hL1
        have HI1 := Lib.hid HI.out.be
        clear hL1 HI
        go_wp2_with fail
        refine (between_any g o i c win cap at' E _ HPR.out.le (by omega) ha).mono ?_
        rintro e w4 ⟨v2, rfl, hv2⟩
        obtain ⟨A2, cp2, rfl, hL2⟩ := BI.lies hv2
        have HL2 := Lib.hid hL2
        have HL1 := Lib.hid (HL1.out.below hv2.be)
        have HP4 := Lib.hid (HPR.out.call hv2.be)
        have hsz := hv2.be.size
        have hln := bet_len (negs E) at' i
        clear hL2 hv2 c00 c01 c02 ql2
        have hne : (((bet (negs E) at' i).length : Int) == ((bet (negs E) at' i).length : Int)) = true := by simp
        go_wp2
        go_loopw [15] (fun s wx => ∃ j : Nat, j ≤ (bet (negs E) at' i).length ∧ s = .int .i64 j ∧ Hid (Below w4.heap.size w4 wx)) (fun s _ => (bet (negs E) at' i).length - (intOf s).toNat)
        case atStart => exact ⟨0, by omega, rfl, Below.refl _ _⟩
        case round =>
          obtain ⟨j, hj, rfl, HBX⟩ := hrel
          by_cases hjl : j < (bet (negs E) at' i).length
          · have hji : (j : Int) < ((bet (negs E) at' i).length : Int) := by omega
            obtain ⟨ga, oa, rfl, hga, hca⟩ := HL1.out j hjl
            obtain ⟨gb, ob, rfl, hgb, hcb⟩ := HL2.out j hjl
            have ca : wr.cell? ⟨ga, oa + j, none⟩ = some (.int .i64 ((bet (negs E) at' i).getD j 0)) := (HBX.out.cell (p := ⟨ga, oa + j, none⟩) (show ga < w4.heap.size by omega)).trans hca
            have cb : wr.cell? ⟨gb, ob + j, none⟩ = some (.int .i64 ((bet (negs E) at' i).getD j 0)) := (HBX.out.cell (p := ⟨gb, ob + j, none⟩) (show gb < w4.heap.size by omega)).trans hcb
            clear hca hcb
            generalize (bet (negs E) at' i).getD j 0 = xx at ca cb
            generalize (bet (negs E) at' i).length = ll at *
            go_upto_region 27 with fail
            go_quiet (fail)
            go_wp2
            go_roundw
            case measure => simp [intOf]; omega
            case rel => exact ⟨j + 1, by omega, by go_num, below_drewN HBX.out _⟩
          · have HP5 := Lib.hid (HP4.out.call HBX.out)
            have hji : ¬ (j : Int) < ((bet (negs E) at' i).length : Int) := by omega
            generalize (bet (negs E) at' i).length = ll at *
            go_wp2_with fail
            refine (awake_any _).mono ?_
            rintro e w5 ⟨rfl, hb⟩
            have HP6 := Lib.hid (HP5.out.call hb)
            clear hb
            have d0 := HP6.out.c0
            have d1 := HP6.out.c1
            have d2 := HP6.out.c2
            have dl := HP6.out.row.lt
            go_wp2_with fail
            refine (next_any g o i c win cap at' E _ HP6.out.le (by omega) ha).mono ?_
            rintro e w6 ⟨rfl, hb⟩
            have HP7 := Lib.hid (HP6.out.call hb)
            clear hb d0 d1 d2 dl
            have d0 := HP7.out.c0
            have d1 := HP7.out.c1
            have d2 := HP7.out.c2
            have dl := HP7.out.row.lt
            go_wp2_with fail
            refine (last_any g o i c win cap E _ HP7.out.le (by omega)).mono ?_
            rintro e w7 ⟨rfl, hb⟩
            have HP8 := Lib.hid (HP7.out.call hb)
            clear hb d0 d1 d2 dl
            go_wp2
            go_ret
            exact ⟨by simp, HP8.out.be⟩
open Go.ChangeShapes Go.WideShapes in
theorem parts_law2 (A : Option Addr) (m c0 : Nat) (F : Nat → Int) (ln : m ≤ c0) (lc : c0 ≤ 9223372036854775807) (lb : ∀ k, -9223372036854775808 ≤ F k ∧ F k ≤ 9223372036854775807) {w : World} (lies : Lies w w.heap.size A m (fun k => .int .i64 (F k)))
    (at' : Int) (wa : (Lit.int .i64 at').wf = true) (odd : Bool) :
    Calls Try.prog 6 #[.slice A m c0, .int .i64 at', .bool odd] w fun e w' => e = .returned (.bool true) ∧ Below w.heap.size w w' :=
  parts_law A m c0 F ln lc lb w lies at' (bounds_i64 wa) odd
end Go.Proofs.Ytjciilnbcmaikaa.Pa
