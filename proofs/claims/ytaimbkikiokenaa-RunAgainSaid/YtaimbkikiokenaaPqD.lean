/- The reference's queries: a query by picks. -/
import Derived.Test.YtaimbkikiokenaaPqC
import Derived.Deep.CutBlock
import Derived.Deep.RegionLaw
namespace Go.Proofs.Ytaimbkikiokenaa.Pq
open Go.RowKit Go.Proofs.Ytaimbkikiokenaa
set_option linter.unusedVariables false
set_option maxRecDepth 100000

/-- What is handed back: a list of 1 to 4 elements, a window, how many beginnings are kept. -/
def Made (w w' : World) (e : Ending) : Prop := ∃ (v : Value) (win cap : Int) (es : List El), e = .returned (.agg #[v, .int .i64 win, .int .i64 cap]) ∧ QI w w' w.heap.size v win cap es ∧ Good es.length es ∧ 1 ≤ es.length ∧ es.length ≤ 4 ∧ 1 ≤ win ∧ win ≤ 16 ∧ (cap = 100 ∨ cap = 200 ∨ cap = 1000)
theorem Preds.form {w0 w : World} {v : Value} {L : List Nd} (h : Preds w0 w v L) : ∃ A n, v = .slice A n n := by
  rcases h.is with ⟨h, _⟩ | ⟨b, h, _⟩ <;> exact ⟨_, _, h⟩
theorem EI.fin1 {wr w2 : World} {tb : Nat} {ts : List ByteArray} (h : Below wr.heap.size wr w2) (hr : Row w2 tb 9 (ts.map Value.string).toArray) (ht : wr.heap.size ≤ tb) (hl : 1 ≤ ts.length ∧ ts.length ≤ 3) (x : ByteArray) :
    EI wr (w2.alloc (.cells #[.string x, .slice (some ⟨tb, 0, none⟩) ts.length ts.length, .bool false, .int .i64 1, .int .i64 1, .slice none 0 0] 62)) w2.heap.size ⟨x, tb, ts, false, 1, 1, none, []⟩ :=
  ⟨h.alloc h.size _, Row.made _ _ _, h.size, ⟨⟨hr.alloc _, ht, fun e => by have := hr.lt; have e : tb = w2.heap.size := e; omega⟩, (fun b h => by cases h), ⟨fun _ => rfl, fun _ => rfl⟩, hl.1, hl.2, by simp⟩⟩
theorem row6_put {w : World} {b : Nat} {t : TypeId} {c0 c1 c2 c3 c4 c5 : Value} (h : Row w b t #[c0, c1, c2, c3, c4, c5]) (v0 v1 v2 v3 v4 v5 : Value) :
    Row ((((((w.setCell ⟨b, 0, none⟩ v0).setCell ⟨b, 1, none⟩ v1).setCell ⟨b, 2, none⟩ v2).setCell ⟨b, 3, none⟩ v3).setCell ⟨b, 4, none⟩ v4).setCell ⟨b, 5, none⟩ v5) b t #[v0, v1, v2, v3, v4, v5] :=
  ((((((h.put 0 v0).put 1 v1).put 2 v2).put 3 v3).put 4 v4).put 5 v5)
theorem EI.fin2 {wr w2 : World} {eb tb : Nat} {ts : List ByteArray} {c0 c1 c2 c3 c4 c5 : Value} (h : Below wr.heap.size wr w2) (hr : Row w2 tb 9 (ts.map Value.string).toArray) (ht : wr.heap.size ≤ tb) (hl : 1 ≤ ts.length ∧ ts.length ≤ 3) (x : ByteArray)
    (hz : Row w2 eb 62 #[c0, c1, c2, c3, c4, c5]) (he : wr.heap.size ≤ eb) (hn : tb ≠ eb) :
    EI wr ((((((w2.setCell ⟨eb, 0, none⟩ (.string x)).setCell ⟨eb, 1, none⟩ (.slice (some ⟨tb, 0, none⟩) ts.length ts.length)).setCell ⟨eb, 2, none⟩ (.bool false)).setCell ⟨eb, 3, none⟩ (.int .i64 1)).setCell ⟨eb, 4, none⟩ (.int .i64 1)).setCell ⟨eb, 5, none⟩ (.slice none 0 0)) eb ⟨x, tb, ts, false, 1, 1, none, []⟩ :=
  ⟨(((((h.setCell (p := ⟨eb, 0, none⟩) he _).setCell (p := ⟨eb, 1, none⟩) he _).setCell (p := ⟨eb, 2, none⟩) he _).setCell (p := ⟨eb, 3, none⟩) he _).setCell (p := ⟨eb, 4, none⟩) he _).setCell (p := ⟨eb, 5, none⟩) he _, row6_put hz _ _ _ _ _ _, he,
    ⟨⟨(((((hr.past (p := ⟨eb, 0, none⟩) hn _).past (p := ⟨eb, 1, none⟩) hn _).past (p := ⟨eb, 2, none⟩) hn _).past (p := ⟨eb, 3, none⟩) hn _).past (p := ⟨eb, 4, none⟩) hn _).past (p := ⟨eb, 5, none⟩) hn _, ht, hn⟩, (fun b h => by cases h), ⟨fun _ => rfl, fun _ => rfl⟩, hl.1, hl.2, by simp⟩⟩
theorem QI.again {w0 w : World} {qb : Nat} {v : Value} {win cap : Int} {es : List El} (h : QI w0 w qb v win cap es) : QI w0 (((w.setCell ⟨qb, 0, none⟩ v).setCell ⟨qb, 1, none⟩ (.int .i64 win)).setCell ⟨qb, 2, none⟩ (.int .i64 cap)) qb v win cap es := by
  obtain ⟨ob, h1, h2, h3⟩ := h.sg
  refine ⟨((h.row.put 0 v).put 1 _).put 2 _, ⟨ob, ?_, h2, fun e he => ((((h3 e he).put (p := ⟨qb, 0, none⟩) (.inr rfl) _).put (p := ⟨qb, 1, none⟩) (.inr rfl) _).put (p := ⟨qb, 2, none⟩) (.inr rfl) _)⟩, ((h.be.setCell (p := ⟨qb, 0, none⟩) h.ge _).setCell (p := ⟨qb, 1, none⟩) h.ge _).setCell (p := ⟨qb, 2, none⟩) h.ge _, h.ge⟩
  exact ((h1.past (p := ⟨qb, 0, none⟩) (fun e => (h2 _ e).2 rfl) _).past (p := ⟨qb, 1, none⟩) (fun e => (h2 _ e).2 rfl) _).past (p := ⟨qb, 2, none⟩) (fun e => (h2 _ e).2 rfl) _
theorem Good.more {n i : Nat} {es : List El} {e : El} (h : Good n es) (hl : es.length = i) (hv : e.v = varOf i) (hb : 1 ≤ e.mn ∧ e.mn ≤ e.mx ∧ e.mx ≤ 3 ∧ (e.neg = true → e.mn = 1 ∧ e.mx = 1)) (hn : e.neg = true → 0 < i ∧ i + 1 < n)
    (hc : (∃ k, e.ts = tyL k) ∧ ∃ x o, 0 ≤ x ∧ x ≤ 16777216 ∧ e.nds = predL x e.v o ∧ (o = e.v ∨ (o = ⟨#[97]⟩ ∧ ∃ e0, es[0]? = some e0 ∧ e0.mx = 1))) : Good n (es ++ [e]) := by
  subst hl
  have key : ∀ j e', (es ++ [e])[j]? = some e' → es[j]? = some e' ∨ (j = es.length ∧ e' = e) := fun j e' hj => by
    rw [List.getElem?_append] at hj
    by_cases h1 : j < es.length
    · rw [if_pos h1] at hj; exact .inl hj
    · rw [if_neg h1] at hj
      rcases Nat.eq_zero_or_pos (j - es.length) with h2 | h2
      · rw [h2] at hj; simp at hj; exact .inr ⟨by omega, hj.symm⟩
      · rw [List.getElem?_eq_none (by simp; omega)] at hj; cases hj
  have first : ∀ (o : ByteArray) (e' : El), (o = e'.v ∨ (o = ⟨#[97]⟩ ∧ ∃ e0, es[0]? = some e0 ∧ e0.mx = 1)) → (o = e'.v ∨ (o = ⟨#[97]⟩ ∧ ∃ e0, (es ++ [e])[0]? = some e0 ∧ e0.mx = 1)) := fun o e' h => by
    rcases h with h | ⟨h, e0, h0, h1⟩
    · exact .inl h
    · exact .inr ⟨h, e0, by rw [List.getElem?_append_left (List.getElem?_eq_some_iff.1 h0).1]; exact h0, h1⟩
  refine ⟨fun j e' hj => ?_, fun e' he' => ?_, fun j e' hj hx => ?_, fun j e' hj => ?_⟩
  · rcases key j e' hj with h1 | ⟨rfl, rfl⟩
    · exact h.var j e' h1
    · exact hv
  · rcases List.mem_append.1 he' with h1 | h1
    · exact h.lo e' h1
    · rw [List.mem_singleton.1 h1]; exact hb
  · rcases key j e' hj with h1 | ⟨rfl, rfl⟩
    · exact h.neg j e' h1 hx
    · exact hn hx
  · rcases key j e' hj with h1 | ⟨rfl, rfl⟩
    · obtain ⟨k1, x, o, g1, g2, g3, g4⟩ := h.con j e' h1
      exact ⟨k1, x, o, g1, g2, g3, first o e' g4⟩
    · obtain ⟨k1, x, o, g1, g2, g3, g4⟩ := hc
      exact ⟨k1, x, o, g1, g2, g3, first o e' g4⟩
theorem El.pv_one (e : El) : e.pv.oneCell' = true := by unfold El.pv; split <;> rfl
theorem six_news (w : World) (a0 a1 a2 a3 a4 a5 : Value) (a : Nat) (ha : w.heap.size = a) : ∀ j u, [a0, a1, a2, a3, a4, a5][j]? = some u → (w.alloc (.cells #[a0, a1, a2, a3, a4, a5] 62)).cell? ((⟨a, 0, none⟩ : Addr).add j) = some u := by
  subst ha
  intro j u hj
  rw [show ((⟨w.heap.size, 0, none⟩ : Addr).add j) = ⟨w.heap.size, j, none⟩ from by simp [Addr.add]; omega]
  exact ((Row.made w 62 #[a0, a1, a2, a3, a4, a5]).cell j).trans (by simpa using hj)
theorem six_one {e : El} {pv : Value} (h : e.pv = pv) (s : ByteArray) (A : Option Addr) (n c : Nat) (b : Bool) (x y : Int) : ∀ u ∈ [Value.string s, .slice A n c, .bool b, .int .i64 x, .int .i64 y, pv], u.oneCell' = true := by
  intro u hu
  simp only [List.mem_cons, List.not_mem_nil, or_false] at hu
  rcases hu with rfl | rfl | rfl | rfl | rfl | rfl
  · rfl
  · rfl
  · rfl
  · rfl
  · rfl
  · rw [← h]; exact El.pv_one e
set_option maxHeartbeats 8000000 in
theorem query_any (A : Option Addr) (n c : Nat) (F : Nat → Int) (ln : n ≤ c) (lc : c ≤ 9223372036854775807) (lb : ∀ k, -9223372036854775808 ≤ F k ∧ F k ≤ 9223372036854775807) (w : World) (lies : Lies w w.heap.size A n (fun k => .int .i64 (F k))) :
    Calls Try.prog 21 #[.slice A n c] w fun e w' => Made w w' e := by
  have HL := Lib.hid lies
  have HB := Lib.hid lb
  clear lies lb
  obtain ⟨i0, hi0, hz0, hz1, hz2⟩ := info_parts elem_info
  go_enter Try.func21, Try.ntmps21
  go_upto_if 11 with fail
  go_cut [3] (fun s3 wx => ∃ x : Int, s3 = .int .i64 x ∧ 0 ≤ x ∧ x ≤ 16777215 ∧ wx = w.alloc (.cells #[.slice none 0 0, .int .i64 0, .int .i64 0] 44))
  case first =>
    by_cases hn : 0 < n
    · obtain ⟨g, o, rfl, hg, hc⟩ := HL.out 0 hn
      have c1 : (w.alloc (.cells #[.slice none 0 0, .int .i64 0, .int .i64 0] 44)).cell? ⟨g, o, none⟩ = some (.int .i64 (F 0)) := (((Below.refl _ w).alloc (Nat.le_refl _) _).cell (p := ⟨g, o, none⟩) hg).trans (by simpa using hc)
      obtain ⟨b0, b1⟩ := HB.out 0
      have a := and24 (F 0)
      clear hc
      go_wp2
      go_meet
      exact ⟨F 0 % 16777216, rfl, by omega, by omega, rfl⟩
    · obtain rfl : n = 0 := by omega
      go_wp2
      go_meet
      exact ⟨0, rfl, by omega, by omega, rfl⟩
  case rest =>
    obtain ⟨x, rfl, hx0, hx1, rfl⟩ := hcut
    have a3 := and3 x
    have a4 := and15 (x / 4)
    have a5 := and3 (x / 64)
    obtain ⟨N, hN⟩ : ∃ N : Nat, x % 4 = (N : Int) := ⟨(x % 4).toNat, by omega⟩
    have hN4 : N < 4 := by omega
    rw [hN] at a3
    have hW := Lib.hid (show 1 ≤ x / 4 % 16 + 1 ∧ x / 4 % 16 + 1 ≤ 16 by omega)
    go_upto_region 6 with fail
    go_cut [] (fun wx => ∃ cap : Int, (cap = 100 ∨ cap = 200 ∨ cap = 1000) ∧ Hid (QI w wx w.heap.size (.slice none 0 0) (x / 4 % 16 + 1) cap []))
    case first =>
      have hq : ∀ cap : Int, QI w ((w.alloc (.cells #[.slice none 0 0, .int .i64 (x / 4 % 16 + 1), .int .i64 cap] 44)).alloc (.cells #[.int .i64 100, .int .i64 100, .int .i64 200, .int .i64 1000] 3)) w.heap.size (.slice none 0 0) (x / 4 % 16 + 1) cap [] := fun cap =>
        ⟨(Row.made w _ _).alloc _, ⟨none, (Seg.nil _ _ _), (fun _ h => by cases h), (fun _ h => by cases h)⟩, by go_grown, Nat.le_refl _⟩
      have HQ := Lib.hid hq
      clear hq
      rcases (show x / 64 % 4 = 0 ∨ x / 64 % 4 = 1 ∨ x / 64 % 4 = 2 ∨ x / 64 % 4 = 3 from by omega) with h | h | h | h
      · rw [h] at a5
        clear h
        go_wp2
        go_meet
        exact ⟨100, .inl rfl, HQ.out _⟩
      · rw [h] at a5
        clear h
        go_wp2
        go_meet
        exact ⟨100, .inl rfl, HQ.out _⟩
      · rw [h] at a5
        clear h
        go_wp2
        go_meet
        exact ⟨200, .inr (.inl rfl), HQ.out _⟩
      · rw [h] at a5
        clear h
        go_wp2
        go_meet
        exact ⟨1000, .inr (.inr rfl), HQ.out _⟩
    case rest =>
      obtain ⟨cap, hcap, HQ⟩ := hcut
      have HCAP := Lib.hid hcap
      clear hcap a3 a4 a5 hN hx0 hx1
      generalize x / 4 % 16 + 1 = win at HQ hW ⊢
      go_wp2
      go_loopw [5] (fun s5 wr => ∃ i : Nat, i ≤ N + 1 ∧ s5 = .int .i64 i ∧ Hid (∃ v es, QI w wr w.heap.size v win cap es ∧ es.length = i ∧ Good (N + 1) es)) (fun s5 _ => N + 1 - (intOf s5).toNat)
      case atStart => exact ⟨0, by omega, rfl, _, [], HQ.out, rfl, ⟨(fun i e h => by simp at h), (fun e h => by cases h), (fun i e h => by simp at h), (fun i e h => by simp at h)⟩⟩
      case round =>
        clear HQ
        obtain ⟨i, hi, rfl, hQ⟩ := hrel
        obtain ⟨v, es, hQ, hlen, hG⟩ := hQ.out
        have HQ := Lib.hid hQ
        have HLEN := Lib.hid hlen
        have HG := Lib.hid hG
        clear hQ hlen hG
        by_cases hlt : i < N + 1
        · have hii : (i : Int) < (N : Int) + 1 := by omega
          go_upto_if 42 with fail
          go_cut [6] (fun s6 wx => ∃ y : Int, s6 = .int .i64 y ∧ 0 ≤ y ∧ y ≤ 16777215 ∧ wr = wx)
          case first =>
            by_cases hn : i + 1 < n
            · have hni : (i : Int) + 1 < (n : Int) := by omega
              obtain ⟨g, o, rfl, hg, hc⟩ := HL.out (i + 1) hn
              have c1 : wr.cell? ⟨g, o + (i + 1), none⟩ = some (.int .i64 (F (i + 1))) := (HQ.out.be.cell (p := ⟨g, o + (i + 1), none⟩) hg).trans hc
              obtain ⟨b0, b1⟩ := HB.out (i + 1)
              have a := and24 (F (i + 1))
              clear hc
              go_wp2
              go_meet
              exact ⟨F (i + 1) % 16777216, rfl, by omega, by omega, rfl⟩
            · have hni : ¬ (i : Int) + 1 < (n : Int) := by omega
              go_wp2
              go_meet
              exact ⟨(i : Int) * 37, rfl, by omega, by omega, rfl⟩
          case rest =>
            obtain ⟨y, rfl, hy0, hy1, rfl⟩ := hcut
            go_upto_region 13 with fail
            go_cut [7] (fun s7 wx => ∃ (eb : Nat) (e : El), s7 = .pointer (some ⟨eb, 0, none⟩) ∧ Hid (EI wr wx eb e ∧ e.v = varOf i ∧ e.neg = false ∧ e.mn = 1 ∧ e.mx = 1 ∧ e.ts = tyL (y % 6).toNat))
            case first =>
              have hi4 : i = 0 ∨ i = 1 ∨ i = 2 ∨ i = 3 := by omega
              have hvr : ∀ (W : World) (b : Nat), Row W b 9 #[.string ⟨#[97]⟩, .string ⟨#[98]⟩, .string ⟨#[99]⟩, .string ⟨#[101]⟩] → W.cell? ⟨b, i, none⟩ = some (.string (varOf i)) := fun W b h => by
                rcases hi4 with rfl | rfl | rfl | rfl
                · exact h.cell 0
                · exact h.cell 1
                · exact h.cell 2
                · exact h.cell 3
              have HVR := Lib.hid hvr
              clear hvr hi4
              have hi3 : (i : Int) < 4 := by omega
              go_region_law (first
                | (go_simp; go_at_call 64; refine (vars_any _).mono ?_; rintro e w1 ⟨rfl, hr, hb⟩; (try simp at hr); have B1 : Hid (Below wr.heap.size wr w1) := Below.trans (by go_grown) (hb.mono (by simp)); have c1 := HVR.out _ _ hr; have l1 := hr.lt; have R1 := Lib.hid hr; (try (have RE : Row w1 wr.heap.size 62 #[.string ⟨#[]⟩, .slice none 0 0, .bool false, .int .i64 0, .int .i64 0, .slice none 0 0] := (Row.drew (Row.made wr 62 #[.string ⟨#[]⟩, .slice none 0 0, .bool false, .int .i64 0, .int .i64 0, .slice none 0 0])).below hb (by simp); have RE := Lib.hid RE)); clear hb hr)
                | (go_simp; go_at_call 65; refine (types_any y hy0 (by omega) _).mono ?_; rintro e w2 ⟨u, rfl, hs⟩; obtain ⟨tb, rfl, htb, hrt⟩ := hs.some; have hb := hs.be; have B2 : Hid (Below wr.heap.size wr w2) := B1.out.trans (Below.trans (by go_grown) (hb.mono (by have := B1.out.size; simp; omega))); (try simp at htb); (first | (have R2 := R1.out.below hb (by first | exact l1 | (simp; omega)); have c2 := HVR.out _ _ R2; have l2 := R2.lt; clear R2) | (have R2 := (R1.out.alloc (.cells #[.string ⟨#[]⟩, .slice none 0 0, .bool false, .int .i64 0, .int .i64 0, .slice none 0 0] 62)).below hb (by simp; omega); have c2 := HVR.out _ _ R2; have l2 := R2.lt; clear R2)); (try (have q : Row w2 w1.heap.size 62 #[.string ⟨#[]⟩, .slice none 0 0, .bool false, .int .i64 0, .int .i64 0, .slice none 0 0] := (Row.made w1 62 #[.string ⟨#[]⟩, .slice none 0 0, .bool false, .int .i64 0, .int .i64 0, .slice none 0 0]).below hb (by simp); have z0 : w2.cell? ⟨w1.heap.size, 0, none⟩ = some (.string ⟨#[]⟩) := q.cell 0; have z1 : w2.cell? ⟨w1.heap.size, 1, none⟩ = some (.slice none 0 0) := q.cell 1; have z2 : w2.cell? ⟨w1.heap.size, 2, none⟩ = some (.bool false) := q.cell 2; have z3 : w2.cell? ⟨w1.heap.size, 3, none⟩ = some (.int .i64 0) := q.cell 3; have z4 : w2.cell? ⟨w1.heap.size, 4, none⟩ = some (.int .i64 0) := q.cell 4; have z5 : w2.cell? ⟨w1.heap.size, 5, none⟩ = some (.slice none 0 0) := q.cell 5; have zf : ∀ k, w2.frozen? ⟨w1.heap.size, k, none⟩ = false := q.free; have zl := q.lt; have ZR := Lib.hid q; have TN : Hid (tb ≠ w1.heap.size) := (by show tb ≠ w1.heap.size; omega); clear q)); (try (have q : Row w2 wr.heap.size 62 #[.string ⟨#[]⟩, .slice none 0 0, .bool false, .int .i64 0, .int .i64 0, .slice none 0 0] := RE.out.below hb RE.out.lt; have z0 : w2.cell? ⟨wr.heap.size, 0, none⟩ = some (.string ⟨#[]⟩) := q.cell 0; have z1 : w2.cell? ⟨wr.heap.size, 1, none⟩ = some (.slice none 0 0) := q.cell 1; have z2 : w2.cell? ⟨wr.heap.size, 2, none⟩ = some (.bool false) := q.cell 2; have z3 : w2.cell? ⟨wr.heap.size, 3, none⟩ = some (.int .i64 0) := q.cell 3; have z4 : w2.cell? ⟨wr.heap.size, 4, none⟩ = some (.int .i64 0) := q.cell 4; have z5 : w2.cell? ⟨wr.heap.size, 5, none⟩ = some (.slice none 0 0) := q.cell 5; have zf : ∀ k, w2.frozen? ⟨wr.heap.size, k, none⟩ = false := q.free; have zl := q.lt; have ZR := Lib.hid q; have TN : Hid (tb ≠ wr.heap.size) := (by have := RE.out.lt; show tb ≠ wr.heap.size; omega); clear q)); have RT := Lib.hid hrt; have TB : Hid (wr.heap.size ≤ tb ∧ w1.heap.size ≤ tb) := ⟨by have := B1.out.size; omega, by omega⟩; clear hs htb hrt))
              all_goals
                (try clear z0 z1 z2 z3 z4 z5 zf zl)
                clear c1 c2 l1 l2 R1 HVR
                go_wp2
                go_meet
                first
                  | (
                      have hz := ZR.out
                      exact ⟨_, _, rfl, EI.fin2 B2.out RT.out TB.out.1 (tyL_len _) (varOf i) hz (by first | exact B1.out.size | exact Nat.le_refl _) TN.out, rfl, rfl, rfl, rfl, rfl⟩)
                  | exact ⟨_, _, rfl, EI.fin1 B2.out RT.out TB.out.1 (tyL_len _) (varOf i), rfl, rfl, rfl, rfl, rfl⟩
            case rest =>
              obtain ⟨eb, e, rfl, hE⟩ := hcut
              obtain ⟨hE, hv, hneg, hmn, hmx, hts⟩ := hE.out
              obtain ⟨ev, etb, ets, eneg, emn, emx, epb, ends⟩ := e
              simp only at hv hneg hmn hmx hts
              subst hv hneg hmn hmx
              have HTS := Lib.hid hts
              clear hts
              have HE := Lib.hid hE
              clear hE
              have a1 := and3 (y / 16)
              have a2 := and3 (y / 64)
              have a3 := and1 (y / 256)
              have a4 := and1 (y / 512)
              go_upto_region 14 with fail
              go_cut [] (fun wx => ∃ nb : Bool, (nb = true → 0 < i ∧ i + 1 < N + 1) ∧ Hid (EI wr wx eb ⟨varOf i, etb, ets, nb, 1, 1, epb, ends⟩))
              case first =>
                have f2 := HE.out.row.free 2
                have c2 : wc.cell? ⟨eb, 2, none⟩ = some (.bool false) := HE.out.row.cell 2
                rcases (show i = 0 ∨ (0 < i ∧ i < N) ∨ (0 < i ∧ ¬ i < N) from by omega) with h | ⟨h, h'⟩ | ⟨h, h'⟩
                · have hi0' : ¬ (0 : Int) < (i : Int) := by omega
                  clear h
                  go_wp2
                  go_meet
                  exact ⟨false, (fun h => by cases h), HE.out.putNeg false⟩
                · have hi0' : (0 : Int) < (i : Int) := by omega
                  have hi1' : (i : Int) < (N : Int) := by omega
                  have HH : Hid (0 < i ∧ i < N) := ⟨h, h'⟩
                  clear h h'
                  go_wp2
                  go_meet
                  exact ⟨_, (fun _ => ⟨HH.out.1, by have := HH.out.2; omega⟩), HE.out.putNeg _⟩
                · have hi0' : (0 : Int) < (i : Int) := by omega
                  have hi1' : ¬ (i : Int) < (N : Int) := by omega
                  clear h h'
                  go_wp2
                  go_meet
                  exact ⟨false, (fun h => by cases h), HE.out.putNeg false⟩
              case rest =>
                clear HE
                obtain ⟨nb, hnb, HE⟩ := hcut
                have HNB := Lib.hid hnb
                clear hnb
                go_upto_region 15 with fail
                go_cut [79] (fun s79 wx => ∃ d : Bool, s79 = .bool d ∧ (d = true → nb = false) ∧ wc = wx)
                case first =>
                  have c2 : wc.cell? ⟨eb, 2, none⟩ = some (.bool nb) := HE.out.row.cell 2
                  cases nb with
                  | true =>
                    go_wp2
                    go_meet
                    exact ⟨false, rfl, (fun h => by cases h), rfl⟩
                  | false =>
                    go_wp2
                    go_meet
                    exact ⟨_, rfl, (fun _ => by first | rfl | trivial), rfl⟩
                case rest =>
                 obtain ⟨d, rfl, hd, rfl⟩ := hcut
                 have HD := Lib.hid hd
                 clear hd
                 go_upto_if 79 with fail
                 go_cut [] (fun wx => ∃ mn mx : Int, (1 ≤ mn ∧ mn ≤ mx ∧ mx ≤ 3) ∧ (nb = true → mn = 1 ∧ mx = 1) ∧ Hid (EI wr wx eb ⟨varOf i, etb, ets, nb, mn, mx, epb, ends⟩))
                 case first =>
                  cases d with
                  | false =>
                    go_wp2
                    go_meet
                    exact ⟨1, 1, by omega, fun _ => ⟨rfl, rfl⟩, HE.out⟩
                  | true =>
                    have hnf := HD.out rfl
                    subst hnf
                    have c3 : wc.cell? ⟨eb, 3, none⟩ = some (.int .i64 1) := HE.out.row.cell 3
                    have c4 : wc.cell? ⟨eb, 4, none⟩ = some (.int .i64 1) := HE.out.row.cell 4
                    have f3 := HE.out.row.free 3
                    have f4 := HE.out.row.free 4
                    have el := HE.out.row.lt
                    go_wp2
                    go_meet
                    exact ⟨y / 256 % 2 + 1, y / 256 % 2 + 1 + y / 512 % 2, by omega, (fun h => by cases h), (HE.out.putMin (y / 256 % 2 + 1)).putMax (y / 256 % 2 + 1 + y / 512 % 2)⟩
                 case rest =>
                  clear HE a1 a2 a3 a4
                  obtain ⟨mn, mx, hm, hm2, HE⟩ := hcut
                  have HM := Lib.hid hm
                  have HM2 := Lib.hid hm2
                  clear hm hm2
                  go_upto_region 19 with fail
                  go_cut [101] (fun s101 wx => ∃ d : Bool, s101 = .bool d ∧ Hid (d = false → ∃ e0, es[0]? = some e0 ∧ e0.mx = 1) ∧ wc = wx)
                  case first =>
                    rcases Nat.eq_zero_or_pos i with h | h
                    · have ei : ((i : Int) == 0) = true := by simpa using h
                      clear h
                      go_wp2
                      go_meet
                      exact ⟨true, rfl, (fun h => by cases h), rfl⟩
                    · have ei : ((i : Int) == 0) = false := by simp; omega
                      have HQ2 := Lib.hid (HQ.out.call HE.out.be)
                      have c0 : wc.cell? ⟨w.heap.size, 0, none⟩ = some v := HQ2.out.row.cell 0
                      obtain ⟨ob, hs, _, _⟩ := HQ2.out.sg
                      have hle := HLEN.out
                      obtain ⟨g, o, cp, hvv, hg, _, _, hcell, _⟩ := hs.shape (by omega)
                      obtain ⟨e0, es', hes⟩ := List.exists_cons_of_length_pos (l := es) (by omega)
                      have c4 : wc.cell? ⟨g, o + 4, none⟩ = some (.int .i64 e0.mx) := hcell 4 _ (by rw [hes]; rfl)
                      have hlp : 0 < es.length := by omega
                      have hlpi : (0 : Int) < (es.length : Int) := by omega
                      have HES : Hid (es[0]? = some e0) := Lib.hid (by rw [hes]; rfl)
                      clear hes hs hcell hle h HQ2 hg
                      subst hvv
                      go_wp2
                      go_meet
                      exact ⟨_, rfl, (fun h => ⟨e0, HES.out, by simpa using h⟩), rfl⟩
                  case rest =>
                   obtain ⟨d2, rfl, hd2, rfl⟩ := hcut
                   have HD2 := hd2
                   clear hd2
                   go_upto_if 101 with fail
                   go_cut [8] (fun s8 wx => ∃ o : ByteArray, s8 = .string o ∧ Hid (o = varOf i ∨ (o = ⟨#[97]⟩ ∧ d2 = false)) ∧ wc = wx)
                   case first =>
                    have d0 : wc.cell? ⟨eb, 0, none⟩ = some (.string (varOf i)) := HE.out.row.cell 0
                    cases d2
                    · go_wp2
                      go_meet
                      exact ⟨_, rfl, Lib.hid (by first | exact .inr ⟨rfl, rfl⟩ | exact .inr ⟨rfl, trivial⟩ | exact .inr ⟨trivial, rfl⟩ | exact .inr ⟨trivial, trivial⟩ | trivial), rfl⟩
                    · go_wp2
                      go_meet
                      exact ⟨_, rfl, Lib.hid (by first | exact .inl rfl | exact .inl trivial | trivial), rfl⟩
                   case rest =>
                    obtain ⟨o, rfl, hoo, rfl⟩ := hcut
                    have d0 : wc.cell? ⟨eb, 0, none⟩ = some (.string (varOf i)) := HE.out.row.cell 0
                    go_wp2_with fail
                    refine (pred_any (y / 1024) (by omega) (by omega) _ _ _).mono ?_
                    rintro e w5 ⟨u, rfl, hp⟩
                    obtain ⟨PA, pn, rfl⟩ := hp.form
                    obtain ⟨pb, hE5⟩ := HE.out.putPred hp (predL_len _ _ _)
                    have HE5 := Lib.hid hE5
                    have r5 := (HE.out.call hp.be).row
                    have d5 : w5.cell? ⟨eb, 5, none⟩ = some _ := r5.cell 5
                    have f5 := r5.free 5
                    clear hp hE5 r5 d0
                    go_upto_region 22 with fail
                    clear d5 f5
                    generalize w5.setCell ⟨eb, 5, none⟩ (.slice PA pn pn) = W at HE5 ⊢
                    have hQ2 := HQ.out.call HE5.out.be
                    have c0 : W.cell? ⟨w.heap.size, 0, none⟩ = some v := hQ2.row.cell 0
                    obtain ⟨ob, hs, hob, h3⟩ := HQ.out.sg
                    have hol := hs.lt
                    obtain ⟨vA, vc, hvv, _, _⟩ := hs.form
                    have hs2 := hs.turns (Turns.of_below HE5.out.be) (fun _ _ h => h)
                    have HS2 := Lib.hid hs2
                    have HOB := Lib.hid hob
                    have H3 := Lib.hid h3
                    have HOL := Lib.hid hol
                    have hl4 : es.length ≤ 3 := by have := HLEN.out; omega
                    have e0 : W.cell? ⟨eb, 0, none⟩ = some (.string (varOf i)) := HE5.out.row.cell 0
                    have e1 : W.cell? ⟨eb, 1, none⟩ = some (.slice (some ⟨etb, 0, none⟩) ets.length ets.length) := HE5.out.row.cell 1
                    have e2 : W.cell? ⟨eb, 2, none⟩ = some (.bool nb) := HE5.out.row.cell 2
                    have e3 : W.cell? ⟨eb, 3, none⟩ = some (.int .i64 mn) := HE5.out.row.cell 3
                    have e4 : W.cell? ⟨eb, 4, none⟩ = some (.int .i64 mx) := HE5.out.row.cell 4
                    have e5 : W.cell? ⟨eb, 5, none⟩ = some (El.pv ⟨varOf i, etb, ets, nb, mn, mx, pb, predL (y / 1024) (varOf i) o⟩) := HE5.out.row.cell 5
                    have HQR := Lib.hid hQ2.row
                    have HQW := Lib.hid hQ2.row.lt
                    clear hQ2 hs hs2 hob h3 hol
                    generalize hpv : El.pv ⟨varOf i, etb, ets, nb, mn, mx, pb, predL (y / 1024) (varOf i) o⟩ = pv at e5
                    have HPV := Lib.hid hpv
                    clear hpv
                    have HVV := Lib.hid hvv
                    clear hvv
                    go_upto_region 22 with fail
                    go_wp2_with (at_builtin; refine wpList_append_seg _ rfl _ _ 42 rfl 62 i0 _ 6 88 Try.underlying42 hi0 hz0 hz1 hz2 rfl (by decide) _ _ _ _ rfl (HS2.out.alloc _) ⟨W.heap.size, 0, none⟩ 1 1 [.string (varOf i), .slice (some ⟨etb, 0, none⟩) ets.length ets.length, .bool nb, .int .i64 mn, .int .i64 mx, pv] rfl rfl (six_news _ _ _ _ _ _ _ _ rfl) (six_one HPV.out _ _ _ _ _ _ _) (by decide) (by unfold maxLen; omega) (by omega) ?_; intro v2 w2 ob2 hs2 ht2 ho2; obtain ⟨A2, c2, rfl, _, _⟩ := hs2.form; have q2 := (HQR.out.alloc (.cells #[.string (varOf i), .slice (some ⟨etb, 0, none⟩) ets.length ets.length, .bool nb, .int .i64 mn, .int .i64 mx, pv] 62)).turns ht2 (fun x => (HOB.out _ x).2 rfl); have k0 : w2.cell? ⟨w.heap.size, 0, none⟩ = some v := q2.cell 0; have kf := q2.free 0; have HS3 := Lib.hid hs2; have HT3 := Lib.hid ht2; have HO3 := Lib.hid ho2; clear hs2 ht2 ho2 q2)
                    go_roundw
                    case measure => simp [intOf]; omega
                    case rel =>
                      have hpv := HPV.out
                      subst hpv
                      have hlen := HLEN.out
                      refine ⟨i + 1, by omega, by go_num, _, es ++ [⟨varOf i, etb, ets, nb, mn, mx, pb, predL (y / 1024) (varOf i) o⟩], HQ.out.more (e := ⟨varOf i, etb, ets, nb, mn, mx, pb, predL (y / 1024) (varOf i) o⟩) (HE5.out.call ((Below.refl _ _).alloc (Nat.le_refl _) _)) HOB.out H3.out HOL.out HS3.out HT3.out HO3.out, by rw [List.length_append, hlen]; rfl, Good.more HG.out hlen rfl ⟨HM.out.1, HM.out.2.1, HM.out.2.2, HM2.out⟩ HNB.out ⟨⟨_, HTS.out⟩, y / 1024, o, by omega, by omega, rfl, hoo.out.imp id (fun h => ⟨h.1, HD2.out h.2⟩)⟩⟩
        · obtain rfl : i = N + 1 := by omega
          obtain ⟨ob0, hs0, _⟩ := HQ.out.sg
          obtain ⟨A0, cp0, hv0, _, _⟩ := hs0.form
          clear hs0
          subst hv0
          have hl := HLEN.out
          generalize es.length = el at HQ hl ⊢
          have HH : Hid (Made w (((wr.setCell ⟨w.heap.size, 0, none⟩ (.slice A0 el cp0)).setCell ⟨w.heap.size, 1, none⟩ (.int .i64 win)).setCell ⟨w.heap.size, 2, none⟩ (.int .i64 cap)) (.returned (.agg #[.slice A0 el cp0, .int .i64 win, .int .i64 cap]))) := by
            have hl := HLEN.out
            exact ⟨_, win, cap, es, rfl, HQ.out.again, by rw [hl]; exact HG.out, by omega, by omega, hW.out.1, hW.out.2, HCAP.out⟩
          have R := HQ.out.row
          have c0 : wr.cell? ⟨w.heap.size, 0, none⟩ = some (.slice A0 el cp0) := R.cell 0
          have c1 : wr.cell? ⟨w.heap.size, 1, none⟩ = some (.int .i64 win) := R.cell 1
          have c2 : wr.cell? ⟨w.heap.size, 2, none⟩ = some (.int .i64 cap) := R.cell 2
          have f := R.free
          have rl := R.lt
          have hii : ¬ ((N + 1 : Nat) : Int) < (N : Int) + 1 := by omega
          clear R hlt hl
          go_wp2
          exact bodyPost_ret (v := .agg #[.slice A0 el cp0, .int .i64 win, .int .i64 cap]) (by simp [results, Try.results21, go_sem, c0, c1, c2]) rfl HH.out
end Go.Proofs.Ytaimbkikiokenaa.Pq
