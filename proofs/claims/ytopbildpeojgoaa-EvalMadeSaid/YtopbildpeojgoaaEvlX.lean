/- Whether a predicate holds; what the law looks at ahead. -/
import Derived.Test.YtopbildpeojgoaaEvlI
import Derived.Test.YtopbildpeojgoaaTyP
import Derived.Test.YtopbildpeojgoaaSchI
namespace Go.Proofs.Ytopbildpeojgoaa.Evl
open Go.RowKit Go.Proofs.Ytopbildpeojgoaa Go.Proofs.Ytopbildpeojgoaa.Ev Go.Proofs.Ytopbildpeojgoaa.Sch Go.Proofs.Ytopbildpeojgoaa.Ty Go.Proofs.Ytopbildpeojgoaa.Num
set_option linter.unusedVariables false
set_option maxRecDepth 100000
def holdM (r : Option VV) : Bool := match r with | some y => (y.k == 3) && y.b | none => false
theorem Good.pos {l : List Nd} (h : Ty.Good l) : 0 < l.length := by
  have := h.one
  cases l with
  | nil => simp [dep] at this
  | cons a l => simp
set_option maxHeartbeats 2000000 in
theorem holds_good (p : Option Addr) (ts : List Ty) (v : Value) (l : List Nd) (ev : Value) (es : List Bn) (w : World) (hs : Sc w w.heap.size p ts) (he : En w w.heap.size ev es) (hl : Ns w w.heap.size v l) (hg : Ty.Good l) (hli : ∀ n ∈ l, In64 n.i) (hei : EnB es) (r : Option VV) (hr : evM ts es l [] = r) :
    Calls Try.prog 34 #[.pointer p, v, ev] w fun e w' => e = .returned (.bool (holdM r)) ∧ Below w.heap.size w w' := by
  have HE := Lib.hid (eval_good p ts v l ev es w hs he hl hg hli hei)
  rw [hr] at HE
  unfold RPost at HE
  have hpos := Good.pos hg
  obtain ⟨eA, ec, rfl, _, _, _⟩ := he
  obtain ⟨A, c, rfl, hnc, hcm, _⟩ := hl
  obtain ⟨n, hn⟩ : ∃ n, l.length = n := ⟨_, rfl⟩
  rw [hn] at HE hpos ⊢
  have hn0 : ((n : Int) == 0) = false := by simp; omega
  have hn1 : ¬ n = 0 := by omega
  clear hs hg hli hei hr hn hnc
  cases r with
  | none =>
    go_enter Try.func34, Try.ntmps34
    go_wp2_with fail
    refine HE.out.mono ?_
    rintro e w1 ⟨rfl, hb1⟩
    have HB := Lib.hid hb1
    unfold VV.agg zeroV
    dsimp only [Option.getD, Option.isSome]
    clear hb1 HE
    go_wp2
    go_ret
    exact ⟨rfl, by first | exact HB.out | exact HB.out.alloc HB.out.size _⟩
  | some y =>
    obtain ⟨yk, yi, ys, yb⟩ := y
    by_cases h3 : yk = 3
    · subst h3
      go_enter Try.func34, Try.ntmps34
      go_wp2_with fail
      refine HE.out.mono ?_
      rintro e w1 ⟨rfl, hb1⟩
      have HB := Lib.hid hb1
      unfold VV.agg
      dsimp only [Option.getD, Option.isSome]
      clear hb1 HE
      go_wp2
      go_ret
      exact ⟨ret_bool (by simp [holdM]), by first | exact HB.out | exact HB.out.alloc HB.out.size _⟩
    · have h3' : (yk == 3) = false := by simpa using h3
      have HH := Lib.hid h3'
      clear h3
      go_enter Try.func34, Try.ntmps34
      go_wp2_with fail
      refine HE.out.mono ?_
      rintro e w1 ⟨rfl, hb1⟩
      have HB := Lib.hid hb1
      unfold VV.agg
      dsimp only [Option.getD, Option.isSome]
      clear hb1 HE
      go_wp2
      go_ret
      exact ⟨ret_bool (by have := HH.out; simp [holdM, this]), by first | exact HB.out | exact HB.out.alloc HB.out.size _⟩
theorem holds_nil (p : Option Addr) (ev : Value) (w : World) : Calls Try.prog 34 #[.pointer p, .slice none 0 0, ev] w fun e w' => e = .returned (.bool true) ∧ w = w' := by
  go_enter Try.func34, Try.ntmps34
  go_wp2
  go_ret
  exact ⟨rfl, rfl⟩
theorem vl_row {w : World} {g : Nat} {cs : Array Value} {L : List VV} {n : Nat} (h : Row w g 57 cs) (hc : cs.toList = vcells L) (hn : L.length = n) (hn9 : n ≤ 1000) : VL w w.heap.size (.slice (some ⟨g, 0, none⟩) n n) L := by
  subst hn
  refine ⟨_, _, rfl, Nat.le_refl _, by omega, fun k hk => ⟨g, 0, rfl, h.lt, fun j u hj => ?_⟩⟩
  have := vcells_get L k hk j u hj
  rw [← hc] at this
  rw [show (0 + k * 4 + j) = k * 4 + j by omega, h.cell]
  simpa using this
theorem en_row1 {w : World} {g : Nat} {nm ty key : ByteArray} {t q : Int} {vv : Value} {vs : List VV} (h : Row w g 51 #[.string nm, .string ty, .string key, .int .i64 t, .int .i64 q, vv]) (hv : VL w w.heap.size vv vs) : En w w.heap.size (.slice (some ⟨g, 0, none⟩) 1 1) [⟨nm, ⟨ty, key, t, q, vs⟩⟩] := by
  refine ⟨_, 1, rfl, Nat.le_refl _, by omega, fun k hk => ?_⟩
  obtain rfl : k = 0 := by simp at hk; omega
  exact ⟨g, 0, vv, rfl, h.lt, (h.cell 0).trans rfl, (h.cell 1).trans rfl, (h.cell 2).trans rfl, (h.cell 3).trans rfl, (h.cell 4).trans rfl, (h.cell 5).trans rfl, hv⟩
theorem en_row2 {w : World} {g : Nat} {n1 t1 k1 n2 t2 k2 : ByteArray} {x1 q1 x2 q2 : Int} {v1 v2 : Value} {L1 L2 : List VV} (h : Row w g 51 #[.string n1, .string t1, .string k1, .int .i64 x1, .int .i64 q1, v1, .string n2, .string t2, .string k2, .int .i64 x2, .int .i64 q2, v2]) (hv : VL w w.heap.size v1 L1) (hu : VL w w.heap.size v2 L2) : En w w.heap.size (.slice (some ⟨g, 0, none⟩) 2 2) [⟨n1, ⟨t1, k1, x1, q1, L1⟩⟩, ⟨n2, ⟨t2, k2, x2, q2, L2⟩⟩] := by
  refine ⟨_, 2, rfl, Nat.le_refl _, by omega, fun k hk => ?_⟩
  match k, hk with
  | 0, _ => exact ⟨g, 0, v1, rfl, h.lt, (h.cell 0).trans rfl, (h.cell 1).trans rfl, (h.cell 2).trans rfl, (h.cell 3).trans rfl, (h.cell 4).trans rfl, (h.cell 5).trans rfl, hv⟩
  | 1, _ => exact ⟨g, 0, v2, rfl, h.lt, (h.cell 6).trans rfl, (h.cell 7).trans rfl, (h.cell 8).trans rfl, (h.cell 9).trans rfl, (h.cell 10).trans rfl, (h.cell 11).trans rfl, hu⟩
def awE : List Bn := [⟨⟨#[97]⟩, ⟨⟨#[65]⟩, ⟨#[107]⟩, 0, 0, [⟨1, 4, ⟨#[]⟩, false⟩, ⟨2, 0, ⟨#[]⟩, false⟩]⟩⟩]
theorem awE_in : EnB awE := by
  intro b hb x hx
  simp [awE] at hb
  subst hb
  simp at hx
  rcases hx with rfl | rfl <;> exact ⟨by decide, by decide⟩
theorem awL_in : ∀ n ∈ awL, In64 n.i := by
  intro n hn
  simp [awL] at hn
  rcases hn with rfl | rfl | rfl <;> exact ⟨by decide, by decide⟩
def awW (w : World) : World := (((w.alloc (.cells #[.int .i64 2, .int .i64 0, .int .i64 0, .string ⟨#[]⟩, .bool false, .string ⟨#[97]⟩, .string ⟨#[120]⟩, .int .i64 1, .int .i64 1, .int .i64 3, .string ⟨#[]⟩, .bool false, .string ⟨#[]⟩, .string ⟨#[]⟩, .int .i64 11, .int .i64 0, .int .i64 0, .string ⟨#[]⟩, .bool false, .string ⟨#[]⟩, .string ⟨#[]⟩] 86)).alloc (.cells #[.int .i64 1, .int .i64 4, .string ⟨#[]⟩, .bool false, .int .i64 2, .int .i64 0, .string ⟨#[]⟩, .bool false] 57)).alloc (.cells #[.string ⟨#[65]⟩, .string ⟨#[107]⟩, .int .i64 0, .int .i64 0, .slice (some ⟨w.heap.size + 1, 0, none⟩) 2 2] 42)).alloc (.cells #[.string ⟨#[97]⟩, .string ⟨#[65]⟩, .string ⟨#[107]⟩, .int .i64 0, .int .i64 0, .slice (some ⟨w.heap.size + 1, 0, none⟩) 2 2] 51)
theorem aw_rows (w : World) : Below w.heap.size w (awW w) ∧ Ns (awW w) (awW w).heap.size (.slice (some ⟨w.heap.size, 0, none⟩) 3 3) awL ∧ En (awW w) (awW w).heap.size (.slice (some ⟨w.heap.size + 1 + 1 + 1, 0, none⟩) 1 1) awE := by
  refine ⟨((((Below.refl _ w).alloc (Nat.le_refl _) _).alloc (by simp) _).alloc (by simp; omega) _).alloc (by simp; omega) _, ns_row ((((Row.made w _ _).alloc _).alloc _).alloc _) rfl rfl (by decide), en_row1 ?_ (vl_row (g := w.heap.size + 1) (cs := #[.int .i64 1, .int .i64 4, .string ⟨#[]⟩, .bool false, .int .i64 2, .int .i64 0, .string ⟨#[]⟩, .bool false]) ?_ rfl rfl (by decide))⟩
  · have := Row.made (((w.alloc (.cells #[.int .i64 2, .int .i64 0, .int .i64 0, .string ⟨#[]⟩, .bool false, .string ⟨#[97]⟩, .string ⟨#[120]⟩, .int .i64 1, .int .i64 1, .int .i64 3, .string ⟨#[]⟩, .bool false, .string ⟨#[]⟩, .string ⟨#[]⟩, .int .i64 11, .int .i64 0, .int .i64 0, .string ⟨#[]⟩, .bool false, .string ⟨#[]⟩, .string ⟨#[]⟩] 86)).alloc (.cells #[.int .i64 1, .int .i64 4, .string ⟨#[]⟩, .bool false, .int .i64 2, .int .i64 0, .string ⟨#[]⟩, .bool false] 57)).alloc (.cells #[.string ⟨#[65]⟩, .string ⟨#[107]⟩, .int .i64 0, .int .i64 0, .slice (some ⟨w.heap.size + 1, 0, none⟩) 2 2] 42)) 51 #[.string ⟨#[97]⟩, .string ⟨#[65]⟩, .string ⟨#[107]⟩, .int .i64 0, .int .i64 0, .slice (some ⟨w.heap.size + 1, 0, none⟩) 2 2]
    simpa [awW] using this
  · have := ((Row.made (w.alloc (.cells #[.int .i64 2, .int .i64 0, .int .i64 0, .string ⟨#[]⟩, .bool false, .string ⟨#[97]⟩, .string ⟨#[120]⟩, .int .i64 1, .int .i64 1, .int .i64 3, .string ⟨#[]⟩, .bool false, .string ⟨#[]⟩, .string ⟨#[]⟩, .int .i64 11, .int .i64 0, .int .i64 0, .string ⟨#[]⟩, .bool false, .string ⟨#[]⟩, .string ⟨#[]⟩] 86)) 57 #[.int .i64 1, .int .i64 4, .string ⟨#[]⟩, .bool false, .int .i64 2, .int .i64 0, .string ⟨#[]⟩, .bool false]).alloc (.cells #[.string ⟨#[65]⟩, .string ⟨#[107]⟩, .int .i64 0, .int .i64 0, .slice (some ⟨w.heap.size + 1, 0, none⟩) 2 2] 42)).alloc (.cells #[.string ⟨#[97]⟩, .string ⟨#[65]⟩, .string ⟨#[107]⟩, .int .i64 0, .int .i64 0, .slice (some ⟨w.heap.size + 1, 0, none⟩) 2 2] 51)
    simpa [awW] using this
theorem evM_aw : evM typesL awE awL [] = some (trV true) := by
  have hi : idx (awE.map Bn.nm) ⟨#[97]⟩ = (0 : Nat) := by rw [idx_data]; rfl
  have hf : fldM typesL awE ⟨#[97]⟩ ⟨#[120]⟩ = some ⟨1, 4, ⟨#[]⟩, false⟩ := by
    rw [fldM_at hi rfl]
    unfold getM
    dsimp only
    rw [fieldS_Ax]
    rfl
  show (match fldM typesL awE ⟨#[97]⟩ ⟨#[120]⟩ with | none => none | some y => _) = _
  rw [hf]
  rfl
theorem evM_aw0 : evM typesL [] awL [] = none := rfl
set_option maxHeartbeats 4000000 in
theorem awake_any (w : World) : Calls Try.prog 31 #[] w fun e w' => e = .returned (.bool true) ∧ Below w.heap.size w w' := by
  go_enter Try.func31, Try.ntmps31
  go_wp2_with fail
  refine (types_any _).mono ?_
  rintro e w1 ⟨v1, rfl, ht1, hb1⟩
  have HT1 := Lib.hid ht1
  clear ht1
  go_wp2_with fail
  refine (new_any _ typesL _ _ HT1.out (Nat.le_refl _)).mono ?_
  rintro e w2 ⟨p, c, rfl, hr, hsc, _, hb2⟩
  obtain rfl := typesL_ok hr
  have HS := Lib.hid (hsc rfl)
  have HB2 := Lib.hid (hb1.trans (hb2.mono hb1.size))
  clear hb1 hb2 hr hsc
  have H := Lib.hid (aw_rows w2)
  go_wp2_with fail
  generalize hW : (((w2.alloc _).alloc _).alloc _).alloc _ = W
  rw [show awW w2 = W from hW] at H
  clear hW
  have HS3 := Lib.hid (HS.out.below H.out.1 H.out.1.size)
  have HB3 := Lib.hid (HB2.out.trans (H.out.1.mono HB2.out.size))
  refine (holds_good p typesL _ awL _ awE W HS3.out H.out.2.2 H.out.2.1 awL_good awL_in awE_in _ evM_aw).mono ?_
  rintro e w3 ⟨rfl, hb3⟩
  have HS4 := Lib.hid (HS3.out.below hb3 hb3.size)
  have HN4 := Lib.hid (H.out.2.1.below hb3 hb3.size)
  have HB4 := Lib.hid (HB3.out.trans (hb3.mono HB3.out.size))
  rw [show holdM (some (trV true)) = true from rfl]
  clear hb3 H
  go_wp2_with fail
  refine (holds_good p typesL _ awL _ [] w3 HS4.out (En.zero _ _) HN4.out awL_good awL_in (fun b hb => by cases hb) _ evM_aw0).mono ?_
  rintro e w4 ⟨rfl, hb4⟩
  have HB5 := Lib.hid (HB4.out.trans (hb4.mono HB4.out.size))
  rw [show holdM none = false from rfl]
  clear hb4
  go_wp2_with fail
  refine (holds_nil p _ _).mono ?_
  rintro e w5 ⟨rfl, rfl⟩
  go_wp2
  go_ret
  exact ⟨rfl, HB5.out⟩
end Go.Proofs.Ytopbildpeojgoaa.Evl
