/- awake of layer 13; the walk of the law TypingKinds. -/
import Derived.Test.YtfgnbdhnoclleaaTyK
namespace Go.Proofs.Ytfgnbdhnoclleaa.Ty
open Go.RowKit Go.Proofs.Ytfgnbdhnoclleaa Go.Proofs.Ytfgnbdhnoclleaa.Sch
set_option linter.unusedVariables false
set_option maxRecDepth 100000
theorem fieldS_Ax : fieldS typesL ⟨#[65]⟩ ⟨#[120]⟩ = (0, 1) := by
  have h1 : idx (typesL.map Prod.fst) ⟨#[65]⟩ = 0 := by rw [idx_data]; rfl
  have h2 : idx (([(sx, 1), (ss, 2)] : List Fld).map Prod.fst) ⟨#[120]⟩ = 0 := by rw [idx_data]; rfl
  unfold fieldS
  rw [h1, show typesL[(0 : Int).toNat]? = some ((⟨#[65]⟩ : ByteArray), ([(sx, 1), (ss, 2)] : List Fld)) from rfl]
  dsimp only
  rw [h2, if_neg (by decide), show ([(sx, 1), (ss, 2)] : List Fld)[(0 : Int).toNat]? = some (sx, 1) from rfl]
  rfl
theorem fieldK_aw : fieldK typesL sc0 ⟨#[97]⟩ ⟨#[120]⟩ = (1, 0) := by
  have h1 : idx (sc0.map Prod.fst) ⟨#[97]⟩ = (0 : Nat) := by rw [idx_data]; rfl
  rw [fieldK_at h1 (b := (⟨#[97]⟩, [⟨#[65]⟩])) rfl]
  dsimp only
  rw [fieldS_Ax]
  simp [ask, clF, fieldS_Ax]
theorem kindS_aw : kindS typesL sc0 awL [] = (3, 0) := by
  unfold awL kindS
  have e1 : stepK typesL sc0 [] ⟨2, 0, 0, ⟨#[]⟩, false, ⟨#[97]⟩, ⟨#[120]⟩⟩ = (1, 0) := by
    unfold stepK partK
    dsimp only
    rw [if_neg (by decide), if_pos rfl, fieldK_aw]
  rw [e1]
  rfl
set_option maxHeartbeats 1000000 in
theorem awake_any (w : World) : Calls Try.prog 33 #[] w fun e w' => e = .returned (.bool true) ∧ Below w.heap.size w w' := by
  have HKA := Lib.hid kindS_aw
  go_enter Try.func33, Try.ntmps33
  go_wp2_with fail
  refine (types_any _).mono ?_
  rintro e w1 ⟨v1, rfl, ht1, hb1⟩
  have HT1 := Lib.hid ht1
  clear ht1
  go_wp2_with fail
  refine (new_any _ typesL _ _ HT1.out (Nat.le_refl _)).mono ?_
  rintro e w2 ⟨p, c, rfl, hr, hsc, _, hb2⟩
  obtain rfl := typesL_ok hr
  have HS := Lib.hid (hsc rfl)
  have HB2 := Lib.hid (hb1.trans (hb2.mono hb1.size))
  clear hb1 hb2 hr hsc
  go_wp2_with fail
  refine (scope0_any _).mono ?_
  rintro e w3 ⟨v3, rfl, hbs, hb3⟩
  have hr3 := (Row.made w2 74 #[.int .i64 2, .int .i64 0, .int .i64 0, .string ⟨#[]⟩, .bool false, .string ⟨#[97]⟩, .string ⟨#[120]⟩, .int .i64 1, .int .i64 1, .int .i64 3, .string ⟨#[]⟩, .bool false, .string ⟨#[]⟩, .string ⟨#[]⟩, .int .i64 11, .int .i64 0, .int .i64 0, .string ⟨#[]⟩, .bool false, .string ⟨#[]⟩, .string ⟨#[]⟩]).below hb3 (by simp)
  have HNS := Lib.hid (ns_row hr3 (l := awL) rfl rfl (by decide))
  have hW3 : Below w2.heap.size w2 w3 := ((Below.refl _ w2).alloc (Nat.le_refl _) _).trans (hb3.mono (by simp))
  have HS3 := Lib.hid (HS.out.below hW3 hW3.size)
  have HB3 := Lib.hid (HB2.out.trans (hW3.mono HB2.out.size))
  have HBS := Lib.hid hbs
  clear hb3 hr3 hW3 hbs
  go_wp2_with fail
  refine (kind_any p typesL v3 sc0 _ awL _ HS3.out HBS.out HNS.out awL_good).mono ?_
  rw [HKA.out]
  rintro e w4 ⟨rfl, hb4⟩
  have HB4 := Lib.hid (HB3.out.trans (hb4.mono HB3.out.size))
  clear hb4
  go_wp2
  go_ret
  exact ⟨rfl, HB4.out⟩
/-- What the law wants. -/
def wantK (o x y : Int) : Int := if 7 ≤ o ∧ o ≤ 12 then (if x = y then 3 else 0) else if o ≤ 6 then (if x = 1 ∧ y = 1 then 1 else 0) else if x = 3 ∧ y = 3 then 3 else 0
def errK (k : Int) : Int := if k = 0 then 10 else 0
def lawL (o x y : Int) : List Nd := if partsI o = 2 then [⟨1, x, 0, ⟨#[]⟩, false, ⟨#[]⟩, ⟨#[]⟩⟩, ⟨1, y, 0, ⟨#[]⟩, false, ⟨#[]⟩, ⟨#[]⟩⟩, ⟨o, 0, 0, ⟨#[]⟩, false, ⟨#[]⟩, ⟨#[]⟩⟩] else [⟨1, x, 0, ⟨#[]⟩, false, ⟨#[]⟩, ⟨#[]⟩⟩, ⟨o, 0, 0, ⟨#[]⟩, false, ⟨#[]⟩, ⟨#[]⟩⟩]
theorem law_parts (o : Int) (h1 : 3 ≤ o) (h2 : o ≤ 15) : (partsI o = 1 ∧ (o = 3 ∨ o = 13)) ∨ (partsI o = 2 ∧ ¬ (o = 3 ∨ o = 13)) := by
  unfold partsI
  rw [if_neg (by omega)]
  by_cases h : o = 3 ∨ o = 13
  · rw [if_pos h]; exact .inl ⟨rfl, h⟩
  · rw [if_neg h, if_pos (by omega)]; exact .inr ⟨rfl, h⟩
theorem ask_end (ts : List Ty) (bs : List Bd) (k : Int) (so : Bool) : (if (ask k so).2 = 0 then kindS ts bs [] [(ask k so).1] else (0, (ask k so).2)) = ask k so := by
  cases so
  · rfl
  · rfl
theorem opK_ask (o : Int) (L : List Int) : ∃ k so, opK o L = ask k so := by
  unfold opK
  split
  · exact ⟨_, _, rfl⟩
  · split
    · exact ⟨_, _, rfl⟩
    · exact ⟨_, _, rfl⟩
theorem law_kind (ts : List Ty) (bs : List Bd) (o x y : Int) (h1 : 3 ≤ o) (h2 : o ≤ 15) : kindS ts bs (lawL o x y) [] = opK o (if partsI o = 2 then [x, y] else [x]) := by
  have hp : ∀ L, partK ts bs ⟨o, 0, 0, ⟨#[]⟩, false, ⟨#[]⟩, ⟨#[]⟩⟩ L = opK o L := fun L => by
    unfold partK
    dsimp only
    rw [if_neg (by omega), if_neg (by omega)]
  have hc : ∀ k st, stepK ts bs st ⟨1, k, 0, ⟨#[]⟩, false, ⟨#[]⟩, ⟨#[]⟩⟩ = (k, 0) := fun k st => rfl
  have h10 : partsI 1 = 0 := by decide
  rcases law_parts o h1 h2 with ⟨hq, _⟩ | ⟨hq, _⟩
  · unfold lawL
    rw [if_neg (by omega), if_neg (by omega)]
    have e2 : stepK ts bs [x] ⟨o, 0, 0, ⟨#[]⟩, false, ⟨#[]⟩, ⟨#[]⟩⟩ = opK o [x] := by
      unfold stepK
      rw [hp, hq]
      rfl
    unfold kindS
    rw [hc]
    dsimp only
    rw [if_pos rfl, h10]
    unfold kindS
    show (if (stepK ts bs [x] _).2 = 0 then kindS ts bs [] (List.take ([x].length - (partsI o).toNat) [x] ++ [(stepK ts bs [x] _).1]) else (0, (stepK ts bs [x] _).2)) = _
    rw [e2, hq]
    obtain ⟨k, so, e⟩ := opK_ask o [x]
    rw [e]
    exact ask_end ts bs k so
  · unfold lawL
    rw [if_pos hq, if_pos hq]
    have e2 : stepK ts bs [x, y] ⟨o, 0, 0, ⟨#[]⟩, false, ⟨#[]⟩, ⟨#[]⟩⟩ = opK o [x, y] := by
      unfold stepK
      rw [hp, hq]
      rfl
    unfold kindS
    rw [hc]
    dsimp only
    rw [if_pos rfl, h10]
    unfold kindS
    rw [hc]
    dsimp only
    rw [if_pos rfl, h10]
    unfold kindS
    show (if (stepK ts bs [x, y] _).2 = 0 then kindS ts bs [] (List.take ([x, y].length - (partsI o).toNat) [x, y] ++ [(stepK ts bs [x, y] _).1]) else (0, (stepK ts bs [x, y] _).2)) = _
    rw [e2, hq]
    obtain ⟨k, so, e⟩ := opK_ask o [x, y]
    rw [e]
    exact ask_end ts bs k so
theorem law_want (o x y : Int) (h1 : 3 ≤ o) (h2 : o ≤ 15) (hxy : ¬ partsI o = 2 → y = x) : opK o (if partsI o = 2 then [x, y] else [x]) = (wantK o x y, errK (wantK o x y)) := by
  have hE : ∀ (k : Int) (so : Bool) (r : Int), k ≠ 0 → (so = true → r = k) → (so = false → r = 0) → ask k so = (r, errK r) := fun k so r hk ht hf => by
    cases so
    · rw [hf rfl]; rfl
    · rw [ht rfl]
      unfold ask errK
      rw [if_pos rfl, if_neg hk]
  rcases law_parts o h1 h2 with ⟨hq, hqo⟩ | ⟨hq, hqo⟩
  · have : y = x := hxy (by omega)
    subst this
    rw [if_neg (by omega)]
    unfold opK wantK
    rcases hqo with rfl | rfl
    · rw [if_pos (by omega)]
      refine hE _ _ _ (by decide) (fun h => ?_) (fun h => ?_)
      · simp at h; simp [h]
      · simp at h; simp [h]
    · rw [if_neg (by omega), if_pos (by omega)]
      refine hE _ _ _ (by decide) (fun h => ?_) (fun h => ?_)
      · simp at h; simp [h]
      · simp at h; simp [h]
  · rw [if_pos hq]
    unfold opK wantK
    by_cases h6 : o ≤ 6
    · rw [if_pos h6, if_neg (by omega), if_pos h6]
      refine hE _ _ _ (by decide) (fun h => ?_) (fun h => ?_)
      · simp at h; rw [if_pos h]
      · rw [if_neg (fun g => by simp [g] at h)]
    · rw [if_neg h6]
      by_cases h13 : 13 ≤ o
      · rw [if_pos h13, if_neg (by omega), if_neg h6]
        refine hE _ _ _ (by decide) (fun h => ?_) (fun h => ?_)
        · simp at h; rw [if_pos h]
        · rw [if_neg (fun g => by simp [g] at h)]
      · rw [if_neg h13, if_pos (by omega)]
        refine hE _ _ _ (by decide) (fun h => ?_) (fun h => ?_)
        · simp at h; rw [if_pos h.symm]
        · rw [if_neg (fun g => by simp [g] at h)]
end Go.Proofs.Ytfgnbdhnoclleaa.Ty
