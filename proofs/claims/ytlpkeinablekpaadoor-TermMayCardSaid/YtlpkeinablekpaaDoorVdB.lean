/- awake of layer 2. -/
import Derived.Test.YtlpkeinablekpaaDoorVdA
import Derived.Test.YtlpkeinablekpaaDoorEvlA
namespace Go.Proofs.YtlpkeinablekpaaDoor.Vd
open Go.RowKit Go.Proofs.YtlpkeinablekpaaDoor Go.Proofs.YtlpkeinablekpaaDoor.Door Go.Proofs.YtlpkeinablekpaaDoor.Ev Go.Proofs.YtlpkeinablekpaaDoor.Sch Go.Proofs.YtlpkeinablekpaaDoor.Evl Go.Proofs.YtlpkeinablekpaaDoor.Ty
set_option linter.unusedVariables false
set_option maxRecDepth 100000
def truthB (b : Bool) : ByteArray := if b then ⟨#[116, 114, 117, 101]⟩ else ⟨#[102, 97, 108, 115, 101]⟩
theorem ttext_any (b : Bool) (w : World) : Calls Tryd.prog 50 #[.bool b] w fun e w' => e = .returned (.string (truthB b)) ∧ w = w' := by
  cases b
  all_goals
    go_enter Tryd.func50, Tryd.ntmps50
    go_wp2
    go_ret
    exact ⟨rfl, rfl⟩
theorem show_truth (b : Bool) (i : Int) (s : ByteArray) (w : World) : Calls Tryd.prog 24 #[.agg #[.int .i64 3, .int .i64 i, .string s, .bool b]] w fun e w' => e = .returned (.string (truthB b)) ∧ Below w.heap.size w w' := by
  go_enter Tryd.func24, Tryd.ntmps24
  go_wp2_with fail
  refine (ttext_any b _).mono ?_
  rintro e w1 ⟨rfl, rfl⟩
  go_wp2
  go_ret
  exact ⟨rfl, by go_grown⟩
theorem show_text (b : Bool) (i : Int) (s : ByteArray) (w : World) (hm : ML w) (hs : s.size < 1000000) : Calls Tryd.prog 24 #[.agg #[.int .i64 2, .int .i64 i, .string s, .bool b]] w fun e w' => e = .returned (.string (quoteB s)) ∧ Below w.heap.size w w' := by
  have HM := Lib.hid hm
  have HS := Lib.hid hs
  clear hm hs
  go_enter Tryd.func24, Tryd.ntmps24
  go_wp2_with fail
  refine (quote_any s _ (HM.out.below (by go_grown)) HS.out).mono ?_
  rintro e w1 ⟨rfl, hb⟩
  have HB := Lib.hid hb
  clear hb
  go_wp2
  go_ret
  exact ⟨rfl, (show Below w.heap.size w _ from by go_grown).trans (HB.out.mono (show Below w.heap.size w _ from by go_grown).size)⟩
theorem und_of {l t : List UInt8} (h : 39 :: (l ++ [39]) = 39 :: (dbl t ++ [39])) : t = und l := by
  have h1 : l = dbl t := by simpa using h
  rw [h1, und_dbl]
theorem unq_lit (w : World) (hm : ML w) : Calls Tryd.prog 28 #[.string ⟨#[39, 105, 116, 39, 39, 115, 39]⟩] w fun e w' => e = .returned (.tuple #[.string ⟨#[105, 116, 39, 115]⟩, .bool true]) ∧ Below w.heap.size w w' :=
  (unquote_any ⟨#[39, 105, 116, 39, 39, 115, 39]⟩ w hm (by decide)).mono fun e w' ⟨hb, h⟩ => by
    rcases h with ⟨t, rfl, ht⟩ | ⟨_, hn⟩
    · have e1 : t = und [105, 116, 39, 39, 115] := und_of (l := [105, 116, 39, 39, 115]) ht
      have e2 : t = [105, 116, 39, 115] := e1.trans (by decide)
      subst e2
      exact ⟨rfl, hb⟩
    · exact absurd (show _ = 39 :: (dbl [105, 116, 39, 115] ++ [39]) by decide) (hn [105, 116, 39, 115])
theorem quo_lit (w : World) (hm : ML w) : Calls Tryd.prog 30 #[.string ⟨#[105, 116, 39, 115]⟩] w fun e w' => e = .returned (.string ⟨#[39, 105, 116, 39, 39, 115, 39]⟩) ∧ Below w.heap.size w w' :=
  (quote_any ⟨#[105, 116, 39, 115]⟩ w hm (by decide)).mono fun e w' ⟨h, hb⟩ => ⟨h.trans (by
    have : quoteB ⟨#[105, 116, 39, 115]⟩ = ⟨#[39, 105, 116, 39, 39, 115, 39]⟩ := by decide
    rw [this]), hb⟩
theorem awake02 (w : World) (hm : ML w) : Calls Tryd.prog 20 #[] w fun e w' => e = .returned (.bool true) ∧ Below w.heap.size w w' := by
  have HM := Lib.hid hm
  clear hm
  go_enter Tryd.func20, Tryd.ntmps20
  go_wp2_with fail
  refine (unq_lit _ HM.out).mono ?_
  rintro e w1 ⟨rfl, hb⟩
  have HB1 := Lib.hid hb
  clear hb
  go_wp2_with fail
  refine (vnum_any 1 _).mono ?_
  rintro e w2 ⟨rfl, hb⟩
  have HB2 := Lib.hid (HB1.out.trans (hb.mono HB1.out.size))
  clear hb
  go_wp2_with fail
  refine (vnum_any 2 _).mono ?_
  rintro e w3 ⟨rfl, hb⟩
  have HB3 := Lib.hid (HB2.out.trans (hb.mono HB2.out.size))
  clear hb
  go_wp2_with fail
  refine (vcmp_any ⟨1, 1, ⟨#[]⟩, false⟩ ⟨1, 2, ⟨#[]⟩, false⟩ _).mono ?_
  rintro e w4 ⟨rfl, hb⟩
  have HB4 := Lib.hid (HB3.out.trans (hb.mono HB3.out.size))
  have HM4 := Lib.hid (HM.out.below HB4.out)
  clear hb
  rw [show ordV ⟨1, 1, ⟨#[]⟩, false⟩ ⟨1, 2, ⟨#[]⟩, false⟩ = some (-1) from rfl]
  go_wp2_with fail
  refine (quo_lit _ HM4.out).mono ?_
  rintro e w5 ⟨rfl, hb⟩
  have HB5 := Lib.hid (HB4.out.trans (hb.mono HB4.out.size))
  clear hb
  go_wp2_with fail
  refine (vtruth_any true _).mono ?_
  rintro e w6 ⟨rfl, hb⟩
  have HB6 := Lib.hid (HB5.out.trans (hb.mono HB5.out.size))
  clear hb
  go_wp2_with fail
  refine (show_truth true 0 ⟨#[]⟩ _).mono ?_
  rintro e w7 ⟨rfl, hb⟩
  have HB7 := Lib.hid (HB6.out.trans (hb.mono HB6.out.size))
  clear hb
  rw [show truthB true = ⟨#[116, 114, 117, 101]⟩ from rfl]
  go_wp2
  go_ret
  exact ⟨rfl, HB7.out⟩
end Go.Proofs.YtlpkeinablekpaaDoor.Vd
