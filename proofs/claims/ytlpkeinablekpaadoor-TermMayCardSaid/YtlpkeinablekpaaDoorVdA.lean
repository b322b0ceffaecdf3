/- Texts between marks: Quote, Unquote. -/
import Derived.Test.YtlpkeinablekpaaDoorDoor
import Derived.Test.YtlpkeinablekpaaDoorVdQ
import Derived.Test.YtlpkeinablekpaaDoorKit
import Derived.Test.YtlpkeinablekpaaDoorMem
import Derived.Deep.DeepCutAuto
namespace Go.Proofs.YtlpkeinablekpaaDoor.Vd
open Go.RowKit Go.Proofs.YtlpkeinablekpaaDoor Go.Proofs.YtlpkeinablekpaaDoor.Door
set_option linter.unusedVariables false
set_option maxRecDepth 100000
def B (l : List UInt8) : ByteArray := ⟨l.toArray⟩
theorem B_data (s : ByteArray) : B s.data.toList = s := by unfold B; rw [Array.toArray_toList]
theorem B_list (l : List UInt8) : (B l).data.toList = l := by simp [B]
theorem B_size (l : List UInt8) : (B l).size = l.length := List.size_toArray
theorem B_inj {a b : List UInt8} (h : B a = B b) : a = b := by rw [← B_list a, h, B_list]
theorem size_len (s : ByteArray) : s.data.toList.length = s.size := Array.length_toList
/-- A text between marks. -/
def quoteB (s : ByteArray) : ByteArray := B (39 :: (dbl s.data.toList ++ [39]))
theorem quote_eq (s : ByteArray) : ((⟨#[39]⟩ : ByteArray) ++ B (dbl s.data.toList)) ++ ⟨#[39]⟩ = quoteB s := by
  unfold quoteB B
  apply ByteArray.ext
  apply Array.ext'
  simp
theorem rep1_any (s : ByteArray) (w : World) (hm : ML w) (hs : s.size < 1000000) :
    Calls Tryd.prog 52 #[.string s, .string ⟨#[39]⟩, .string ⟨#[39, 39]⟩] w fun e w' => e = .returned (.string (B (dbl s.data.toList))) ∧ Below w.heap.size w w' :=
  (replace_any s ⟨#[39]⟩ ⟨#[39, 39]⟩ w hm hs (by decide) (by decide)).mono fun e w' ⟨h1, h2⟩ => ⟨h1.trans (by
    show Ending.returned (.string (B (Lib.replaceAll s.data.toList [39] [39, 39]))) = _
    rw [replaceAll_Rp (by decide), rp_dbl]), h2⟩
theorem rep2_any (s : ByteArray) (w : World) (hm : ML w) (hs : s.size < 1000000) :
    Calls Tryd.prog 52 #[.string s, .string ⟨#[39, 39]⟩, .string ⟨#[39]⟩] w fun e w' => e = .returned (.string (B (und s.data.toList))) ∧ Below w.heap.size w w' :=
  (replace_any s ⟨#[39, 39]⟩ ⟨#[39]⟩ w hm hs (by decide) (by decide)).mono fun e w' ⟨h1, h2⟩ => ⟨h1.trans (by
    show Ending.returned (.string (B (Lib.replaceAll s.data.toList [39, 39] [39]))) = _
    rw [replaceAll_Rp (by decide), rp_und _ _ (Nat.le_refl _)]), h2⟩
theorem quote_any (s : ByteArray) (w : World) (hm : ML w) (hs : s.size < 1000000) :
    Calls Tryd.prog 30 #[.string s] w fun e w' => e = .returned (.string (quoteB s)) ∧ Below w.heap.size w w' := by
  have hl := dbl_len s.data.toList
  have hl2 := size_len s
  have hq := quote_eq s
  obtain ⟨D, hD⟩ : ∃ D, dbl s.data.toList = D := ⟨_, rfl⟩
  have hc := rep1_any s w hm hs
  rw [hD] at hl hq hc
  have hk : (B D).size = D.length := B_size D
  have hk2 : (B D).size ≤ 2000000 := by omega
  generalize B D = R at hq hc hk hk2
  have HQ := Lib.hid hq
  clear hl hl2 hq hk hD hm hs
  go_enter Tryd.func30, Tryd.ntmps30
  go_wp2_with fail
  refine hc.mono ?_
  rintro e w1 ⟨rfl, hb⟩
  have HB := Lib.hid hb
  clear hb hc
  have h1 : ¬ 9223372036854775807 < 1 + R.size := by omega
  have h2 : ¬ 9223372036854775807 < 1 + R.size + 1 := by omega
  go_wp2
  go_ret
  exact ⟨by rw [← HQ.out]; rfl, HB.out⟩
def UqEnd (s : ByteArray) (w : World) (e : Ending) (w' : World) : Prop := Below w.heap.size w w' ∧
  ((∃ t : List UInt8, e = .returned (.tuple #[.string (B t), .bool true]) ∧ s.data.toList = 39 :: (dbl t ++ [39])) ∨ (e = .returned (.tuple #[.string ⟨#[]⟩, .bool false]) ∧ ∀ t : List UInt8, s.data.toList ≠ 39 :: (dbl t ++ [39])))
/-- Whatever the text: it is that of a text between marks, or none's. -/
theorem unquote_any (s : ByteArray) (w : World) (hm : ML w) (hs : s.size < 500000) :
    Calls Tryd.prog 28 #[.string s] w (UqEnd s w) := by
  have hl2 := size_len s
  have HL2 := Lib.hid hl2
  clear hl2
  have HM := Lib.hid hm
  have HS := Lib.hid hs
  clear hm
  go_enter Tryd.func28, Tryd.ntmps28
  by_cases h2 : s.size < 2
  · have h3 : (s.size : Int) < 2 := by omega
    go_wp2
    go_ret2
    refine ⟨Below.refl _ _, .inr ⟨rfl, fun t e => ?_⟩⟩
    have := congrArg List.length e
    simp at this
    have := HL2.out
    omega
  · have h3 : ¬ (s.size : Int) < 2 := by omega
    have hw : IntKind.i64.wrap ((s.size : Int) - 1) = ((s.size - 1 : Nat) : Int) := by rw [IntKind.wrap_i64]; omega
    have hlo : (0 : Int) ≤ 1 := by omega
    have hmid : (1 : Int) ≤ ((s.size - 1 : Nat) : Int) := by omega
    have hhi : ((s.size - 1 : Nat) : Int) ≤ (s.size : Int) := by omega
    have hsl := run_slice_string (P := Tryd.prog) w 9 s .i64 .i64 1 ((s.size - 1 : Nat) : Int) Tryd.underlying9 (by omega) hmid hhi
    obtain ⟨x, hx⟩ : ∃ x : ByteArray, s.extract (1 : Int).toNat (((s.size - 1 : Nat) : Int)).toNat = x := ⟨_, rfl⟩
    have HX := Lib.hid hx
    have hxs : x.size < 1000000 := by
      rw [← hx, ByteArray.size_extract]
      omega
    have HXS := Lib.hid hxs
    rw [hx] at hsl
    clear hx hxs hs
    go_wp2_with fail
    refine (rep2_any x _ HM.out HXS.out).mono ?_
    rintro e w1 ⟨rfl, hb⟩
    have HM1 := Lib.hid (HM.out.below hb)
    have HB1 := Lib.hid hb
    have hul := und_len _ x.data.toList (Nat.le_refl _)
    have hxl := size_len x
    obtain ⟨u, hu⟩ : ∃ u, B (und x.data.toList) = u := ⟨_, rfl⟩
    have hus : u.size < 1000000 := by rw [← hu, B_size]; have := HXS.out; omega
    have HU := Lib.hid hu
    have HUS := Lib.hid hus
    rw [hu]
    clear hu hus hul hxl hb hsl hlo hmid hhi
    go_wp2_with fail
    refine (quote_any u _ HM1.out HUS.out).mono ?_
    rintro e w2 ⟨rfl, hb⟩
    have HB2 := Lib.hid (HB1.out.trans (hb.mono HB1.out.size))
    clear hb
    by_cases he : quoteB u = s
    · have he2 : (!((quoteB u).toList == s.toList)) = false := by rw [he]; simp
      have HE := Lib.hid he
      clear he
      go_wp2
      go_ret2
      refine ⟨HB2.out, .inl ⟨u.data.toList, by rw [B_data]; rfl, ?_⟩⟩
      rw [← HE.out, quoteB, B_list]
    · have he2 : ((quoteB u).toList == s.toList) = false := by
        rw [beq_eq_false_iff_ne]
        intro e
        apply he
        rw [Go.Lib.toList_data, Go.Lib.toList_data] at e
        exact ByteArray.ext (Array.ext' e)
      have HE := Lib.hid he
      clear he
      go_wp2
      go_ret2
      refine ⟨HB2.out, .inr ⟨rfl, fun t ht => HE.out ?_⟩⟩
      have hs : s = B (39 :: (dbl t ++ [39])) := by rw [← ht, B_data]
      have hss : s.size = (dbl t).length + 2 := by rw [hs, B_size]; simp
      have hxd : x.data.toList = dbl t := by
        rw [← HX.out, ByteArray.data_extract, Array.toList_extract, ht, hss]
        simp [List.extract]
      rw [← HU.out, hxd, und_dbl, hs]
      unfold quoteB
      rw [B_list]
end Go.Proofs.YtlpkeinablekpaaDoor.Vd
