/- Texts between marks: Quote, Unquote. -/
import Derived.Test.YtookojgemipakaaDoorDoor
import Derived.Test.YtookojgemipakaaDoorVdQ
import Derived.Test.YtookojgemipakaaDoorKit
import Derived.Test.YtookojgemipakaaDoorMem
import Derived.Deep.DeepCutAuto
namespace Go.Proofs.YtookojgemipakaaDoor.Vd
open Go.RowKit Go.Proofs.YtookojgemipakaaDoor Go.Proofs.YtookojgemipakaaDoor.Door
set_option linter.unusedVariables false
set_option maxRecDepth 100000
def B (l : List UInt8) : ByteArray := ⟨l.toArray⟩
theorem B_data (s : ByteArray) : B s.data.toList = s := by unfold B; rw [Array.toArray_toList]
theorem B_list (l : List UInt8) : (B l).data.toList = l := by simp [B]
theorem B_size (l : List UInt8) : (B l).size = l.length := List.size_toArray
theorem B_inj {a b : List UInt8} (h : B a = B b) : a = b := by rw [← B_list a, h, B_list]
theorem size_len (s : ByteArray) : s.data.toList.length = s.size := Array.length_toList
/-- A text between marks. -/
def quoteB (s : ByteArray) : ByteArray := B (39 :: (dbl s.data.toList ++ [39]))
theorem quote_eq (s : ByteArray) : ((⟨#[39]⟩ : ByteArray) ++ B (dbl s.data.toList)) ++ ⟨#[39]⟩ = quoteB s := by
  unfold quoteB B
  apply ByteArray.ext
  apply Array.ext'
  simp
theorem rep1_any (s : ByteArray) (w : World) (hm : ML w) (hs : s.size < 1000000) :
    Calls Tryd.prog 81 #[.string s, .string ⟨#[39]⟩, .string ⟨#[39, 39]⟩] w fun e w' => e = .returned (.string (B (dbl s.data.toList))) ∧ Below w.heap.size w w' :=
  (replace_any s ⟨#[39]⟩ ⟨#[39, 39]⟩ w hm hs (by decide) (by decide)).mono fun e w' ⟨h1, h2⟩ => ⟨h1.trans (by
    show Ending.returned (.string (B (Lib.replaceAll s.data.toList [39] [39, 39]))) = _
    rw [replaceAll_Rp (by decide), rp_dbl]), h2⟩
theorem rep2_any (s : ByteArray) (w : World) (hm : ML w) (hs : s.size < 1000000) :
    Calls Tryd.prog 81 #[.string s, .string ⟨#[39, 39]⟩, .string ⟨#[39]⟩] w fun e w' => e = .returned (.string (B (und s.data.toList))) ∧ Below w.heap.size w w' :=
  (replace_any s ⟨#[39, 39]⟩ ⟨#[39]⟩ w hm hs (by decide) (by decide)).mono fun e w' ⟨h1, h2⟩ => ⟨h1.trans (by
    show Ending.returned (.string (B (Lib.replaceAll s.data.toList [39, 39] [39]))) = _
    rw [replaceAll_Rp (by decide), rp_und _ _ (Nat.le_refl _)]), h2⟩
theorem quote_any (s : ByteArray) (w : World) (hm : ML w) (hs : s.size < 1000000) :
    Calls Tryd.prog 61 #[.string s] w fun e w' => e = .returned (.string (quoteB s)) ∧ Below w.heap.size w w' := by
  have hl := dbl_len s.data.toList
  have hl2 := size_len s
  have hq := quote_eq s
  obtain ⟨D, hD⟩ : ∃ D, dbl s.data.toList = D := ⟨_, rfl⟩
  have hc := rep1_any s w hm hs
  rw [hD] at hl hq hc
  have hk : (B D).size = D.length := B_size D
  have hk2 : (B D).size ≤ 2000000 := by omega
  generalize B D = R at hq hc hk hk2
  have HQ := Lib.hid hq
  clear hl hl2 hq hk hD hm hs
  go_enter Tryd.func61, Tryd.ntmps61
  go_wp2_with fail
  refine hc.mono ?_
  rintro e w1 ⟨rfl, hb⟩
  have HB := Lib.hid hb
  clear hb hc
  have h1 : ¬ 9223372036854775807 < 1 + R.size := by omega
  have h2 : ¬ 9223372036854775807 < 1 + R.size + 1 := by omega
  go_wp2
  go_ret
  exact ⟨by rw [← HQ.out]; rfl, HB.out⟩
def UqEnd (s : ByteArray) (w : World) (e : Ending) (w' : World) : Prop := Below w.heap.size w w' ∧
  ((∃ t : List UInt8, e = .returned (.tuple #[.string (B t), .bool true]) ∧ s.data.toList = 39 :: (dbl t ++ [39])) ∨ (e = .returned (.tuple #[.string ⟨#[]⟩, .bool false]) ∧ ∀ t : List UInt8, s.data.toList ≠ 39 :: (dbl t ++ [39])))
end Go.Proofs.YtookojgemipakaaDoor.Vd
