/- The contract of num.Parse: which texts are numbers, and of which. -/
import Derived.Test.YtlpkeinablekpaaDoorNumPlainF
import Derived.Test.YtlpkeinablekpaaDoorNumSigned
import Derived.Lib.Bytes
import Derived.Lib.Strings
namespace Go.Proofs.YtlpkeinablekpaaDoor.Num
open Go.RowKit Go.Proofs.YtlpkeinablekpaaDoor
set_option maxRecDepth 100000

/-- What stands behind a text's '-', if it has one. -/
def dOf (s : ByteArray) : ByteArray := ⟨(Lib.trimPrefix s.data.toList [45]).toArray⟩
def belowB (s : ByteArray) : Bool := Lib.hasPrefix s.data.toList [45]
theorem dOf_list (s : ByteArray) : (dOf s).data.toList = Lib.trimPrefix s.data.toList [45] := by simp [dOf]
theorem dOf_size (s : ByteArray) : (dOf s).size ≤ s.size := by
  have h : (dOf s).size = (Lib.trimPrefix s.data.toList [45]).length := by simp [dOf, ByteArray.size]
  have h2 : s.size = s.data.toList.length := by simp
  rw [h, h2]
  unfold Lib.trimPrefix
  split
  · simp
  · exact Nat.le_refl _
theorem data_of {s : ByteArray} {l : List UInt8} (h : s.data.toList = l) : s = ⟨l.toArray⟩ := ByteArray.ext (Array.ext' (by rw [h]))
theorem has_any (s : ByteArray) (w : World) :
    Calls Tryd.prog 101 #[.string s, .string ⟨#[45]⟩] w fun e w' => e = .returned (.bool (belowB s)) ∧ w = w' := by
  have hl : s.data.toList.length = s.size := Array.length_toList
  have hb : belowB s = Lib.hasPrefix s.data.toList [45] := rfl
  cases hd : s.data.toList with
  | nil =>
    have h0 : s.size = 0 := by rw [← hl, hd]; rfl
    have hb2 : belowB s = false := by rw [hb, hd]; rfl
    have h1 : decide ((1 : Int) ≤ (s.size : Int)) = false := decide_eq_false (by omega)
    have h2 : ¬ (1 : Int) ≤ (s.size : Int) := by omega
    have HB := Lib.hid hb2
    clear hb hb2 hd hl h0
    go_enter Tryd.func101, Tryd.ntmps101
    go_wp2
    go_ret
    exact ⟨by rw [HB.out]; rfl, rfl⟩
  | cons c r =>
    have h0 : s.size = r.length + 1 := by rw [← hl, hd]; rfl
    have h1 : decide ((1 : Int) ≤ (s.size : Int)) = true := decide_eq_true (by omega)
    have h2 : (1 : Int) ≤ (s.size : Int) := by omega
    have hx : s.extract 0 1 = ⟨#[c]⟩ := by
      rw [data_of hd]
      apply ByteArray.ext
      apply Array.ext'
      rw [ByteArray.data_extract, Array.toList_extract]
      simp [List.extract]
    have hb2 : belowB s = (c == 45) := by
      have e2 : ((45 : UInt8) == c) = (c == 45) := by
        by_cases e : c = 45
        · subst e; rfl
        · rw [beq_eq_false_iff_ne.2 e, beq_eq_false_iff_ne.2 (Ne.symm e)]
      rw [hb, hd]
      show ((45 : UInt8) == c && List.isPrefixOf [] r) = _
      rw [e2]
      simp
    have hsl := run_slice_string_h (P := Tryd.prog) (w := w) 9 s Tryd.underlying9 .i64 1 (by omega) h2
    rw [show s.extract 0 (1 : Int).toNat = s.extract 0 1 from rfl, hx] at hsl
    have HB := Lib.hid hb2
    clear hb hb2 hd hl h0 hx
    go_enter Tryd.func101, Tryd.ntmps101
    go_wp2
    go_ret
    exact ⟨by rw [HB.out]; rfl, rfl⟩
theorem cut_any (s : ByteArray) (w : World) :
    Calls Tryd.prog 82 #[.string s, .string ⟨#[45]⟩] w fun e w' => e = .returned (.tuple #[.string (dOf s), .bool (belowB s)]) ∧ w = w' := by
  have hl : s.data.toList.length = s.size := Array.length_toList
  cases hb : belowB s with
  | false =>
    have hd : dOf s = s := by
      unfold dOf Lib.trimPrefix
      rw [show Lib.hasPrefix s.data.toList [45] = false from hb]
      exact (data_of rfl).symm
    have HB := Lib.hid hb
    rw [hd]
    clear hb hd hl
    go_enter Tryd.func82, Tryd.ntmps82
    go_wp2_with (first | (go_at_call 101; refine (has_any s _).mono ?_; rw [HB.out]; rintro e w1 ⟨rfl, rfl⟩) | go_in)
    go_ret2
    exact ⟨rfl, rfl⟩
  | true =>
    have hlen : 1 ≤ s.size := by
      rw [← hl]
      have : Lib.hasPrefix s.data.toList [45] = true := hb
      cases hx : s.data.toList with
      | nil => rw [hx] at this; cases this
      | cons => simp
    have hd : s.extract 1 s.size = dOf s := by
      unfold dOf Lib.trimPrefix
      rw [show Lib.hasPrefix s.data.toList [45] = true from hb]
      apply ByteArray.ext
      apply Array.ext'
      rw [ByteArray.data_extract, Array.toList_extract]
      show (s.data.toList.drop 1).take (s.size - 1) = (if true = true then s.data.toList.drop [(45 : UInt8)].length else s.data.toList).toArray.toList
      rw [List.take_of_length_le (by rw [List.length_drop, hl]; exact Nat.le_refl _), if_pos rfl]
      rfl
    have hsl := run_slice_string_l (P := Tryd.prog) (w := w) 9 s Tryd.underlying9 .i64 1 (by omega) (by omega)
    rw [show s.extract (1 : Int).toNat s.size = s.extract 1 s.size from rfl, hd] at hsl
    have HB := Lib.hid hb
    clear hb hd hl hlen
    go_enter Tryd.func82, Tryd.ntmps82
    go_wp2_with (first | (go_at_call 101; refine (has_any s _).mono ?_; rw [HB.out]; rintro e w1 ⟨rfl, rfl⟩) | go_in)
    go_ret2
    exact ⟨rfl, rfl⟩
def goodB (s : ByteArray) : Bool := plainB (dOf s).data.toList && !(belowB s && decide ((dOf s).data.toList = [48]))
def parseV (s : ByteArray) : Int := if goodB s then sgnV (val (dOf s).data.toList) (belowB s) else 0
def parseB (s : ByteArray) : Bool := if goodB s then sgnB (val (dOf s).data.toList) (belowB s) else false
def Parses (s : ByteArray) (w : World) (e : Ending) (w' : World) : Prop := e = .returned (.tuple #[.int .i64 (parseV s), .bool (parseB s)]) ∧ w = w'
theorem parse_no {s : ByteArray} {w : World} (h : goodB s = false) : Parses s w (.returned (.tuple #[.int .i64 0, .bool false])) w := by
  unfold Parses parseV parseB; rw [h]; exact ⟨rfl, rfl⟩
theorem parse_yes {s : ByteArray} {w : World} (h : goodB s = true) : Parses s w (.returned (.tuple #[.int .i64 (sgnV (val (dOf s).data.toList) (belowB s)), .bool (sgnB (val (dOf s).data.toList) (belowB s))])) w := by
  unfold Parses parseV parseB; rw [h]; exact ⟨rfl, rfl⟩
theorem good_plain {s : ByteArray} (h : plainB (dOf s).data.toList = false) : goodB s = false := by unfold goodB; rw [h]; rfl
theorem good_zero {s : ByteArray} (h : belowB s = true) (g : (dOf s).data.toList = [48]) : goodB s = false := by unfold goodB; rw [h, g]; rfl
theorem good_yes {s : ByteArray} (h : plainB (dOf s).data.toList = true) (g : belowB s = false ∨ (dOf s).data.toList ≠ [48]) : goodB s = true := by
  unfold goodB; rw [h]
  rcases g with g | g
  · rw [g]; rfl
  · simp [g]
theorem plainB_all {l : List UInt8} (h : plainB l = true) : l.all isD = true ∧ l ≠ [] ∧ l.length ≤ 19 ∧ (l.length ≤ 1 ∨ l.head? ≠ some 48) := by
  unfold plainB at h
  simp only [Bool.and_eq_true, decide_eq_true_eq] at h
  exact ⟨h.1.1.1, h.1.1.2, h.1.2, h.2⟩
theorem all_at {l : List UInt8} (h : l.all isD = true) {k : Nat} (hk : k < l.length) : 48 ≤ l[k].toNat ∧ l[k].toNat ≤ 57 := by
  have := List.all_eq_true.1 h l[k] (List.getElem_mem hk)
  simpa [isD] using this
theorem val_take_lt {l : List UInt8} (h : l.all isD = true) {k : Nat} (h19 : k ≤ 19) : val (l.take k) < 10000000000000000000 := by
  have h1 : (l.take k).all isD = true := List.all_eq_true.2 fun x hx => List.all_eq_true.1 h x (List.mem_of_mem_take hx)
  have h2 := val_lt _ h1
  have h3 : (l.take k).length ≤ 19 := Nat.le_trans (List.length_take_le _ _) h19
  exact Nat.lt_of_lt_of_le h2 (Nat.pow_le_pow_right (by omega) h3)
theorem val_take_small {l : List UInt8} (h : l.all isD = true) {k : Nat} (h18 : k ≤ 18) : val (l.take k) < 1000000000000000000 := by
  have h1 : (l.take k).all isD = true := List.all_eq_true.2 fun x hx => List.all_eq_true.1 h x (List.mem_of_mem_take hx)
  have h2 := val_lt _ h1
  have h3 : (l.take k).length ≤ 18 := Nat.le_trans (List.length_take_le _ _) h18
  exact Nat.lt_of_lt_of_le h2 (Nat.pow_le_pow_right (by omega) h3)
theorem parse_yes' {s : ByteArray} {w : World} {b : Bool} (h : goodB s = true) (hb : belowB s = b) : Parses s w (.returned (.tuple #[.int .i64 (sgnV (val (dOf s).data.toList) b), .bool (sgnB (val (dOf s).data.toList) b)])) w := by
  subst hb; exact parse_yes h
set_option maxHeartbeats 800000 in
theorem parse_any (s : ByteArray) (w : World) (hs : s.size ≤ 9223372036854775807) :
    Calls Tryd.prog 67 #[.string s] w (Parses s w) := by
  have hd := dOf_size s
  by_cases h0 : plainB (dOf s).data.toList = true
  · obtain ⟨ha', _, h19', _⟩ := plainB_all h0
    have HL := Lib.hid (show (dOf s).data.toList.length = (dOf s).size from by simp)
    have h19 : (dOf s).size ≤ 19 := by have := HL.out; omega
    have ha := Lib.hid ha'
    clear ha' h19'
    by_cases hb : belowB s = true
    · by_cases hz : (dOf s).data.toList = [48]
      · have hz2 : ((dOf s).toList == [48]) = true := by rw [toList_data, hz]; rfl
        have hg := Lib.hid (good_zero hb hz)
        clear hz ha HL
        go_enter Tryd.func67, Tryd.ntmps67
        go_wp2_with (first
          | (go_at_call 82; refine (cut_any _ _).mono ?_; rintro e w' ⟨rfl, rfl⟩)
          | (go_at_call 83; refine (plain_any _ _ (by omega)).mono ?_; rintro e w' ⟨rfl, rfl⟩))
        go_ret2
        exact parse_no hg.out
      · have hz2 : ((dOf s).toList == [48]) = false := by rw [toList_data]; simpa using hz
        have hgood := Lib.hid (good_yes h0 (.inr hz))
        clear hz
        go_enter Tryd.func67, Tryd.ntmps67
        go_wp2_with (first
          | (go_at_call 82; refine (cut_any _ _).mono ?_; rintro e w' ⟨rfl, rfl⟩)
          | (go_at_call 83; refine (plain_any _ _ (by omega)).mono ?_; rintro e w' ⟨rfl, rfl⟩))
        go_loop [6, 25] (fun n i => ∃ k : Nat, k ≤ (dOf s).size ∧ i = .int .i64 k ∧ n = .int .u64 (val ((dOf s).data.toList.take k))) (fun _ i => (dOf s).size - (intOf i).toNat)
        case atStart => exact ⟨0, by omega, rfl, rfl⟩
        case round =>
          obtain ⟨k, hk, rfl, rfl⟩ := hrel
          by_cases hlt : k < (dOf s).size
          · have hv := val_take_small ha.out (k := k) (by omega)
            have hc := all_at ha.out (k := k) (by rw [HL.out]; exact hlt)
            rw [sd (dOf s) k hlt] at hc
            obtain ⟨c0, c1⟩ := hc
            have HV : Hid (val ((dOf s).data.toList.take (k + 1)) = val ((dOf s).data.toList.take k) * 10 + ((dOf s)[k].toNat - 48)) := by
              rw [take_snoc (dOf s) k hlt, val_snoc]; rfl
            go_wp2
            go_round
            case rel => exact ⟨k + 1, by omega, by go_num, ret_u64 HV.out c0⟩
            case measure => simp [intOf]; omega
          · have hk' : k = (dOf s).size := by omega
            subst hk'
            clear hlt
            have hv := val_take_lt ha.out (k := (dOf s).size) h19
            go_wp2_with (go_at_call 84; refine (signed_any _ _ _ (by omega)).mono ?_; rintro e w' ⟨rfl, rfl⟩)
            go_ret2
            rw [take_all (dOf s)]
            exact parse_yes' hgood.out hb
    · have hb' : belowB s = false := by simpa using hb
      clear hb
      have hb := hb'
      clear hb'
      have hgood := Lib.hid (good_yes h0 (.inl hb))
      go_enter Tryd.func67, Tryd.ntmps67
      go_wp2_with (first
        | (go_at_call 82; refine (cut_any _ _).mono ?_; rintro e w' ⟨rfl, rfl⟩)
        | (go_at_call 83; refine (plain_any _ _ (by omega)).mono ?_; rintro e w' ⟨rfl, rfl⟩))
      go_loop [6, 25] (fun n i => ∃ k : Nat, k ≤ (dOf s).size ∧ i = .int .i64 k ∧ n = .int .u64 (val ((dOf s).data.toList.take k))) (fun _ i => (dOf s).size - (intOf i).toNat)
      case atStart => exact ⟨0, by omega, rfl, rfl⟩
      case round =>
        obtain ⟨k, hk, rfl, rfl⟩ := hrel
        by_cases hlt : k < (dOf s).size
        · have hv := val_take_small ha.out (k := k) (by omega)
          have hc := all_at ha.out (k := k) (by rw [HL.out]; exact hlt)
          rw [sd (dOf s) k hlt] at hc
          obtain ⟨c0, c1⟩ := hc
          have HV : Hid (val ((dOf s).data.toList.take (k + 1)) = val ((dOf s).data.toList.take k) * 10 + ((dOf s)[k].toNat - 48)) := by
            rw [take_snoc (dOf s) k hlt, val_snoc]; rfl
          go_wp2
          go_round
          case rel => exact ⟨k + 1, by omega, by go_num, ret_u64 HV.out c0⟩
          case measure => simp [intOf]; omega
        · have hk' : k = (dOf s).size := by omega
          subst hk'
          clear hlt
          have hv := val_take_lt ha.out (k := (dOf s).size) h19
          go_wp2_with (go_at_call 84; refine (signed_any _ _ _ (by omega)).mono ?_; rintro e w' ⟨rfl, rfl⟩)
          go_ret2
          rw [take_all (dOf s)]
          exact parse_yes' hgood.out hb
  · have h0' : plainB (dOf s).data.toList = false := by simpa using h0
    clear h0
    go_enter Tryd.func67, Tryd.ntmps67
    go_wp2_with (first
      | (go_at_call 82; refine (cut_any _ _).mono ?_; rintro e w' ⟨rfl, rfl⟩)
      | (go_at_call 83; refine (plain_any _ _ (by omega)).mono ?_; rintro e w' ⟨rfl, rfl⟩))
    go_ret2
    exact parse_no (good_plain h0')
end Go.Proofs.YtlpkeinablekpaaDoor.Num
