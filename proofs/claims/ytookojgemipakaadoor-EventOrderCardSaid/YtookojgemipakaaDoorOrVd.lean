/- What replacing marks by two, and two by one, comes to: plain mathematics. -/
import Derived.Lib.ReplaceLaws
import Derived.Lib.CountLaws
import Derived.Lib.IndexMore
import Derived.Test.YtookojgemipakaaDoorDoor
import Derived.Test.YtookojgemipakaaDoorKit
import Derived.Test.YtookojgemipakaaDoorMem
import Derived.Deep.DeepCutAuto
import Derived.Test.YtookojgemipakaaDoorOrEvl
import Derived.Lib.Bytes
import Derived.Lib.Strings
namespace Go.Proofs.YtookojgemipakaaDoor.Vd
set_option linter.unusedVariables false
open Go.Lib
/-- All instances replaced. -/
def Rp (old new s : List UInt8) : List UInt8 := replaceK old new (count s old) s
theorem replaceAll_Rp {old new : List UInt8} (h : old ≠ new) (s : List UInt8) : replaceAll s old new = Rp old new s := by
  have hb : (old == new) = false := beq_eq_false_iff_ne.2 h
  unfold replaceAll replace Rp replaceNum
  rw [hb, if_neg (by simp), if_pos (by omega)]
theorem Rp_nil {old new : List UInt8} (h : old ≠ []) : Rp old new [] = [] := by
  have hi : index [] old = -1 := by
    unfold index
    cases old with
    | nil => exact absurd rfl h
    | cons => rfl
  unfold Rp
  rw [count_miss hi]
  rfl
theorem Rp_hit {old new s : List UInt8} (h : old ≠ []) (hp : old.isPrefixOf s = true) : Rp old new s = new ++ Rp old new (s.drop old.length) := by
  have hi : index s old = (0 : Nat) := by
    cases s with
    | nil => cases old with
      | nil => exact absurd rfl h
      | cons => cases hp
    | cons b l => unfold index; rw [if_pos hp]; rfl
  unfold Rp
  rw [count_hit h hi, Nat.add_comm 1, replaceK_hit old new _ s 0 hi]
  simp
theorem Rp_miss {old new : List UInt8} {c : UInt8} {s : List UInt8} (h : old ≠ []) (hp : old.isPrefixOf (c :: s) = false) : Rp old new (c :: s) = c :: Rp old new s := by
  have hx : index (c :: s) old = if index s old == -1 then -1 else index s old + 1 := by
    conv => lhs; unfold index
    rw [hp]
    rfl
  rcases index_spec s old with ⟨hm, _⟩ | ⟨i, hi, _, _, _⟩
  · have h1 : index (c :: s) old = -1 := by rw [hx, hm]; rfl
    unfold Rp
    rw [count_miss h1, count_miss hm]
    rfl
  · have h1 : index (c :: s) old = ((i + 1 : Nat) : Int) := by
      rw [hx, hi, if_neg (by rw [beq_iff_eq]; omega)]
      omega
    unfold Rp
    rw [count_hit h h1, count_hit h hi, Nat.add_comm 1, replaceK_hit old new _ _ _ h1, Nat.add_comm 1, replaceK_hit old new _ _ _ hi]
    rw [show i + 1 + old.length = (i + old.length) + 1 by omega]
    simp
/-- Each mark twice. -/
def dbl : List UInt8 → List UInt8
  | [] => []
  | c :: r => if c = 39 then 39 :: 39 :: dbl r else c :: dbl r
/-- Of two marks one. -/
def und : List UInt8 → List UInt8
  | 39 :: 39 :: r => 39 :: und r
  | c :: r => c :: und r
  | [] => []
theorem rp_dbl : ∀ s : List UInt8, Rp [39] [39, 39] s = dbl s
  | [] => Rp_nil (by decide)
  | c :: r => by
    by_cases h : c = 39
    · subst h
      rw [Rp_hit (by decide) rfl]
      have := rp_dbl r
      simp [dbl, this]
    · rw [Rp_miss (by decide) (by simp [List.isPrefixOf]; exact fun e => h e.symm), rp_dbl r]
      simp [dbl, h]
theorem rp_und : ∀ (n : Nat) (s : List UInt8), s.length ≤ n → Rp [39, 39] [39] s = und s
  | _, [], _ => Rp_nil (by decide)
  | 0, c :: r, h => by simp at h
  | n + 1, [c], h => by
    rw [Rp_miss (by decide) (by simp [List.isPrefixOf]), Rp_nil (by decide)]
    unfold und
    split <;> simp_all [und]
  | n + 1, c :: d :: r, h => by
    by_cases h1 : c = 39 ∧ d = 39
    · obtain ⟨rfl, rfl⟩ := h1
      rw [Rp_hit (by decide) rfl]
      have := rp_und n r (by simp at h; omega)
      simp [und, this]
    · rw [Rp_miss (by decide) (by simp [List.isPrefixOf]; intro e e2; exact h1 ⟨e.symm, e2.symm⟩), rp_und n (d :: r) (by simp at h ⊢; omega)]
      conv => rhs; unfold und
      split
      · rename_i e; simp at e; exact absurd ⟨e.1, e.2.1⟩ h1
      · rename_i e; simp at e; obtain ⟨rfl, rfl⟩ := e; rfl
      · rename_i e; simp at e
theorem dbl_len (s : List UInt8) : s.length ≤ (dbl s).length ∧ (dbl s).length ≤ 2 * s.length := by
  induction s with
  | nil => simp [dbl]
  | cons c r ih => unfold dbl; split <;> simp <;> omega
theorem und_len : ∀ (n : Nat) (s : List UInt8), s.length ≤ n → (und s).length ≤ s.length
  | _, [], _ => by simp [und]
  | 0, c :: r, h => by simp at h
  | n + 1, [c], h => by unfold und; split <;> simp_all [und]
  | n + 1, c :: d :: r, h => by
    unfold und
    split
    · rename_i e; simp at e; obtain ⟨_, _, rfl⟩ := e
      have := und_len n _ (show List.length r ≤ n by simp at h; omega)
      simp; omega
    · rename_i e; simp at e; obtain ⟨rfl, rfl⟩ := e
      have := und_len n (d :: r) (by simp at h ⊢; omega)
      simp at this ⊢; omega
    · rename_i e; simp at e
/-- What was doubled comes back. -/
theorem und_dbl : ∀ s : List UInt8, und (dbl s) = s
  | [] => rfl
  | c :: r => by
    by_cases h : c = 39
    · subst h
      simp [dbl, und, und_dbl r]
    · have := und_dbl r
      simp only [dbl, if_neg h]
      conv => lhs; unfold und
      split
      · rename_i e; simp at e; exact absurd e.1 h
      · rename_i e; simp at e; obtain ⟨rfl, rfl⟩ := e; rw [this]
      · rename_i e; simp at e
end Go.Proofs.YtookojgemipakaaDoor.Vd

/- Texts between marks: Quote, Unquote. -/
namespace Go.Proofs.YtookojgemipakaaDoor.Vd
open Go.RowKit Go.Proofs.YtookojgemipakaaDoor Go.Proofs.YtookojgemipakaaDoor.Door
set_option linter.unusedVariables false
set_option maxRecDepth 100000
def B (l : List UInt8) : ByteArray := ⟨l.toArray⟩
theorem B_data (s : ByteArray) : B s.data.toList = s := by unfold B; rw [Array.toArray_toList]
theorem B_list (l : List UInt8) : (B l).data.toList = l := by simp [B]
theorem B_size (l : List UInt8) : (B l).size = l.length := List.size_toArray
theorem B_inj {a b : List UInt8} (h : B a = B b) : a = b := by rw [← B_list a, h, B_list]
theorem size_len (s : ByteArray) : s.data.toList.length = s.size := Array.length_toList
/-- A text between marks. -/
def quoteB (s : ByteArray) : ByteArray := B (39 :: (dbl s.data.toList ++ [39]))
theorem quote_eq (s : ByteArray) : ((⟨#[39]⟩ : ByteArray) ++ B (dbl s.data.toList)) ++ ⟨#[39]⟩ = quoteB s := by
  unfold quoteB B
  apply ByteArray.ext
  apply Array.ext'
  simp
theorem rep1_any (s : ByteArray) (w : World) (hm : ML w) (hs : s.size < 1000000) :
    Calls Tryd.prog 81 #[.string s, .string ⟨#[39]⟩, .string ⟨#[39, 39]⟩] w fun e w' => e = .returned (.string (B (dbl s.data.toList))) ∧ Below w.heap.size w w' :=
  (replace_any s ⟨#[39]⟩ ⟨#[39, 39]⟩ w hm hs (by decide) (by decide)).mono fun e w' ⟨h1, h2⟩ => ⟨h1.trans (by
    show Ending.returned (.string (B (Lib.replaceAll s.data.toList [39] [39, 39]))) = _
    rw [replaceAll_Rp (by decide), rp_dbl]), h2⟩
theorem rep2_any (s : ByteArray) (w : World) (hm : ML w) (hs : s.size < 1000000) :
    Calls Tryd.prog 81 #[.string s, .string ⟨#[39, 39]⟩, .string ⟨#[39]⟩] w fun e w' => e = .returned (.string (B (und s.data.toList))) ∧ Below w.heap.size w w' :=
  (replace_any s ⟨#[39, 39]⟩ ⟨#[39]⟩ w hm hs (by decide) (by decide)).mono fun e w' ⟨h1, h2⟩ => ⟨h1.trans (by
    show Ending.returned (.string (B (Lib.replaceAll s.data.toList [39, 39] [39]))) = _
    rw [replaceAll_Rp (by decide), rp_und _ _ (Nat.le_refl _)]), h2⟩
theorem quote_any (s : ByteArray) (w : World) (hm : ML w) (hs : s.size < 1000000) :
    Calls Tryd.prog 61 #[.string s] w fun e w' => e = .returned (.string (quoteB s)) ∧ Below w.heap.size w w' := by
  have hl := dbl_len s.data.toList
  have hl2 := size_len s
  have hq := quote_eq s
  obtain ⟨D, hD⟩ : ∃ D, dbl s.data.toList = D := ⟨_, rfl⟩
  have hc := rep1_any s w hm hs
  rw [hD] at hl hq hc
  have hk : (B D).size = D.length := B_size D
  have hk2 : (B D).size ≤ 2000000 := by omega
  generalize B D = R at hq hc hk hk2
  have HQ := Lib.hid hq
  clear hl hl2 hq hk hD hm hs
  go_enter Tryd.func61, Tryd.ntmps61
  go_wp2_with fail
  refine hc.mono ?_
  rintro e w1 ⟨rfl, hb⟩
  have HB := Lib.hid hb
  clear hb hc
  have h1 : ¬ 9223372036854775807 < 1 + R.size := by omega
  have h2 : ¬ 9223372036854775807 < 1 + R.size + 1 := by omega
  go_wp2
  go_ret
  exact ⟨by rw [← HQ.out]; rfl, HB.out⟩
def UqEnd (s : ByteArray) (w : World) (e : Ending) (w' : World) : Prop := Below w.heap.size w w' ∧
  ((∃ t : List UInt8, e = .returned (.tuple #[.string (B t), .bool true]) ∧ s.data.toList = 39 :: (dbl t ++ [39])) ∨ (e = .returned (.tuple #[.string ⟨#[]⟩, .bool false]) ∧ ∀ t : List UInt8, s.data.toList ≠ 39 :: (dbl t ++ [39])))
end Go.Proofs.YtookojgemipakaaDoor.Vd

/- awake of layer 2. -/
namespace Go.Proofs.YtookojgemipakaaDoor.Vd
open Go.RowKit Go.Proofs.YtookojgemipakaaDoor Go.Proofs.YtookojgemipakaaDoor.Door Go.Proofs.YtookojgemipakaaDoor.Ev Go.Proofs.YtookojgemipakaaDoor.Sch Go.Proofs.YtookojgemipakaaDoor.Evl Go.Proofs.YtookojgemipakaaDoor.Ty
set_option linter.unusedVariables false
set_option maxRecDepth 100000
def truthB (b : Bool) : ByteArray := if b then ⟨#[116, 114, 117, 101]⟩ else ⟨#[102, 97, 108, 115, 101]⟩
theorem ttext_any (b : Bool) (w : World) : Calls Tryd.prog 77 #[.bool b] w fun e w' => e = .returned (.string (truthB b)) ∧ w = w' := by
  cases b
  all_goals
    go_enter Tryd.func77, Tryd.ntmps77
    go_wp2
    go_ret
    exact ⟨rfl, rfl⟩
theorem show_truth (b : Bool) (i : Int) (s : ByteArray) (w : World) : Calls Tryd.prog 59 #[.agg #[.int .i64 3, .int .i64 i, .string s, .bool b]] w fun e w' => e = .returned (.string (truthB b)) ∧ Below w.heap.size w w' := by
  go_enter Tryd.func59, Tryd.ntmps59
  go_wp2_with fail
  refine (ttext_any b _).mono ?_
  rintro e w1 ⟨rfl, rfl⟩
  go_wp2
  go_ret
  exact ⟨rfl, by go_grown⟩
theorem show_text (b : Bool) (i : Int) (s : ByteArray) (w : World) (hm : ML w) (hs : s.size < 1000000) : Calls Tryd.prog 59 #[.agg #[.int .i64 2, .int .i64 i, .string s, .bool b]] w fun e w' => e = .returned (.string (quoteB s)) ∧ Below w.heap.size w w' := by
  have HM := Lib.hid hm
  have HS := Lib.hid hs
  clear hm hs
  go_enter Tryd.func59, Tryd.ntmps59
  go_wp2_with fail
  refine (quote_any s _ (HM.out.below (by go_grown)) HS.out).mono ?_
  rintro e w1 ⟨rfl, hb⟩
  have HB := Lib.hid hb
  clear hb
  go_wp2
  go_ret
  exact ⟨rfl, (show Below w.heap.size w _ from by go_grown).trans (HB.out.mono (show Below w.heap.size w _ from by go_grown).size)⟩
theorem und_of {l t : List UInt8} (h : 39 :: (l ++ [39]) = 39 :: (dbl t ++ [39])) : t = und l := by
  have h1 : l = dbl t := by simpa using h
  rw [h1, und_dbl]
theorem quo_lit (w : World) (hm : ML w) : Calls Tryd.prog 61 #[.string ⟨#[105, 116, 39, 115]⟩] w fun e w' => e = .returned (.string ⟨#[39, 105, 116, 39, 39, 115, 39]⟩) ∧ Below w.heap.size w w' :=
  (quote_any ⟨#[105, 116, 39, 115]⟩ w hm (by decide)).mono fun e w' ⟨h, hb⟩ => ⟨h.trans (by
    have : quoteB ⟨#[105, 116, 39, 115]⟩ = ⟨#[39, 105, 116, 39, 39, 115, 39]⟩ := by decide
    rw [this]), hb⟩
end Go.Proofs.YtookojgemipakaaDoor.Vd

/- A result that is a struct. -/
namespace Go.Proofs.YtookojgemipakaaDoor.Vd
open Go.RowKit Go.Proofs.YtookojgemipakaaDoor
set_option linter.unusedVariables false
set_option maxRecDepth 100000
/-- The result's block. -/
def Rz (X : World) (b : Nat) : Prop := Row X b 33 #[.int .i64 0, .int .i64 0, .string ⟨#[]⟩, .bool false]
theorem Rz.facts {X : World} {b : Nat} (r : Rz X b) : b < X.heap.size ∧ X.cell? ⟨b, 0, none⟩ = some (.int .i64 0) ∧ X.cell? ⟨b, 1, none⟩ = some (.int .i64 0) ∧ X.cell? ⟨b, 2, none⟩ = some (.string ⟨#[]⟩) ∧ X.cell? ⟨b, 3, none⟩ = some (.bool false)
    ∧ X.frozen? ⟨b, 0, none⟩ = false ∧ X.frozen? ⟨b, 1, none⟩ = false ∧ X.frozen? ⟨b, 2, none⟩ = false ∧ X.frozen? ⟨b, 3, none⟩ = false :=
  ⟨r.lt, (r.cell 0).trans rfl, (r.cell 1).trans rfl, (r.cell 2).trans rfl, (r.cell 3).trans rfl, r.free 0, r.free 1, r.free 2, r.free 3⟩
theorem put4 {X : World} {b : Nat} (r : Rz X b) (u0 u1 u2 u3 : Value) :
    Row ((((X.setCell ⟨b, 0, none⟩ u0).setCell ⟨b, 1, none⟩ u1).setCell ⟨b, 2, none⟩ u2).setCell ⟨b, 3, none⟩ u3) b 33 #[u0, u1, u2, u3] := by
  simpa using (((Row.put r 0 u0).put 1 u1).put 2 u2).put 3 u3
theorem four {Y : World} {b : Nat} {u0 u1 u2 u3 : Value} (r : Row Y b 33 #[u0, u1, u2, u3]) : Y.cell? ⟨b, 0, none⟩ = some u0 ∧ Y.cell? ⟨b, 1, none⟩ = some u1 ∧ Y.cell? ⟨b, 2, none⟩ = some u2 ∧ Y.cell? ⟨b, 3, none⟩ = some u3 :=
  ⟨(r.cell 0).trans rfl, (r.cell 1).trans rfl, (r.cell 2).trans rfl, (r.cell 3).trans rfl⟩
theorem below4 {w X : World} (h : Below w.heap.size w X) (b : Nat) (hb : w.heap.size ≤ b) (u0 u1 u2 u3 : Value) : Below w.heap.size w ((((X.setCell ⟨b, 0, none⟩ u0).setCell ⟨b, 1, none⟩ u1).setCell ⟨b, 2, none⟩ u2).setCell ⟨b, 3, none⟩ u3) :=
  (((h.setCell (p := ⟨b, 0, none⟩) hb _).setCell (p := ⟨b, 1, none⟩) hb _).setCell (p := ⟨b, 2, none⟩) hb _).setCell (p := ⟨b, 3, none⟩) hb _
end Go.Proofs.YtookojgemipakaaDoor.Vd

/- The contract of num.size. -/
namespace Go.Proofs.YtookojgemipakaaDoor.Num
open Go.RowKit Go.Proofs.YtookojgemipakaaDoor

def sizeN (n : Int) : Nat := n.natAbs
theorem size_pos {n : Int} (h : ¬ n < 0) : n = (sizeN n : Int) := by unfold sizeN; omega
theorem size_neg {n : Int} (h : n < 0) : -n = (sizeN n : Int) := by unfold sizeN; omega
theorem wrapneg {n : Int} (h0 : -9223372036854775808 ≤ n) (h1 : n < 0) : IntKind.u64.wrap (-(IntKind.u64.wrap n)) = -n := by simp only [IntKind.wrap_u64]; omega
theorem wrapid {n : Int} (h0 : 0 ≤ n) (h1 : n ≤ 9223372036854775807) : IntKind.u64.wrap n = n := by simp only [IntKind.wrap_u64]; omega
set_option maxHeartbeats 400000 in
theorem size_any (n : Int) (w : World) (h0 : -9223372036854775808 ≤ n) (h1 : n ≤ 9223372036854775807) :
    Calls Tryd.prog 82 #[.int .i64 n] w fun e w' => e = .returned (.int .u64 (sizeN n)) ∧ w = w' := by
  by_cases h : n < 0
  · have e1 := wrapneg h0 h
    have e2 := size_neg h
    go_enter Tryd.func82, Tryd.ntmps82
    go_wp2
    go_ret
    exact ⟨rfl, rfl⟩
  · go_enter Tryd.func82, Tryd.ntmps82
    go_wp2
    go_ret
    exact ⟨ret_int' .u64 (size_pos (by omega)), rfl⟩
end Go.Proofs.YtookojgemipakaaDoor.Num

/- The contract of num.signed. -/
namespace Go.Proofs.YtookojgemipakaaDoor.Num
open Go.RowKit Go.Proofs.YtookojgemipakaaDoor

/-- What 'signed' answers. -/
def sgnV (a : Nat) (b : Bool) : Int := if b then (if 9223372036854775808 < a then 0 else -(a : Int)) else (if 9223372036854775807 < a then 0 else (a : Int))
def sgnB (a : Nat) (b : Bool) : Bool := if b then (if 9223372036854775808 < a then false else true) else (if 9223372036854775807 < a then false else true)
def Sgn (a : Nat) (b : Bool) (w : World) (e : Ending) (w' : World) : Prop := e = .returned (.tuple #[.int .i64 (sgnV a b), .bool (sgnB a b)]) ∧ w = w'
theorem sgn_no {a : Nat} {b : Bool} {w : World} (h : if b then 9223372036854775808 < a else 9223372036854775807 < a) : Sgn a b w (.returned (.tuple #[.int .i64 0, .bool false])) w := by
  unfold Sgn sgnV sgnB
  cases b <;> simp_all
theorem sgn_yes {a : Nat} {b : Bool} {w : World} {v : Int} (h : if b then a ≤ 9223372036854775808 ∧ v = -(a : Int) else a ≤ 9223372036854775807 ∧ v = a) : Sgn a b w (.returned (.tuple #[.int .i64 v, .bool true])) w := by
  unfold Sgn sgnV sgnB
  cases b
  · obtain ⟨h1, rfl⟩ := h; simp; omega
  · obtain ⟨h1, rfl⟩ := h; simp; omega
theorem back (a : Nat) (h : a ≤ 9223372036854775808) : wrap64 (IntKind.u64.wrap (-(a : Int))) = -(a : Int) := by simp only [IntKind.wrap_u64, wrap64]; omega
end Go.Proofs.YtookojgemipakaaDoor.Num

/- The contract of num.width. -/
namespace Go.Proofs.YtookojgemipakaaDoor.Num
open Go.RowKit Go.Proofs.YtookojgemipakaaDoor
set_option maxRecDepth 100000

def widthN (n : Nat) : Nat := if n < 10 then 1 else widthN (n / 10) + 1
theorem widthN_le (k : Nat) : ∀ n, n < 10 ^ (k + 1) → widthN n ≤ k + 1 := by
  induction k with
  | zero => intro n hn; rw [widthN, if_pos (by simpa using hn)]; omega
  | succ k ih =>
    intro n hn
    rw [widthN]
    split
    · omega
    · have := ih (n / 10) (by rw [Nat.div_lt_iff_lt_mul (by omega)]; rw [Nat.pow_succ] at hn; omega)
      omega
theorem widthN_pos (n : Nat) : 1 ≤ widthN n := by rw [widthN]; split <;> omega
theorem widthN_20 {n : Nat} (h : n < 18446744073709551616) : widthN n ≤ 20 := widthN_le 19 n (by omega)
set_option maxHeartbeats 400000 in
theorem width_any (n : Nat) (w : World) (h0 : n < 18446744073709551616) :
    Calls Tryd.prog 83 #[.int .u64 n] w fun e w' => e = .returned (.int .i64 (widthN n)) ∧ w = w' := by
  have h20 := widthN_20 h0
  go_enter Tryd.func83, Tryd.ntmps83
  go_wp2
  go_loop [0, 3] (fun a c => ∃ m k : Nat, m ≤ n ∧ k + widthN m = widthN n + 1 ∧ a = .int .u64 m ∧ c = .int .i64 k) (fun a _ => (intOf a).toNat)
  case atStart => exact ⟨n, 1, by omega, by omega, rfl, rfl⟩
  case round =>
    obtain ⟨m, k, hm, hk, rfl, rfl⟩ := hrel
    have hp := widthN_pos m
    have HK := Lib.hid hk
    have hk2 : k ≤ 20 := by omega
    clear hk
    by_cases hc : m < 10
    · go_wp2
      go_ret
      exact ⟨ret_int (by have := HK.out; rw [widthN, if_pos hc] at this; omega), rfl⟩
    · have hc' : 10 ≤ m := by omega
      clear hc
      go_wp2
      go_round
      case rel => exact ⟨m / 10, k + 1, by omega, by have := HK.out; rw [widthN, if_neg (by omega)] at this; omega, by go_num, by go_num⟩
      case measure => simp [intOf]; omega
end Go.Proofs.YtookojgemipakaaDoor.Num

/- Plain facts on decimal digits: lists of bytes and natural numbers; no program in sight. -/

namespace Go.Proofs.YtookojgemipakaaDoor.Num
open List

def digit (n : Nat) : UInt8 := UInt8.ofNat (48 + n)
theorem digit_toNat {n : Nat} (h : n < 10) : (digit n).toNat = 48 + n := by unfold digit; simp; omega
/-- A number's digits. -/
def dg (n : Nat) : List UInt8 := if n < 10 then [digit n] else dg (n / 10) ++ [digit (n % 10)]
theorem dg_lt {n : Nat} (h : n < 10) : dg n = [digit n] := by rw [dg, if_pos h]
theorem dg_ge {n : Nat} (h : 10 ≤ n) : dg n = dg (n / 10) ++ [digit (n % 10)] := by rw [dg, if_neg (by omega)]
/-- A number's text. -/
def txt (n : Int) : List UInt8 := if n < 0 then 45 :: dg n.natAbs else dg n.natAbs
def isD (c : UInt8) : Bool := decide (48 ≤ c.toNat ∧ c.toNat ≤ 57)
theorem isD_digit {n : Nat} (h : n < 10) : isD (digit n) = true := by unfold isD; rw [digit_toNat h]; simp; omega
def step (a : Nat) (c : UInt8) : Nat := a * 10 + (c.toNat - 48)
def val (l : List UInt8) : Nat := l.foldl step 0
theorem val_snoc (l : List UInt8) (c : UInt8) : val (l ++ [c]) = val l * 10 + (c.toNat - 48) := by unfold val; rw [List.foldl_append]; rfl
theorem dg_ne (n : Nat) : dg n ≠ [] := by rw [dg]; split <;> simp
theorem dg_all (n : Nat) : (dg n).all isD = true := by
  induction n using Nat.strongRecOn with
  | ind n ih =>
    rw [dg]
    split
    · simp [isD_digit, *]
    · rw [List.all_append, ih _ (by omega)]; simp [isD_digit (Nat.mod_lt n (by omega : 10 > 0))]
theorem val_dg (n : Nat) : val (dg n) = n := by
  induction n using Nat.strongRecOn with
  | ind n ih =>
    rw [dg]
    split
    · simp [val, step, digit_toNat, *]
    · rw [val_snoc, ih _ (by omega), digit_toNat (Nat.mod_lt n (by omega))]; omega
/-- No needless nought ahead. -/
theorem dg_head (n : Nat) (h : 10 ≤ n) : ∃ c r, dg n = c :: r ∧ r ≠ [] ∧ 49 ≤ c.toNat := by
  induction n using Nat.strongRecOn with
  | ind n ih =>
    rw [dg_ge h]
    by_cases h2 : 10 ≤ n / 10
    · obtain ⟨c, r, e, hr, hc⟩ := ih (n / 10) (by omega) h2
      exact ⟨c, r ++ [digit (n % 10)], by rw [e]; rfl, by simp, hc⟩
    · rw [dg_lt (by omega)]
      exact ⟨digit (n / 10), [digit (n % 10)], rfl, by simp, by rw [digit_toNat (by omega)]; omega⟩
/-- A text of digits without a needless nought is its number's. -/
theorem dg_val (l : List UInt8) (h0 : l ≠ []) (hd : l.all isD = true) (hz : l.length ≤ 1 ∨ l.head? ≠ some 48) : dg (val l) = l := by
  induction hn : l.length using Nat.strongRecOn generalizing l with
  | ind n ih =>
    obtain ⟨r, c, rfl⟩ : ∃ r c, l = r ++ [c] := ⟨l.dropLast, l.getLast h0, (List.dropLast_concat_getLast h0).symm⟩
    rw [List.all_append, Bool.and_eq_true] at hd
    obtain ⟨hd1, hd2⟩ := hd
    have hc : 48 ≤ c.toNat ∧ c.toNat ≤ 57 := by simpa [isD] using hd2
    have hdc : digit (c.toNat - 48) = c := by
      unfold digit
      apply UInt8.toNat_inj.1
      simp
      omega
    rw [val_snoc]
    by_cases hr : r = []
    · subst hr
      have : val ([] : List UInt8) = 0 := rfl
      rw [this, dg_lt (by omega), show 0 * 10 + (c.toNat - 48) = c.toNat - 48 from by omega, hdc]
      rfl
    · have hz' : r.head? ≠ some 48 := by
        rcases hz with hz | hz
        · simp at hz; exact absurd hz hr
        · cases r with
          | nil => exact absurd rfl hr
          | cons a t => simpa using hz
      have ih' := ih r.length (by rw [← hn]; simp) r hr hd1 (.inr hz') rfl
      have hv : 1 ≤ val r := by
        apply Nat.pos_of_ne_zero
        intro he
        rw [he, dg_lt (by omega)] at ih'
        rw [← ih'] at hz'
        exact hz' rfl
      rw [dg_ge (by omega), show (val r * 10 + (c.toNat - 48)) / 10 = val r from by omega, ih', show (val r * 10 + (c.toNat - 48)) % 10 = c.toNat - 48 from by omega, hdc]
theorem length_dg (k : Nat) : ∀ n, n < 10 ^ (k + 1) → (dg n).length ≤ k + 1 := by
  induction k with
  | zero => intro n hn; rw [dg_lt (by simpa using hn)]; simp
  | succ k ih =>
    intro n hn
    rw [dg]
    split
    · simp
    · have := ih (n / 10) (by rw [Nat.div_lt_iff_lt_mul (by omega)]; rw [Nat.pow_succ] at hn; omega)
      simp; omega
theorem val_lt (l : List UInt8) (hd : l.all isD = true) : val l < 10 ^ l.length := by
  induction hn : l.length generalizing l with
  | zero => have := List.eq_nil_of_length_eq_zero hn; subst this; decide
  | succ n ih =>
    have h0 : l ≠ [] := by intro e; subst e; simp at hn
    obtain ⟨r, c, rfl⟩ : ∃ r c, l = r ++ [c] := ⟨l.dropLast, l.getLast h0, (List.dropLast_concat_getLast h0).symm⟩
    rw [List.all_append, Bool.and_eq_true] at hd
    have hc : 48 ≤ c.toNat ∧ c.toNat ≤ 57 := by simpa [isD] using hd.2
    have := ih r hd.1 (by simpa using hn)
    rw [val_snoc, Nat.pow_succ]
    omega
/-- The digits of n's 20 lowest places, from the last one on: what a loop that divides has laid behind k rounds. -/
def low (n : Nat) : Nat → List UInt8
  | 0 => []
  | k + 1 => low (n / 10) k ++ [digit (n % 10)]
theorem low_dg (n : Nat) : low n (dg n).length = dg n := by
  induction n using Nat.strongRecOn with
  | ind n ih =>
    by_cases h : n < 10
    · rw [dg_lt h]; simp [low, Nat.mod_eq_of_lt h]
    · rw [dg_ge (by omega)]; simp [low, ih (n / 10) (by omega)]
theorem low_front (n k : Nat) : low n (k + 1) = digit (n / 10 ^ k % 10) :: low n k := by
  induction k generalizing n with
  | zero => simp [low]
  | succ k ih =>
    rw [low, ih (n / 10), Nat.div_div_eq_div_mul, low, Nat.pow_succ, Nat.mul_comm (10 ^ k) 10]
    rfl
theorem dg_first (m : Nat) : (dg m).head? ≠ some 45 := by
  intro h
  have h1 := dg_all m
  cases hd : dg m with
  | nil => rw [hd] at h; simp at h
  | cons c r =>
    rw [hd] at h h1
    simp at h
    subst h
    simp [isD] at h1
theorem isPrefix_45 (l : List UInt8) : ([45] : List UInt8).isPrefixOf l = decide (l.head? = some 45) := by
  cases l with
  | nil => rfl
  | cons c r =>
    by_cases h : c = 45
    · subst h; simp [List.isPrefixOf]
    · have h2 : (45 : UInt8) ≠ c := fun e => h e.symm
      simp [List.isPrefixOf, h, h2]
theorem length_low (n k : Nat) : (low n k).length = k := by
  induction k generalizing n with
  | zero => rfl
  | succ k ih => simp [low, ih]
end Go.Proofs.YtookojgemipakaaDoor.Num

/- The contract of num.Digits: a number has its text; what was there stays. -/
namespace Go.Proofs.YtookojgemipakaaDoor.Num
open Go.RowKit Go.Proofs.YtookojgemipakaaDoor
set_option maxRecDepth 100000

theorem length_dg_width (n : Nat) : (dg n).length = widthN n := by
  induction n using Nat.strongRecOn with
  | ind n ih =>
    rw [dg, widthN]
    split
    · rfl
    · rw [List.length_append, ih _ (by omega)]; rfl
theorem low_width (n : Nat) : low n (widthN n) = dg n := by rw [← length_dg_width, low_dg]
def cellsOf (l : List UInt8) : List Value := l.map fun b => .int .u8 (b.toNat : Int)
/-- What the array holds behind k rounds. -/
def laid (n c k : Nat) : List Value := List.replicate (c - k) (.int .u8 0) ++ cellsOf (low n k)
theorem laid_zero (n c : Nat) : laid n c 0 = List.replicate c (.int .u8 0) := by simp [laid, low, cellsOf]
theorem laid_set {n c k : Nat} (hk : k < c) : (laid n c k).set (c - 1 - k) (.int .u8 ((48 + n / 10 ^ k % 10 : Nat) : Int)) = laid n c (k + 1) := by
  obtain ⟨m, rfl⟩ : ∃ m, c = k + 1 + m := ⟨c - (k + 1), by omega⟩
  unfold laid
  rw [show k + 1 + m - k = m + 1 from by omega, show k + 1 + m - 1 - k = m from by omega, show k + 1 + m - (k + 1) = m from by omega, low_front,
    List.replicate_succ', List.append_assoc, List.set_append_right _ _ (by simp)]
  simp only [List.length_replicate, Nat.sub_self]
  show List.replicate m _ ++ (Value.int IntKind.u8 _ :: cellsOf (low n k)) = List.replicate m _ ++ (cellsOf (digit (n / 10 ^ k % 10) :: low n k))
  unfold cellsOf
  rw [List.map_cons, digit_toNat (Nat.mod_lt _ (by omega))]
theorem laid_at {n c k : Nat} (hk : k < c) : (laid n c k)[c - 1 - k]? = some (.int .u8 0) := by
  unfold laid
  rw [List.getElem?_append_left (by simp; omega), List.getElem?_replicate, if_pos (by omega)]
theorem laid_end (n : Nat) : laid n (widthN n) (widthN n) = cellsOf (dg n) := by unfold laid; rw [low_width]; simp
theorem byteInfo : (Tryd.prog.info? 5).map (fun i => (i.zero, i.size, i.bytes)) = some (some (.int .u8 0), 1, 1) := by kernel_rfl
theorem minus_text {n : Int} (h : n < 0) : (⟨#[45]⟩ : ByteArray) ++ ⟨(dg (sizeN n)).toArray⟩ = ⟨(txt n).toArray⟩ := by
  unfold txt sizeN
  rw [if_pos h]
  apply ByteArray.ext
  simp
theorem plus_text {n : Int} (h : 0 ≤ n) : (⟨(dg (sizeN n)).toArray⟩ : ByteArray) = ⟨(txt n).toArray⟩ := by
  unfold txt sizeN
  rw [if_neg (by omega)]
def Texts (n : Int) (w : World) (e : Ending) (w' : World) : Prop := e = .returned (.string ⟨(txt n).toArray⟩) ∧ Below w.heap.size w w'
set_option maxHeartbeats 800000 in
theorem digits_any (n : Int) (w : World) (h0 : -9223372036854775808 ≤ n) (h1 : n ≤ 9223372036854775807) :
    Calls Tryd.prog 62 #[.int .i64 n] w (Texts n w) := by
  obtain ⟨i0, hi, hz0, hz1, hz2⟩ := info_parts byteInfo
  have hs : sizeN n < 18446744073709551616 := by unfold sizeN; omega
  have hc := widthN_20 hs
  have hc0 := widthN_pos (sizeN n)
  go_enter Tryd.func62, Tryd.ntmps62
  go_wp2_with (first
    | (go_at_call 82; refine (size_any _ _ h0 h1).mono ?_; rintro e w' ⟨rfl, rfl⟩)
    | (go_at_call 83; refine (width_any _ _ hs).mono ?_; rintro e w' ⟨rfl, rfl⟩)
    | (at_make; refine wpList_make_full _ rfl _ _ 34 rfl w.heap.size 5 i0 (.int .u8 0) 1 Tryd.underlying34 hi hz0 hz1 _ _ _ _ (widthN (sizeN n)) rfl rfl rfl rfl (by rw [hz2]; omega) (by unfold maxLen; omega) (Nat.le_refl _) ?_))
  intro w1 hown hgr
  rw [toList_madeCells_one, ← laid_zero (sizeN n)] at hown
  have hb1 : Below w.heap.size w w1 := (Below.refl _ _).grown hgr (Nat.le_refl _) (by simp)
  clear hgr hi hz0 hz1 hz2
  go_wp2
  go_loopw [3, 14] (fun x i wr => ∃ k m : Nat, k ≤ widthN (sizeN n) ∧ i = .int .i64 k ∧ x = .int .u64 m ∧ Hid (m = sizeN n / 10 ^ k) ∧ m ≤ sizeN n ∧
      Hid (wr.ownsRow w.heap.size 5 1 (.slice (some ⟨w.heap.size, 0, none⟩) (widthN (sizeN n)) (widthN (sizeN n))) (widthN (sizeN n)) (laid (sizeN n) (widthN (sizeN n)) k)) ∧ Hid (Below w.heap.size w wr))
    (fun _ i _ => widthN (sizeN n) - (intOf i).toNat)
  case atStart => exact ⟨0, sizeN n, by omega, rfl, rfl, by simp [Hid], Nat.le_refl _, hown, hb1⟩
  case round =>
    obtain ⟨k, m, hk, rfl, rfl, hm, hmn, hO, hB⟩ := hrel
    clear hown hb1
    by_cases hlt : k < widthN (sizeN n)
    · have hcell : wr.cell? ⟨w.heap.size, widthN (sizeN n) - 1 - k, none⟩ = some (.int .u8 0) := by
        rw [hO.out.cellAt _ (by omega), laid_at hlt]
      have hfr : wr.frozen? ⟨w.heap.size, widthN (sizeN n) - 1 - k, none⟩ = false := hO.out.frozenAt _
      go_wp2
      go_roundw
      case rel =>
        refine ⟨k + 1, m / 10, by omega, by go_num, by go_num, ?_, by omega, ?_, ?_⟩
        · have := hm.out
          unfold Hid
          rw [this, Nat.pow_succ, Nat.div_div_eq_div_mul]
        · have h1 := (hO.out.stored (widthN (sizeN n) - 1 - k) (.int .u8 (48 + (m : Int) % 10))).1
          have h2 := laid_set (n := sizeN n) hlt
          rw [← hm.out] at h2
          rw [show ((48 : Int) + (m : Int) % 10) = ((48 + m % 10 : Nat) : Int) from by omega, h2] at h1
          exact h1
        · exact hB.out.setCell (Nat.le_refl _) _
      case measure => simp [intOf]; omega
    · have hk' : k = widthN (sizeN n) := by omega
      subst hk'
      clear hlt
      have hcv : (convert 34 9 (.slice (some ⟨w.heap.size, 0, none⟩) (widthN (sizeN n)) (widthN (sizeN n)))).run Tryd.prog wr = .ok (.string ⟨(dg (sizeN n)).toArray⟩) wr := by
        have := hO.out
        rw [laid_end] at this
        have h2 := run_convert_bytes_back (P := Tryd.prog) wr 34 9 5 ⟨w.heap.size, 0, none⟩ (widthN (sizeN n)) (dg (sizeN n)) Tryd.underlying34 Tryd.underlying5 Tryd.underlying9
          (fun j hj => this.cells (g := w.heap.size) rfl j _ (by simp [cellsOf, hj]))
        rw [length_dg_width] at h2
        exact h2
      by_cases hn : n < 0
      · have hadd := run_string_add_sum (P := Tryd.prog) (w := wr) ⟨#[45]⟩ ⟨(dg (sizeN n)).toArray⟩ (by
          have : (dg (sizeN n)).length ≤ 20 := by rw [length_dg_width]; exact hc
          simp [ByteArray.size]; omega)
        go_wp2
        go_ret
        refine ⟨?_, hB.out⟩
        exact ret_str (minus_text hn)
      · have hn' : 0 ≤ n := by omega
        clear hn
        go_wp2
        go_ret
        refine ⟨?_, hB.out⟩
        exact ret_str (plus_text hn')
theorem digits_any' (n : Int) (w : World) (h0 : -9223372036854775808 ≤ n) (h1 : n ≤ 9223372036854775807) : Calls Tryd.prog 62 #[.int .i64 n] w fun e w' => e = .returned (.string ⟨(txt n).toArray⟩) ∧ Below w.heap.size w w' := digits_any n w h0 h1
theorem txt_list (n : Int) : ((⟨(txt n).toArray⟩ : ByteArray)).data.toList = txt n := by simp
theorem txt_size {n : Int} (h0 : -9223372036854775808 ≤ n) (h1 : n ≤ 9223372036854775807) : ((⟨(txt n).toArray⟩ : ByteArray)).size ≤ 21 := by
  have hs : sizeN n < 18446744073709551616 := by unfold sizeN; omega
  have hl : (dg (sizeN n)).length ≤ 20 := by rw [length_dg_width]; exact widthN_20 hs
  show (txt n).toArray.size ≤ 21
  unfold txt
  unfold sizeN at hl
  split <;> simp <;> omega
end Go.Proofs.YtookojgemipakaaDoor.Num

/- The contract of the reference on numbers' texts. -/
namespace Go.Proofs.YtookojgemipakaaDoor.Num
open Go.RowKit Go.Proofs.YtookojgemipakaaDoor
set_option maxRecDepth 100000

theorem one_byte (w : World) (m : Nat) (hm : m < 10) : (convert 34 9 (.slice (some ⟨w.heap.size, 0, none⟩) 1 1)).run Tryd.prog (w.alloc (.cells #[.int .u8 (48 + (m : Int))] 5)) =
    .ok (.string ⟨[digit m].toArray⟩) (w.alloc (.cells #[.int .u8 (48 + (m : Int))] 5)) := by
  refine run_convert_bytes_back (P := Tryd.prog) _ 34 9 5 ⟨w.heap.size, 0, none⟩ 1 [digit m] Tryd.underlying34 Tryd.underlying5 Tryd.underlying9 fun j hj => ?_
  obtain rfl : j = 0 := by simpa using hj
  show World.cell? _ ⟨w.heap.size, 0, none⟩ = _
  rw [World.cell?_alloc_mark]
  simp [digit_toNat hm]
set_option maxHeartbeats 400000 in
theorem ref_low (m : Nat) (hm : m < 10) (w : World) :
    Calls Tryd.prog 71 #[.int .i64 (m : Int)] w fun e w' => e = .returned (.string ⟨(dg m).toArray⟩) ∧ Below w.heap.size w w' := by
  have h1 := one_byte w m hm
  have h2 : ((m : Int) == -9223372036854775808) = false := by rw [beq_eq_false_iff_ne]; omega
  go_enter Tryd.func71, Tryd.ntmps71
  go_wp2_with fail
  go_ret
  exact ⟨ret_str (by rw [dg_lt hm]), (Below.refl _ _).alloc (Nat.le_refl _) _⟩
theorem conv_kept (w0 w1 : World) (m : Nat) (hm : m < 10) (hb : Below (w0.alloc (.cells #[.int .u8 (48 + (m : Int))] 5)).heap.size (w0.alloc (.cells #[.int .u8 (48 + (m : Int))] 5)) w1) :
    (convert 34 9 (.slice (some ⟨w0.heap.size, 0, none⟩) 1 1)).run Tryd.prog w1 = .ok (.string ⟨[digit m].toArray⟩) w1 := by
  refine run_convert_bytes_back (P := Tryd.prog) _ 34 9 5 ⟨w0.heap.size, 0, none⟩ 1 [digit m] Tryd.underlying34 Tryd.underlying5 Tryd.underlying9 fun j hj => ?_
  obtain rfl : j = 0 := by simpa using hj
  show World.cell? _ ⟨w0.heap.size, 0, none⟩ = _
  rw [hb.cell (by simp), World.cell?_alloc_mark]
  simp [digit_toNat hm]
theorem add_byte (W : World) (m : Nat) (hm : (dg (m / 10)).length ≤ 20) (h10 : 10 ≤ m) : (Op.stringOp .add ⟨(dg (m / 10)).toArray⟩ ⟨[digit (m % 10)].toArray⟩).run Tryd.prog W = .ok (.string ⟨(dg m).toArray⟩) W := by
  rw [run_string_add_sum (P := Tryd.prog) (w := W) _ _ (by simp [ByteArray.size]; omega)]
  have : (⟨(dg (m / 10)).toArray⟩ : ByteArray) ++ ⟨[digit (m % 10)].toArray⟩ = ⟨(dg m).toArray⟩ := by
    rw [dg_ge h10]
    apply ByteArray.ext
    simp
  rw [this]
set_option maxHeartbeats 1000000 in
theorem ref_high (m : Nat) (h10 : 10 ≤ m) (hlt : m ≤ 9223372036854775807)
    (ih : ∀ w : World, Calls Tryd.prog 71 #[.int .i64 ((m : Int) / 10)] w fun e w' => e = .returned (.string ⟨(dg (m / 10)).toArray⟩) ∧ Below w.heap.size w w') (w : World) :
    Calls Tryd.prog 71 #[.int .i64 (m : Int)] w fun e w' => e = .returned (.string ⟨(dg m).toArray⟩) ∧ Below w.heap.size w w' := by
  have hlen : (dg (m / 10)).length ≤ 20 := by rw [length_dg_width]; exact widthN_20 (by omega)
  have h1 : ∀ W : World, (convert 34 9 (.slice (some ⟨W.heap.size, 0, none⟩) 1 1)).run Tryd.prog (W.alloc (.cells #[.int .u8 (48 + (m : Int) % 10)] 5)) =
      .ok (.string ⟨[digit (m % 10)].toArray⟩) (W.alloc (.cells #[.int .u8 (48 + (m : Int) % 10)] 5)) := fun W => by
    have := one_byte W (m % 10) (by omega)
    rw [show ((m % 10 : Nat) : Int) = (m : Int) % 10 from by omega] at this
    exact this
  have h1d : (convert 34 9 (.slice (some ⟨w.heap.size, 0, none⟩) 1 1)).run Tryd.prog (w.alloc (.cells #[.int .u8 (48 + (m : Int) % 10)] 5)).drew =
      .ok (.string ⟨[digit (m % 10)].toArray⟩) (w.alloc (.cells #[.int .u8 (48 + (m : Int) % 10)] 5)).drew := h1 w.drew
  have hk : Hid (∀ w1, Below (w.drew.alloc (.cells #[.int .u8 (48 + (m : Int) % 10)] 5)).heap.size (w.drew.alloc (.cells #[.int .u8 (48 + (m : Int) % 10)] 5)) w1 →
      (convert 34 9 (.slice (some ⟨w.heap.size, 0, none⟩) 1 1)).run Tryd.prog w1 = .ok (.string ⟨[digit (m % 10)].toArray⟩) w1) := fun w1 h => by
    refine conv_kept w.drew w1 (m % 10) (by omega) ?_
    rw [show ((m % 10 : Nat) : Int) = (m : Int) % 10 from by omega]
    exact h
  have h3 := fun W => add_byte W m hlen h10
  have h2 : ((m : Int) == -9223372036854775808) = false := by rw [beq_eq_false_iff_ne]; omega
  have IH := Lib.hid ih
  clear ih hlen
  have e1 : IntKind.i64.wrap ((m : Int) / 10) = (m : Int) / 10 := IntWalk.i64_in _ (by omega)
  have e2 : ((m : Int)).tmod 10 = (m : Int) % 10 := Int.tmod_eq_emod_of_nonneg (by omega)
  have e3 : IntKind.i64.wrap (48 + (m : Int) % 10) = 48 + (m : Int) % 10 := IntWalk.i64_in _ (by omega)
  have e4 : IntKind.u8.wrap (48 + (m : Int) % 10) = 48 + (m : Int) % 10 := IntWalk.u8_in _ (by omega)
  go_enter Tryd.func71, Tryd.ntmps71
  go_wp2_with fail
  go_region_with (go_at_call 71; (with_reducible refine (IH.out _).mono ?_); rintro e w1 ⟨rfl, hb⟩; (first | (have hk1 := hk.out _ hb) | skip))
  all_goals
    clear hk h1
    go_wp2_with fail
    go_ret
    refine ⟨rfl, ?_⟩
    first
      | exact ((Below.refl _ _).alloc (Nat.le_refl _) _).drew.trans (hb.mono (by simp))
      | exact ((Below.refl _ _).drew.trans hb).alloc hb.size _
theorem ref_nat : ∀ (m : Nat), m ≤ 9223372036854775807 → ∀ (w : World),
    Calls Tryd.prog 71 #[.int .i64 (m : Int)] w fun e w' => e = .returned (.string ⟨(dg m).toArray⟩) ∧ Below w.heap.size w w' := by
  intro m
  induction m using Nat.strongRecOn with
  | ind m ih =>
    intro hm w
    by_cases h : m < 10
    · exact ref_low m h w
    · refine ref_high m (by omega) hm (fun W => ?_) w
      have := ih (m / 10) (by omega) (by omega) W
      rw [show ((m / 10 : Nat) : Int) = (m : Int) / 10 from by omega] at this
      exact this
theorem dg_least : dg 9223372036854775808 = [57, 50, 50, 51, 51, 55, 50, 48, 51, 54, 56, 53, 52, 55, 55, 53, 56, 48, 56] := by
  rw [dg_ge (by omega), dg_ge (by omega), dg_ge (by omega), dg_ge (by omega), dg_ge (by omega), dg_ge (by omega), dg_ge (by omega), dg_ge (by omega), dg_ge (by omega), dg_ge (by omega),
    dg_ge (by omega), dg_ge (by omega), dg_ge (by omega), dg_ge (by omega), dg_ge (by omega), dg_ge (by omega), dg_ge (by omega), dg_ge (by omega), dg_lt (by omega)]
  rfl
set_option maxHeartbeats 400000 in
theorem ref_any (n : Int) (h0 : -9223372036854775808 ≤ n) (h1 : n ≤ 9223372036854775807) (w : World) : Calls Tryd.prog 71 #[.int .i64 n] w (Texts n w) := by
  by_cases hp : 0 ≤ n
  · have := ref_nat n.toNat (by omega) w
    rw [Int.toNat_of_nonneg hp] at this
    refine this.mono fun _ _ ⟨h, hb⟩ => ⟨h.trans (ret_str ?_), hb⟩
    rw [show n.toNat = sizeN n from by unfold sizeN; omega]
    exact plus_text hp
  by_cases hl : n = -9223372036854775808
  · subst hl
    have ht : (⟨(txt (-9223372036854775808)).toArray⟩ : ByteArray) = ⟨#[45, 57, 50, 50, 51, 51, 55, 50, 48, 51, 54, 56, 53, 52, 55, 55, 53, 56, 48, 56]⟩ := by
      unfold txt
      rw [if_pos (by omega), show (-9223372036854775808 : Int).natAbs = 9223372036854775808 from rfl, dg_least]
    have HT := Lib.hid ht
    clear ht
    go_enter Tryd.func71, Tryd.ntmps71
    go_wp2_with fail
    go_ret
    exact ⟨ret_str HT.out.symm, Below.refl _ _⟩
  · have hn : n < 0 := by omega
    have h2 : (n == -9223372036854775808) = false := by simpa using hl
    have hr : ∀ W : World, Calls Tryd.prog 71 #[.int .i64 (-n)] W fun e w' => e = .returned (.string ⟨(dg (sizeN n)).toArray⟩) ∧ Below W.heap.size W w' := fun W => by
      have := ref_nat (sizeN n) (by unfold sizeN; omega) W
      rw [← size_neg hn] at this
      exact this
    have HR := Lib.hid hr
    have hadd : ∀ W : World, (Op.stringOp .add ⟨#[45]⟩ ⟨(dg (sizeN n)).toArray⟩).run Tryd.prog W = .ok (.string ⟨(txt n).toArray⟩) W := fun W => by
      have hlen : (dg (sizeN n)).length ≤ 20 := by rw [length_dg_width]; exact widthN_20 (by unfold sizeN; omega)
      rw [run_string_add_sum (P := Tryd.prog) (w := W) _ _ (by simp [ByteArray.size]; omega), minus_text hn]
    have lo : -9223372036854775808 < n := by omega
    clear hr hp hl
    go_enter Tryd.func71, Tryd.ntmps71
    go_wp2_with (go_at_call 71; refine (HR.out _).mono ?_; rintro e w1 ⟨rfl, hb⟩)
    go_ret
    exact ⟨rfl, hb⟩
theorem ref_any' (n : Int) (h0 : -9223372036854775808 ≤ n) (h1 : n ≤ 9223372036854775807) (w : World) : Calls Tryd.prog 71 #[.int .i64 n] w fun e w' => e = .returned (.string ⟨(txt n).toArray⟩) ∧ Below w.heap.size w w' := ref_any n h0 h1 w
end Go.Proofs.YtookojgemipakaaDoor.Num

/- The contract of num.plain. -/
namespace Go.Proofs.YtookojgemipakaaDoor.Num
open Go.RowKit Go.Proofs.YtookojgemipakaaDoor
set_option maxRecDepth 100000

/-- Which texts are digits without needless noughts, and not too many. -/
def plainB (l : List UInt8) : Bool := l.all isD && decide (l ≠ []) && decide (l.length ≤ 19) && decide (l.length ≤ 1 ∨ l.head? ≠ some 48)
def Plain (l : List UInt8) (w : World) (e : Ending) (w' : World) : Prop := e = .returned (.bool (plainB l)) ∧ w = w'
theorem plain_no {l : List UInt8} {w : World} (h : plainB l = false) : Plain l w (.returned (.bool false)) w := ⟨by rw [h], rfl⟩
theorem plain_yes {l : List UInt8} {w : World} (h : plainB l = true) : Plain l w (.returned (.bool true)) w := ⟨by rw [h], rfl⟩
theorem plainB_nil : plainB [] = false := rfl
theorem plainB_long {l : List UInt8} (h : 19 < l.length) : plainB l = false := by
  unfold plainB; rw [show decide (l.length ≤ 19) = false from decide_eq_false (by omega)]; simp
theorem plainB_zero {l : List UInt8} (h : 1 < l.length) (g : l.head? = some 48) : plainB l = false := by
  unfold plainB; rw [show decide (l.length ≤ 1 ∨ l.head? ≠ some 48) = false from decide_eq_false (by simp [g]; omega)]; simp
theorem plainB_bad {l : List UInt8} {k : Nat} (h : k < l.length) (g : isD l[k] = false) : plainB l = false := by
  unfold plainB
  have : l.all isD = false := by
    rw [List.all_eq_false]
    exact ⟨l[k], List.getElem_mem h, by simp [g]⟩
  simp [this]
theorem plainB_yes {l : List UInt8} (h : ∀ k (hk : k < l.length), isD l[k] = true) (h0 : 0 < l.length) (h1 : l.length ≤ 19) (h2 : l.length ≤ 1 ∨ l.head? ≠ some 48) : plainB l = true := by
  unfold plainB
  have ha : l.all isD = true := by
    rw [List.all_eq_true]
    intro x hx
    obtain ⟨i, hi, rfl⟩ := List.getElem_of_mem hx
    exact h i hi
  simp only [Bool.and_eq_true, decide_eq_true_eq]
  exact ⟨⟨⟨ha, by intro e; subst e; simp at h0⟩, h1⟩, h2⟩
theorem all_take {l : List UInt8} {k : Nat} (h : ∀ j (hj : j < l.length), j < k → isD l[j] = true) (hk : k < l.length) (g : isD l[k] = true) : ∀ j (hj : j < l.length), j < k + 1 → isD l[j] = true := by
  intro j hj h1
  by_cases e : j = k
  · subst e; exact g
  · exact h j hj (by omega)
theorem isD_no {c : UInt8} (h : (c.toNat : Int) < 48 ∨ (57 : Int) < c.toNat) : isD c = false := by unfold isD; exact decide_eq_false (by omega)
theorem isD_yes {c : UInt8} (h : (48 : Int) ≤ c.toNat) (g : (c.toNat : Int) ≤ 57) : isD c = true := by unfold isD; exact decide_eq_true (by omega)
/-- The loop of 'plain', behind its first test. -/
def AllD (s : ByteArray) (k : Nat) : Prop := ∀ j (hj : j < s.data.toList.length), j < k → isD s.data.toList[j] = true
theorem AllD.zero (s : ByteArray) : AllD s 0 := fun _ _ h => absurd h (by omega)
theorem AllD.succ {s : ByteArray} {k : Nat} (h : AllD s k) (hk : k < s.size) (h0 : (48 : Int) ≤ s[k].toNat) (h1 : (s[k].toNat : Int) ≤ 57) : AllD s (k + 1) :=
  all_take h (by simpa using hk) (by rw [sd s k hk]; exact isD_yes h0 h1)
theorem AllD.bad {s : ByteArray} {k : Nat} {w : World} (hk : k < s.size) (h0 : (s[k].toNat : Int) < 48 ∨ (57 : Int) < s[k].toNat) : Plain s.data.toList w (.returned (.bool false)) w :=
  plain_no (plainB_bad (k := k) (by simpa using hk) (by rw [sd s k hk]; exact isD_no h0))
end Go.Proofs.YtookojgemipakaaDoor.Num

/- The contract of num.Parse: which texts are numbers, and of which. -/
namespace Go.Proofs.YtookojgemipakaaDoor.Num
open Go.RowKit Go.Proofs.YtookojgemipakaaDoor
set_option maxRecDepth 100000

/-- What stands behind a text's '-', if it has one. -/
def dOf (s : ByteArray) : ByteArray := ⟨(Lib.trimPrefix s.data.toList [45]).toArray⟩
def belowB (s : ByteArray) : Bool := Lib.hasPrefix s.data.toList [45]
theorem dOf_list (s : ByteArray) : (dOf s).data.toList = Lib.trimPrefix s.data.toList [45] := by simp [dOf]
theorem dOf_size (s : ByteArray) : (dOf s).size ≤ s.size := by
  have h : (dOf s).size = (Lib.trimPrefix s.data.toList [45]).length := by simp [dOf, ByteArray.size]
  have h2 : s.size = s.data.toList.length := by simp
  rw [h, h2]
  unfold Lib.trimPrefix
  split
  · simp
  · exact Nat.le_refl _
theorem data_of {s : ByteArray} {l : List UInt8} (h : s.data.toList = l) : s = ⟨l.toArray⟩ := ByteArray.ext (Array.ext' (by rw [h]))
def goodB (s : ByteArray) : Bool := plainB (dOf s).data.toList && !(belowB s && decide ((dOf s).data.toList = [48]))
def parseV (s : ByteArray) : Int := if goodB s then sgnV (val (dOf s).data.toList) (belowB s) else 0
def parseB (s : ByteArray) : Bool := if goodB s then sgnB (val (dOf s).data.toList) (belowB s) else false
def Parses (s : ByteArray) (w : World) (e : Ending) (w' : World) : Prop := e = .returned (.tuple #[.int .i64 (parseV s), .bool (parseB s)]) ∧ w = w'
theorem parse_no {s : ByteArray} {w : World} (h : goodB s = false) : Parses s w (.returned (.tuple #[.int .i64 0, .bool false])) w := by
  unfold Parses parseV parseB; rw [h]; exact ⟨rfl, rfl⟩
theorem parse_yes {s : ByteArray} {w : World} (h : goodB s = true) : Parses s w (.returned (.tuple #[.int .i64 (sgnV (val (dOf s).data.toList) (belowB s)), .bool (sgnB (val (dOf s).data.toList) (belowB s))])) w := by
  unfold Parses parseV parseB; rw [h]; exact ⟨rfl, rfl⟩
theorem good_plain {s : ByteArray} (h : plainB (dOf s).data.toList = false) : goodB s = false := by unfold goodB; rw [h]; rfl
theorem good_zero {s : ByteArray} (h : belowB s = true) (g : (dOf s).data.toList = [48]) : goodB s = false := by unfold goodB; rw [h, g]; rfl
theorem good_yes {s : ByteArray} (h : plainB (dOf s).data.toList = true) (g : belowB s = false ∨ (dOf s).data.toList ≠ [48]) : goodB s = true := by
  unfold goodB; rw [h]
  rcases g with g | g
  · rw [g]; rfl
  · simp [g]
theorem plainB_all {l : List UInt8} (h : plainB l = true) : l.all isD = true ∧ l ≠ [] ∧ l.length ≤ 19 ∧ (l.length ≤ 1 ∨ l.head? ≠ some 48) := by
  unfold plainB at h
  simp only [Bool.and_eq_true, decide_eq_true_eq] at h
  exact ⟨h.1.1.1, h.1.1.2, h.1.2, h.2⟩
theorem all_at {l : List UInt8} (h : l.all isD = true) {k : Nat} (hk : k < l.length) : 48 ≤ l[k].toNat ∧ l[k].toNat ≤ 57 := by
  have := List.all_eq_true.1 h l[k] (List.getElem_mem hk)
  simpa [isD] using this
theorem val_take_lt {l : List UInt8} (h : l.all isD = true) {k : Nat} (h19 : k ≤ 19) : val (l.take k) < 10000000000000000000 := by
  have h1 : (l.take k).all isD = true := List.all_eq_true.2 fun x hx => List.all_eq_true.1 h x (List.mem_of_mem_take hx)
  have h2 := val_lt _ h1
  have h3 : (l.take k).length ≤ 19 := Nat.le_trans (List.length_take_le _ _) h19
  exact Nat.lt_of_lt_of_le h2 (Nat.pow_le_pow_right (by omega) h3)
theorem val_take_small {l : List UInt8} (h : l.all isD = true) {k : Nat} (h18 : k ≤ 18) : val (l.take k) < 1000000000000000000 := by
  have h1 : (l.take k).all isD = true := List.all_eq_true.2 fun x hx => List.all_eq_true.1 h x (List.mem_of_mem_take hx)
  have h2 := val_lt _ h1
  have h3 : (l.take k).length ≤ 18 := Nat.le_trans (List.length_take_le _ _) h18
  exact Nat.lt_of_lt_of_le h2 (Nat.pow_le_pow_right (by omega) h3)
theorem parse_yes' {s : ByteArray} {w : World} {b : Bool} (h : goodB s = true) (hb : belowB s = b) : Parses s w (.returned (.tuple #[.int .i64 (sgnV (val (dOf s).data.toList) b), .bool (sgnB (val (dOf s).data.toList) b)])) w := by
  subst hb; exact parse_yes h
end Go.Proofs.YtookojgemipakaaDoor.Num

/- Parse of a number's text is the number; what Parse tells is the number that the text is of. -/
namespace Go.Proofs.YtookojgemipakaaDoor.Num
open Go.RowKit Go.Proofs.YtookojgemipakaaDoor
set_option maxRecDepth 100000

theorem dg_plain {m : Nat} (h : m ≤ 9223372036854775808) : plainB (dg m) = true := by
  unfold plainB
  simp only [Bool.and_eq_true, decide_eq_true_eq]
  refine ⟨⟨⟨dg_all m, dg_ne m⟩, length_dg 18 m (by omega)⟩, ?_⟩
  by_cases h10 : m < 10
  · left; rw [dg_lt h10]; simp
  · obtain ⟨c, r, e, _, hc⟩ := dg_head m (by omega)
    right
    rw [e]
    intro h48
    simp at h48
    subst h48
    simp at hc
/-- What 'Parse' says of a number's text. -/
theorem parse_txt {n : Int} (h0 : -9223372036854775808 ≤ n) (h1 : n ≤ 9223372036854775807) : parseV ⟨(txt n).toArray⟩ = n ∧ parseB ⟨(txt n).toArray⟩ = true := by
  by_cases hn : n < 0
  · have ht : txt n = 45 :: dg (sizeN n) := by unfold txt sizeN; rw [if_pos hn]
    have hb : belowB ⟨(txt n).toArray⟩ = true := by unfold belowB Lib.hasPrefix; rw [txt_list, isPrefix_45, ht]; simp
    have hd : (dOf ⟨(txt n).toArray⟩).data.toList = dg (sizeN n) := by
      rw [dOf_list, txt_list]
      unfold Lib.trimPrefix Lib.hasPrefix
      rw [isPrefix_45, ht]
      simp
    have hs : sizeN n ≤ 9223372036854775808 := by unfold sizeN; omega
    have hz : dg (sizeN n) ≠ [48] := by
      intro e
      have := congrArg val e
      rw [val_dg] at this
      unfold sizeN at this
      rw [show val [48] = 0 from rfl] at this
      omega
    have hg : goodB ⟨(txt n).toArray⟩ = true := good_yes (by rw [hd]; exact dg_plain hs) (.inr (by rw [hd]; exact hz))
    have hv : sgnV (sizeN n) true = n := by unfold sgnV; rw [if_pos rfl, if_neg (by omega), ← size_neg hn]; omega
    have hw : sgnB (sizeN n) true = true := by unfold sgnB; rw [if_pos rfl, if_neg (by omega)]
    unfold parseV parseB
    rw [hg, hb, hd, val_dg, if_pos rfl, if_pos rfl]
    exact ⟨hv, hw⟩
  · have ht : txt n = dg (sizeN n) := by unfold txt sizeN; rw [if_neg hn]
    have hb : belowB ⟨(txt n).toArray⟩ = false := by
      unfold belowB Lib.hasPrefix; rw [txt_list, isPrefix_45, ht]; exact decide_eq_false (dg_first _)
    have hd : (dOf ⟨(txt n).toArray⟩).data.toList = dg (sizeN n) := by
      rw [dOf_list, txt_list]
      unfold Lib.trimPrefix Lib.hasPrefix
      rw [isPrefix_45, ht, decide_eq_false (dg_first _)]
      rfl
    have hs : sizeN n ≤ 9223372036854775807 := by unfold sizeN; omega
    have hg : goodB ⟨(txt n).toArray⟩ = true := good_yes (by rw [hd]; exact dg_plain (by omega)) (.inl hb)
    have hv : sgnV (sizeN n) false = n := by unfold sgnV; rw [if_neg (by decide), if_neg (by omega), ← size_pos hn]
    have hw : sgnB (sizeN n) false = true := by unfold sgnB; rw [if_neg (by decide), if_neg (by omega)]
    unfold parseV parseB
    rw [hg, hb, hd, val_dg, if_pos rfl, if_pos rfl]
    exact ⟨hv, hw⟩
theorem parse_off {s : ByteArray} (h : parseB s = false) : parseV s = 0 := by
  unfold parseB at h
  unfold parseV
  by_cases hg : goodB s = true
  · rw [if_pos hg] at h ⊢
    unfold sgnB at h
    unfold sgnV
    cases hb : belowB s <;> rw [hb] at h <;> simp at h ⊢
    · intro; omega
    · intro; omega
  · rw [if_neg hg]
theorem parse_on {s : ByteArray} (h : parseB s = true) : txt (parseV s) = s.data.toList ∧ -9223372036854775808 ≤ parseV s ∧ parseV s ≤ 9223372036854775807 := by
  unfold parseB at h
  unfold parseV
  by_cases hg : goodB s = true
  · rw [if_pos hg] at h ⊢
    have hp : plainB (dOf s).data.toList = true := by
      unfold goodB at hg; rw [Bool.and_eq_true] at hg; exact hg.1
    obtain ⟨ha, hne, _, hz⟩ := plainB_all hp
    have hback := dg_val _ hne ha hz
    have hdl := dOf_list s
    unfold Lib.trimPrefix Lib.hasPrefix at hdl
    unfold goodB at hg
    rw [hp, Bool.true_and] at hg
    cases hb : belowB s
    · rw [hb] at h
      have hnp : ([45] : List UInt8).isPrefixOf s.data.toList = false := hb
      rw [if_neg (by rw [hnp]; decide)] at hdl
      unfold sgnB at h
      simp at h
      unfold sgnV
      rw [if_neg (by decide), if_neg (by omega)]
      refine ⟨?_, by omega, by omega⟩
      unfold txt
      rw [if_neg (by omega), Int.natAbs_natCast, hback, hdl]
    · rw [hb] at h hg
      have hnp : ([45] : List UInt8).isPrefixOf s.data.toList = true := hb
      rw [if_pos hnp] at hdl
      unfold sgnB at h
      simp at h
      simp only [Bool.true_and, Bool.not_eq_true', decide_eq_false_iff_not] at hg
      have hv : val (dOf s).data.toList ≠ 0 := by
        intro e
        rw [e, dg_lt (by omega)] at hback
        exact hg (by rw [← hback]; rfl)
      unfold sgnV
      rw [if_pos rfl, if_neg (by omega)]
      refine ⟨?_, by omega, by omega⟩
      unfold txt
      rw [if_pos (by omega), Int.natAbs_neg, Int.natAbs_natCast, hback, hdl]
      rw [isPrefix_45] at hnp
      cases hs : s.data.toList with
      | nil => rw [hs] at hnp; simp at hnp
      | cons c r => rw [hs] at hnp; simp at hnp; subst hnp; rfl
  · rw [if_neg hg] at h; cases h
end Go.Proofs.YtookojgemipakaaDoor.Num


/- Values' texts as the law has them; what may be; what is read. -/
namespace Go.Proofs.YtookojgemipakaaDoor.Vd
open Go.RowKit Go.Proofs.YtookojgemipakaaDoor Go.Proofs.YtookojgemipakaaDoor.Door Go.Proofs.YtookojgemipakaaDoor.Ev Go.Proofs.YtookojgemipakaaDoor.Sch Go.Proofs.YtookojgemipakaaDoor.Evl Go.Proofs.YtookojgemipakaaDoor.Ty
set_option linter.unusedVariables false
set_option maxRecDepth 100000
theorem dbl_append : ∀ a b : List UInt8, dbl (a ++ b) = dbl a ++ dbl b
  | [], _ => rfl
  | c :: a, b => by
    have ih := dbl_append a b
    by_cases h : c = 39
    · simp [dbl, h, ih]
    · simp [dbl, h, ih]
def acc (l : List UInt8) (i : Nat) : ByteArray := B (39 :: dbl (l.take i))
theorem add_B (a b : List UInt8) : B a ++ B b = B (a ++ b) := by
  unfold B
  apply ByteArray.ext
  apply Array.ext'
  simp
/-- A value's text. -/
def showB (v : VV) : ByteArray := if v.k = 1 then ⟨(Num.txt v.i).toArray⟩ else if v.k = 2 then quoteB v.s else if v.k = 3 then truthB v.b else ⟨#[63]⟩
theorem d_ne {k n : Int} (h : ¬ k = n) : (k == n) = false := beq_eq_false_iff_ne.2 h
theorem show_any (k i : Int) (s : ByteArray) (b : Bool) (w : World) (hm : ML w) (hs : s.size < 1000000) (h0 : -9223372036854775808 ≤ i) (h1 : i ≤ 9223372036854775807) :
    Calls Tryd.prog 59 #[.agg #[.int .i64 k, .int .i64 i, .string s, .bool b]] w fun e w' => e = .returned (.string (showB ⟨k, i, s, b⟩)) ∧ Below w.heap.size w w' := by
  by_cases k1 : k = 1
  · subst k1
    rw [show showB ⟨1, i, s, b⟩ = ⟨(Num.txt i).toArray⟩ from rfl]
    obtain ⟨R, hR⟩ : ∃ R : ByteArray, (⟨(Num.txt i).toArray⟩ : ByteArray) = R := ⟨_, rfl⟩
    have HD := Lib.hid (fun w => Num.digits_any' i w h0 h1)
    rw [hR] at HD ⊢
    clear hR h0 h1 hs hm
    go_enter Tryd.func59, Tryd.ntmps59
    go_wp2_with fail
    refine (HD.out _).mono ?_
    rintro e w1 ⟨rfl, hb⟩
    have HB := Lib.hid hb
    clear hb
    go_wp2
    go_ret
    exact ⟨rfl, (show Below w.heap.size w _ from by go_grown).trans (HB.out.mono (show Below w.heap.size w _ from by go_grown).size)⟩
  · by_cases k2 : k = 2
    · subst k2
      exact show_text b i s w hm hs
    · by_cases k3 : k = 3
      · subst k3
        exact show_truth b i s w
      · rw [show showB ⟨k, i, s, b⟩ = ⟨#[63]⟩ by unfold showB; rw [if_neg k1, if_neg k2, if_neg k3]]
        have e1 := d_ne k1
        have e2 := d_ne k2
        have e3 := d_ne k3
        clear k1 k2 k3 hm hs h0 h1
        go_enter Tryd.func59, Tryd.ntmps59
        go_wp2
        go_ret
        exact ⟨rfl, by go_grown⟩
end Go.Proofs.YtookojgemipakaaDoor.Vd

