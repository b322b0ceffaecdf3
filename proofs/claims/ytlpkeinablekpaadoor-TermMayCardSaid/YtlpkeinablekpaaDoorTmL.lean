/- May, decided; one part with constants; names. -/
import Derived.Test.YtlpkeinablekpaaDoorEvlJ3
import Derived.Test.YtlpkeinablekpaaDoorDoor
import Derived.Test.YtlpkeinablekpaaDoorVdR
import Derived.Test.YtlpkeinablekpaaDoorVdK
import Derived.Test.YtlpkeinablekpaaDoorApp
import Derived.BigRegion
import Derived.Test.YtlpkeinablekpaaDoorBits
namespace Go.Proofs.YtlpkeinablekpaaDoor.Tm
open Go.RowKit Go.Proofs.YtlpkeinablekpaaDoor Go.Proofs.YtlpkeinablekpaaDoor.Door Go.Proofs.YtlpkeinablekpaaDoor.Ev Go.Proofs.YtlpkeinablekpaaDoor.Sch Go.Proofs.YtlpkeinablekpaaDoor.Evl Go.Proofs.YtlpkeinablekpaaDoor.Ty
set_option linter.unusedVariables false
set_option maxRecDepth 100000
noncomputable def goodB (l : List Nd) : Bool := @decide (Ty.Good l) (Classical.propDecidable _)
theorem goodB_yes {l : List Nd} (h : Ty.Good l) : goodB l = true := by unfold goodB; exact @decide_eq_true _ (Classical.propDecidable _) h
theorem goodB_no {l : List Nd} (h : ¬ Ty.Good l) : goodB l = false := by unfold goodB; exact @decide_eq_false _ (Classical.propDecidable _) h
theorem goodB_eq {l : List Nd} {P : Bool} (h : Ty.Good l ↔ P = true) : goodB l = P := by
  cases P
  · exact goodB_no (fun x => by have := h.1 x; cases this)
  · exact goodB_yes (h.2 rfl)
theorem tmay_dec (v : Value) (l : List Nd) (w : World) (hl : Ns w w.heap.size v l) : Calls Tryd.prog 11 #[v] w fun e w' => e = .returned (.bool (goodB l)) ∧ Below w.heap.size w w' := by
  by_cases h : Ty.Good l
  · rw [goodB_yes h]
    exact tmay_yes v l w hl h
  · rw [goodB_no h]
    exact (tmay_any v l w hl).mono fun e w' hq => false_of hq h
theorem nd_at (l : List Nd) (k : Nat) (h : k < l.length) (j : Nat) (hj : j < 7) : (l.flatMap Nd.cells)[k * 7 + j]? = l[k].cells[j]? := by
  induction l generalizing k with
  | nil => simp at h
  | cons x l ih =>
    have hx : x.cells.length = 7 := rfl
    cases k with
    | zero =>
      simp only [List.flatMap_cons, Nat.zero_mul, Nat.zero_add, List.getElem_cons_zero]
      rw [List.getElem?_append_left (by rw [hx]; exact hj)]
    | succ k =>
      simp only [List.flatMap_cons, List.getElem_cons_succ]
      rw [List.getElem?_append_right (by rw [hx]; omega), hx, show (k + 1) * 7 + j - 7 = k * 7 + j from by omega]
      exact ih k (by simpa using h)
theorem ns_row {w : World} {g B n : Nat} {l : List Nd} (h : Row w g 25 (l.flatMap Nd.cells).toArray) (hB : g < B) (hn : l.length = n) (hm : n ≤ 1000) : Ns w B (.slice (some ⟨g, 0, none⟩) n n) l := by
  subst hn
  refine ⟨some ⟨g, 0, none⟩, l.length, rfl, Nat.le_refl _, by omega, fun k hk => ⟨g, 0, rfl, hB, fun j u hj => ?_⟩⟩
  have h7 : j < 7 := by
    have := (List.getElem?_eq_some_iff.1 hj).1
    exact this
  rw [Nat.zero_add, h.cell, List.getElem?_toArray, nd_at l k hk j h7]
  exact hj
def cN : Nd := ⟨1, 1, 0, ⟨#[]⟩, false, ⟨#[]⟩, ⟨#[]⟩⟩
def oneL (n : Nd) : List Nd := if partsI n.op = 0 then [n] else if partsI n.op = 1 then [cN, n] else [cN, cN, n]
def OneE (n : Nd) (w : World) (e : Ending) (w' : World) : Prop := ∃ v, e = .returned v ∧ Ns w' w'.heap.size v (oneL n) ∧ Below w.heap.size w w'
theorem row_2 (w : World) (a b : Obj) (t : TypeId) (cs : Array Value) : Row (((w.alloc a).alloc b).alloc (.cells cs t)) (w.heap.size + 1 + 1) t cs := by simpa using Row.made ((w.alloc a).alloc b) t cs
theorem one_any (op k i : Int) (s : ByteArray) (b : Bool) (v f : ByteArray) (w : World) : Calls Tryd.prog 12 #[.agg #[.int .i64 op, .int .i64 k, .int .i64 i, .string s, .bool b, .string v, .string f]] w (OneE ⟨op, k, i, s, b, v, f⟩ w) := by
  have HP := Lib.hid (fun w => refParts_any op w)
  have HL : Hid (oneL ⟨op, k, i, s, b, v, f⟩ = if partsI op = 0 then [⟨op, k, i, s, b, v, f⟩] else if partsI op = 1 then [cN, ⟨op, k, i, s, b, v, f⟩] else [cN, cN, ⟨op, k, i, s, b, v, f⟩]) := rfl
  obtain ⟨p, hp⟩ : ∃ p, partsI op = p := ⟨_, rfl⟩
  rw [hp] at HL
  have HPP := Lib.hid hp
  clear hp
  by_cases h0 : p = 0
  · subst h0
    rw [if_pos rfl] at HL
    go_enter Tryd.func12, Tryd.ntmps12
    go_wp2_with fail
    refine (HP.out _).mono ?_
    rintro e w1 ⟨rfl, rfl⟩
    rw [HPP.out]
    go_wp2
    go_ret
    refine ⟨_, rfl, ?_, by go_grown⟩
    rw [HL.out]
    exact ns_row (g := w.heap.size + 1 + 1) (row_2 w _ _ 25 _) (by simp) rfl (by omega)
  · have e0 : (p == 0) = false := beq_eq_false_iff_ne.2 h0
    rw [if_neg h0] at HL
    by_cases h1 : p = 1
    · subst h1
      rw [if_pos rfl] at HL
      clear h0
      go_enter Tryd.func12, Tryd.ntmps12
      go_wp2_with fail
      refine (HP.out _).mono ?_
      rintro e w1 ⟨rfl, rfl⟩
      rw [HPP.out]
      go_wp2
      go_ret
      refine ⟨_, rfl, ?_, by go_grown⟩
      rw [HL.out]
      exact ns_row (g := w.heap.size + 1 + 1) (row_2 w _ _ 25 _) (by simp) rfl (by omega)
    · have e1 : (p == 1) = false := beq_eq_false_iff_ne.2 h1
      rw [if_neg h1] at HL
      clear h0 h1
      go_enter Tryd.func12, Tryd.ntmps12
      go_wp2_with fail
      refine (HP.out _).mono ?_
      rintro e w1 ⟨rfl, rfl⟩
      rw [HPP.out]
      go_wp2
      go_ret
      refine ⟨_, rfl, ?_, by go_grown⟩
      rw [HL.out]
      exact ns_row (g := w.heap.size + 1 + 1) (row_2 w _ _ 25 _) (by simp) rfl (by omega)
theorem parts_le (op : Int) : -1 ≤ partsI op ∧ partsI op ≤ 2 := by
  unfold partsI
  split
  · omega
  · split
    · omega
    · split <;> omega
theorem ok_cN : OkN cN := .const (.num 0 rfl)
/-- A part behind constants is a predicate just where it has what it needs. -/
theorem good_one (n : Nd) : Ty.Good (oneL n) ↔ OkN n := by
  have hc : partsI cN.op = 0 := rfl
  constructor
  · intro h
    unfold oneL at h
    split at h
    · exact h.ok 0 (by simp)
    · split at h
      · exact h.ok 1 (by simp)
      · exact h.ok 2 (by simp)
  · intro h
    have hp := h.parts
    unfold oneL
    split
    · rename_i h0
      refine ⟨by simp, fun k hk => ?_, fun k hk => ?_, ?_⟩
      · obtain rfl : k = 0 := by simp at hk; omega
        exact h
      · obtain rfl : k = 0 := by simp at hk; omega
        show partsI n.op ≤ dep []
        rw [h0]; decide
      · show dep [n] = 1
        simp [dep, h0]
    · split
      · rename_i h0 h1
        refine ⟨by simp, fun k hk => ?_, fun k hk => ?_, ?_⟩
        · rcases (show k = 0 ∨ k = 1 by simp at hk; omega) with rfl | rfl
          · exact ok_cN
          · exact h
        · rcases (show k = 0 ∨ k = 1 by simp at hk; omega) with rfl | rfl
          · show partsI cN.op ≤ dep []
            rw [hc]; decide
          · show partsI n.op ≤ dep [cN]
            rw [h1]; decide
        · show dep [cN, n] = 1
          simp [dep, h1, hc]
      · rename_i h0 h1
        have h2 : partsI n.op = 2 := by omega
        refine ⟨by simp, fun k hk => ?_, fun k hk => ?_, ?_⟩
        · rcases (show k = 0 ∨ k = 1 ∨ k = 2 by simp at hk; omega) with rfl | rfl | rfl
          · exact ok_cN
          · exact ok_cN
          · exact h
        · rcases (show k = 0 ∨ k = 1 ∨ k = 2 by simp at hk; omega) with rfl | rfl | rfl
          · show partsI cN.op ≤ dep []
            rw [hc]; decide
          · show partsI cN.op ≤ dep [cN]
            rw [hc]; decide
          · show partsI n.op ≤ dep [cN, cN]
            rw [h2]; decide
        · show dep [cN, cN, n] = 1
          simp [dep, h2, hc]
theorem name_any (s : ByteArray) (w : World) : Calls Tryd.prog 9 #[.string s] w fun e w' => e = .returned (.bool (nameB s.data.toList)) ∧ Below w.heap.size w w' := by
  have hx : nameB ((⟨#[120]⟩ : ByteArray)).data.toList = true := by decide
  have hg : goodB [⟨2, 0, 0, ⟨#[]⟩, false, s, ⟨#[120]⟩⟩] = nameB s.data.toList := goodB_eq (by
    have h1 := good_one ⟨2, 0, 0, ⟨#[]⟩, false, s, ⟨#[120]⟩⟩
    rw [show oneL ⟨2, 0, 0, ⟨#[]⟩, false, s, ⟨#[120]⟩⟩ = [⟨2, 0, 0, ⟨#[]⟩, false, s, ⟨#[120]⟩⟩] from rfl] at h1
    rw [h1]
    constructor
    · intro h
      cases h with
      | field hv hf => exact hv
    · exact fun h => .field h hx)
  have HG := Lib.hid hg
  clear hg hx
  have HR : Hid (Row (w.alloc (.cells #[.int .i64 2, .int .i64 0, .int .i64 0, .string ⟨#[]⟩, .bool false, .string s, .string ⟨#[120]⟩] 25)) w.heap.size 25 #[.int .i64 2, .int .i64 0, .int .i64 0, .string ⟨#[]⟩, .bool false, .string s, .string ⟨#[120]⟩]) := Row.made _ _ _
  have HB : Hid (Below w.heap.size w (w.alloc (.cells #[.int .i64 2, .int .i64 0, .int .i64 0, .string ⟨#[]⟩, .bool false, .string s, .string ⟨#[120]⟩] 25))) := (Below.refl _ w).alloc (Nat.le_refl _) _
  go_enter Tryd.func9, Tryd.ntmps9
  go_wp2_with fail
  refine (tmay_dec _ [⟨2, 0, 0, ⟨#[]⟩, false, s, ⟨#[120]⟩⟩] _ (ns_row (n := 1) HR.out HR.out.lt rfl (by omega))).mono ?_
  rintro e w1 ⟨rfl, hb⟩
  rw [HG.out]
  have HB1 := Lib.hid (HB.out.trans (hb.mono HB.out.size))
  clear hb
  go_wp2
  go_ret
  exact ⟨rfl, HB1.out⟩
end Go.Proofs.YtlpkeinablekpaaDoor.Tm

/- What parts are written as; the text of one predicate. -/
namespace Go.Proofs.YtlpkeinablekpaaDoor.Tm
open Go.RowKit Go.Proofs.YtlpkeinablekpaaDoor Go.Proofs.YtlpkeinablekpaaDoor.Door Go.Proofs.YtlpkeinablekpaaDoor.Ev Go.Proofs.YtlpkeinablekpaaDoor.Sch Go.Proofs.YtlpkeinablekpaaDoor.Evl Go.Proofs.YtlpkeinablekpaaDoor.Ty Go.Proofs.YtlpkeinablekpaaDoor.Vd
set_option linter.unusedVariables false
set_option maxRecDepth 100000
/-- The field a.x is written. -/
theorem wr_field (A : Option Addr) (n c : Nat) (w : World) : Calls Tryd.prog 42 #[.agg #[.int .i64 2, .int .i64 0, .int .i64 0, .string ⟨#[]⟩, .bool false, .string ⟨#[97]⟩, .string ⟨#[120]⟩], .slice A n c] w fun e w' => e = .returned (.string ⟨#[97, 46, 120]⟩) ∧ Below w.heap.size w w' := by
  go_enter Tryd.func42, Tryd.ntmps42
  go_wp2
  go_ret
  exact ⟨rfl, by go_grown⟩
theorem bare_any (k : Int) (w : World) : Calls Tryd.prog 40 #[.agg #[.int .i64 1, .int .i64 1, .int .i64 3, .string ⟨#[]⟩, .bool false, .string ⟨#[]⟩, .string ⟨#[]⟩]] w fun e w' => e = .returned (.bool true) ∧ Below w.heap.size w w' := by
  go_enter Tryd.func40, Tryd.ntmps40
  go_wp2
  go_ret
  exact ⟨rfl, by go_grown⟩
theorem show_B3 : showB ⟨1, 3, ⟨#[]⟩, false⟩ = ⟨#[51]⟩ := by
  show (⟨(Num.txt 3).toArray⟩ : ByteArray) = _
  unfold Num.txt
  rw [if_neg (by decide), Num.dg_lt (by decide)]
  rfl
theorem wr_num (A : Option Addr) (n c : Nat) (w : World) (hm : ML w) : Calls Tryd.prog 42 #[.agg #[.int .i64 1, .int .i64 1, .int .i64 3, .string ⟨#[]⟩, .bool false, .string ⟨#[]⟩, .string ⟨#[]⟩], .slice A n c] w fun e w' => e = .returned (.string ⟨#[51]⟩) ∧ Below w.heap.size w w' := by
  have HM := Lib.hid hm
  clear hm
  have HR : Hid (Row (w.alloc (.cells #[.int .i64 1, .int .i64 1, .int .i64 3, .string ⟨#[]⟩, .bool false, .string ⟨#[]⟩, .string ⟨#[]⟩] 25)) w.heap.size 25 #[.int .i64 1, .int .i64 1, .int .i64 3, .string ⟨#[]⟩, .bool false, .string ⟨#[]⟩, .string ⟨#[]⟩]) := Row.made _ _ _
  have HB : Hid (Below w.heap.size w (w.alloc (.cells #[.int .i64 1, .int .i64 1, .int .i64 3, .string ⟨#[]⟩, .bool false, .string ⟨#[]⟩, .string ⟨#[]⟩] 25))) := (Below.refl _ w).alloc (Nat.le_refl _) _
  go_enter Tryd.func42, Tryd.ntmps42
  go_wp2_with fail
  refine (bare_any 0 _).mono ?_
  rintro e w1 ⟨rfl, hb⟩
  have HR1 := Lib.hid (HR.out.below hb HR.out.lt)
  have HB1 := Lib.hid (HB.out.trans (hb.mono HB.out.size))
  have c0 := HR1.out.is 0 rfl
  have c1 := HR1.out.is 1 rfl
  have c2 := HR1.out.is 2 rfl
  have c3 := HR1.out.is 3 rfl
  have c4 := HR1.out.is 4 rfl
  clear hb
  go_wp2_with fail
  refine (show_any 1 3 ⟨#[]⟩ false _ (HM.out.below HB1.out) (by decide) (by omega) (by omega)).mono ?_
  rw [show_B3]
  rintro e w2 ⟨rfl, hb⟩
  have HB2 := Lib.hid (HB1.out.trans (hb.mono HB1.out.size))
  clear hb c0 c1 c2 c3 c4
  go_wp2
  go_ret
  exact ⟨rfl, HB2.out⟩
theorem sign_11 (w : World) : Calls Tryd.prog 17 #[.int .i64 11] w fun e w' => e = .returned (.string ⟨#[62]⟩) ∧ w = w' := by
  go_enter Tryd.func17, Tryd.ntmps17
  go_wp2
  go_ret
  exact ⟨rfl, rfl⟩
theorem brack_lit (w : World) : Calls Tryd.prog 41 #[.string ⟨#[97, 46, 120, 32, 62, 32, 51]⟩] w fun e w' => e = .returned (.string ⟨#[40, 97, 46, 120, 32, 62, 32, 51, 41]⟩) ∧ w = w' := by
  go_enter Tryd.func41, Tryd.ntmps41
  go_wp2
  go_ret
  exact ⟨rfl, rfl⟩
set_option maxHeartbeats 1000000 in
theorem wr_op (g o c : Nat) (w : World) (h0 : w.cell? ⟨g, o, none⟩ = some (.string ⟨#[97, 46, 120]⟩)) (h1 : w.cell? ⟨g, o + 1, none⟩ = some (.string ⟨#[51]⟩)) :
    Calls Tryd.prog 42 #[.agg #[.int .i64 11, .int .i64 0, .int .i64 0, .string ⟨#[]⟩, .bool false, .string ⟨#[]⟩, .string ⟨#[]⟩], .slice (some ⟨g, o, none⟩) 2 c] w fun e w' => e = .returned (.string ⟨#[40, 97, 46, 120, 32, 62, 32, 51, 41]⟩) ∧ Below w.heap.size w w' := by
  have hlt : g < w.heap.size := World.block_lt_of_cell? w _ h0
  have HB : Hid (Below w.heap.size w (w.alloc (.cells #[.int .i64 11, .int .i64 0, .int .i64 0, .string ⟨#[]⟩, .bool false, .string ⟨#[]⟩, .string ⟨#[]⟩] 25))) := (Below.refl _ w).alloc (Nat.le_refl _) _
  have k0 := (HB.out.cell (p := ⟨g, o, none⟩) hlt).trans h0
  have k1 := (HB.out.cell (p := ⟨g, o + 1, none⟩) hlt).trans h1
  clear h0 h1 hlt
  go_enter Tryd.func42, Tryd.ntmps42
  go_upto_region 9 with fail
  go_quiet (first
    | (go_at_call 17; exact Calls.quiet_of_same (flip2 (sign_11 _)))
    | (go_at_call 41; exact Calls.quiet_of_same (flip2 (brack_lit _))))
  go_wp2
  go_ret
  exact ⟨rfl, below_dN HB.out _⟩
theorem Seg.pre {w : World} {e : TypeId} {A : Option Addr} {n k cap : Nat} {xs : List Value} {ob : Option Nat} (h : Seg w e 1 (.slice A n cap) n xs ob) (hk : k ≤ n) : Seg w e 1 (.slice A k cap) k (xs.take k) ob := by
  obtain ⟨h0, A', cap', hv, h1, h2, h3⟩ := h
  injection hv with e1 _ e3
  subst e1 e3
  refine ⟨by rw [List.length_take]; omega, A, cap, rfl, by omega, h2, ?_⟩
  rcases h3 with ⟨a1, a2, a3⟩ | ⟨g, o, cur, a1, a2, a3, a4, a5⟩
  · exact .inl ⟨a1, a2, a3⟩
  · refine .inr ⟨g, o, cur, a1, a2, a3, a4, ?_⟩
    rw [← a5, List.take_take]
    congr 1
    omega
def S1 : Value := .string ⟨#[97, 46, 120]⟩
def S2 : Value := .string ⟨#[51]⟩
def S3 : Value := .string ⟨#[40, 97, 46, 120, 32, 62, 32, 51, 41]⟩
def txs : Nat → List Value
  | 0 => []
  | 1 => [S1]
  | 2 => [S1, S2]
  | _ => [S3]
def litL : List Nd := [⟨2, 0, 0, ⟨#[]⟩, false, ⟨#[97]⟩, ⟨#[120]⟩⟩, ⟨1, 1, 3, ⟨#[]⟩, false, ⟨#[]⟩, ⟨#[]⟩⟩, ⟨11, 0, 0, ⟨#[]⟩, false, ⟨#[]⟩, ⟨#[]⟩⟩]
theorem litL_good : Ty.Good litL := by
  refine ⟨by decide, fun k hk => ?_, fun k hk => ?_, by decide⟩
  · rcases (show k = 0 ∨ k = 1 ∨ k = 2 by have : litL.length = 3 := rfl; omega) with rfl | rfl | rfl
    · exact .field (by decide) (by decide)
    · exact .const (.num 3 rfl)
    · exact .op 11 (by omega) (by omega)
  · rcases (show k = 0 ∨ k = 1 ∨ k = 2 by have : litL.length = 3 := rfl; omega) with rfl | rfl | rfl
    · show partsI 2 ≤ dep (litL.take 0)
      decide
    · show partsI 1 ≤ dep (litL.take 1)
      decide
    · show partsI 11 ≤ dep (litL.take 2)
      decide
/-- The texts so far. -/
theorem str_info : (Tryd.prog.info? 9).map (fun i => (i.zero, i.size, i.bytes)) = some (some (.string ⟨#[]⟩), 1, 16) := by kernel_rfl
def TI (w W : World) (i : Nat) (v : Value) : Prop := (i = 0 → v = .slice none 0 0) ∧ ∃ ob, Seg W 9 1 v (txs i).length (txs i) ob ∧ (∀ g, ob = some g → w.heap.size ≤ g) ∧ Below w.heap.size w W
theorem lies_one (w : World) (s : ByteArray) : Lies (w.alloc (.cells #[.string s] 9)) (w.heap.size + 1) (some ⟨w.heap.size, 0, none⟩) 1 (fun _ => .string s) := fun k hk => by
  obtain rfl : k = 0 := by omega
  exact ⟨w.heap.size, 0, rfl, Nat.lt_succ_self _, (Row.made w 9 #[.string s]).is 0 rfl⟩
theorem TI.next {w wr w5 w6 : World} {i n : Nat} {s : ByteArray} {ob ob6 : Option Nat} {v6 : Value} {xs : List Value} (hob : ∀ g, ob = some g → w.heap.size ≤ g) (hbe : Below w.heap.size w wr) (hb5 : Below wr.heap.size wr w5)
    (hs : Seg w6 9 1 v6 n xs ob6) (ht : Turns (w5.alloc (.cells #[.string s] 9)) w6 (fun k => ob = some k)) (ho : ob6 = ob ∨ ∃ g, ob6 = some g ∧ (w5.alloc (.cells #[.string s] 9)).heap.size ≤ g) (hn : n = (txs i).length) (hx : xs = txs i) (hi : i ≠ 0) : TI w w6 i v6 := by
  subst hn hx
  have h1 : Below w.heap.size w (w5.alloc (.cells #[.string s] 9)) := (hbe.trans (hb5.mono hbe.size)).alloc (Nat.le_trans hbe.size hb5.size) _
  refine ⟨fun e => absurd e hi, ob6, hs, fun g hg => ?_, ht.below h1 h1.size (fun k hk e => by have := hob k e; omega)⟩
  rcases ho with rfl | ⟨g', e, hge⟩
  · exact hob g hg
  · rw [e] at hg
    injection hg with hg
    subst hg
    exact Nat.le_trans h1.size hge
set_option maxHeartbeats 4000000 in
theorem show_lit (g c : Nat) (w : World) (h : Row w g 25 (litL.flatMap Nd.cells).toArray) (hm : ML w) :
    Calls Tryd.prog 15 #[.slice (some ⟨g, 0, none⟩) 3 3] w fun e w' => e = .returned S3 ∧ Below w.heap.size w w' := by
  have HM := Lib.hid hm
  have HR := Lib.hid h
  have HN := Lib.hid (ns_row (B := w.heap.size) h h.lt rfl (show 3 ≤ 1000 by omega))
  clear hm h
  go_enter Tryd.func15, Tryd.ntmps15
  go_wp2_with fail
  refine (tmay_yes _ litL _ HN.out litL_good).mono ?_
  rintro e w1 ⟨rfl, hb⟩
  have HR1 := Lib.hid (HR.out.below hb HR.out.lt)
  have HB1 := Lib.hid hb
  clear hb
  go_wp2
  go_loopw [3, 13] (fun s3 s13 wr => ∃ i : Nat, i ≤ 3 ∧ s13 = .int .i64 i ∧ Hid (TI w wr i s3)) (fun _ s13 _ => 3 - (intOf s13).toNat)
  case atStart => exact ⟨0, by omega, rfl, fun _ => rfl, none, Seg.nil _ _ _, (fun g e => by cases e), HB1.out⟩
  case round =>
    obtain ⟨i, hi, rfl, HT⟩ := hrel
    obtain ⟨hv0, ob, hs, hob, hbe⟩ := HT.out
    obtain ⟨A, cap, rfl, hcap, hcm⟩ := hs.form
    have hcm2 : cap ≤ 9223372036854775807 := by unfold maxLen at hcm; omega
    have HS := Lib.hid hs
    have HOB := Lib.hid hob
    have HBE := Lib.hid hbe
    have HMW := Lib.hid (HM.out.below hbe)
    have hrw := HR.out.below hbe HR.out.lt
    have HRW := Lib.hid hrw
    have hcl : ∀ j u, (litL.flatMap Nd.cells)[j]? = some u → wr.cell? ⟨g, j, none⟩ = some u := fun j u hj => (hrw.cell j).trans (by rw [List.getElem?_toArray]; exact hj)
    obtain ⟨i0, hi0, hz0, hz1, hz2⟩ := info_parts str_info
    clear hs hob hbe hrw HT
    rcases (show i = 0 ∨ i = 1 ∨ i = 2 ∨ i = 3 by omega) with rfl | rfl | rfl | rfl
    · have hl : (txs 0).length = 0 := rfl
      rw [hl] at hcap HS ⊢
      clear hl
      have e0 := hv0 rfl
      injection e0 with e1 e2 e3
      subst e1 e3
      clear e2
      have c0 := hcl (0 + 0) _ rfl
      have c1 := hcl (0 + 1) _ rfl
      have c2 := hcl (0 + 2) _ rfl
      have c3 := hcl (0 + 3) _ rfl
      have c4 := hcl (0 + 4) _ rfl
      have c5 := hcl (0 + 5) _ rfl
      have c6 := hcl (0 + 6) _ rfl
      simp only [Nat.zero_add] at c0 c1 c2 c3 c4 c5 c6
      clear hcl hv0
      have HSP : Hid (Seg wr 9 1 (.slice none 0 0) 0 ((txs 0).take 0) ob) := Seg.pre HS.out (by omega)
      go_upto_block 1 with fail
      go_cut [3] (fun s3 wx => Hid (TI w wx 1 s3))
      case first =>
        go_upto_region 11 with (go_at_call 16; refine (parts_is 2 0 _ rfl).mono ?_; rintro e w5 ⟨rfl, rfl⟩)
        first | go_region_law (first
          | (go_simp
             go_at_call 42
             refine (wr_field none 0 0 _).mono ?_
             rintro e w5 ⟨rfl, hb⟩
             have HB5 : Hid (Below wr.heap.size wr w5) := (show Below wr.heap.size wr _ from by go_grown).trans (hb.mono (show Below wr.heap.size wr _ from by go_grown).size)
             have HSP5 := Lib.hid (HSP.out.turns (Turns.of_below HB5.out) (fun _ _ x => x))
             clear hb)
          | (refine step_append_lies _ rfl (.tmp 45) (.tmp 49) 66 rfl 9 i0 (.string ⟨#[]⟩) 16 Tryd.underlying66 hi0 hz0 hz1 hz2 rfl _ 0 _ _ rfl (HSP5.out.alloc _) (w5.heap.size + 1) (some ⟨w5.heap.size, 0, none⟩) 1 1 (fun _ => .string ⟨#[97, 46, 120]⟩) rfl (lies_one w5 ⟨#[97, 46, 120]⟩) (fun _ => rfl) (by unfold maxLen; omega) (by omega) ?_
             intro v6 w6 ob6 hs6 ht6 ho6
             have HF : Hid (TI w w6 1 v6) := TI.next HOB.out HBE.out HB5.out hs6 ht6 ho6 rfl rfl (by omega)
             clear hs6 ht6 ho6)
          | fail) | fail
        all_goals
          go_wp2
          go_meet
          exact HF.out
      case rest =>
        go_wp2
        go_roundw
        case rel => exact ⟨1, by omega, by go_num, hcut.out⟩
        case measure => simp [intOf]
    · have hl : (txs 1).length = 1 := rfl
      rw [hl] at hcap HS ⊢
      clear hl
      obtain ⟨b, o, cap', e1, e2, h5, h6, hcl2, _⟩ := HS.out.shape (by decide)
      injection e1 with e1 e3 e4
      subst e1 e4
      clear e3
      have c0 := hcl (7 + 0) _ rfl
      have c1 := hcl (7 + 1) _ rfl
      have c2 := hcl (7 + 2) _ rfl
      have c3 := hcl (7 + 3) _ rfl
      have c4 := hcl (7 + 4) _ rfl
      have c5 := hcl (7 + 5) _ rfl
      have c6 := hcl (7 + 6) _ rfl
      simp only [Nat.reduceAdd] at c0 c1 c2 c3 c4 c5 c6
      have hcI : (1 : Int) ≤ (cap : Int) := by omega
      clear hcl hv0
      have HSP : Hid (Seg wr 9 1 (.slice (some ⟨b, o, none⟩) 1 cap) 1 ((txs 1).take 1) ob) := Seg.pre HS.out (by omega)
      go_upto_block 1 with fail
      go_cut [3] (fun s3 wx => Hid (TI w wx 2 s3))
      case first =>
        go_upto_region 11 with (go_at_call 16; refine (parts_is 1 0 _ rfl).mono ?_; rintro e w5 ⟨rfl, rfl⟩)
        generalize (if cap = 1 then some (⟨b, o, none⟩ : Addr) else some ⟨b, o + 1, none⟩) = oA
        first | go_region_law (first
          | (go_simp
             go_at_call 42
             refine (wr_num oA 0 (cap - 1) _ (HMW.out.below (show Below wr.heap.size wr _ from by go_grown))).mono ?_
             rintro e w5 ⟨rfl, hb⟩
             have HB5 : Hid (Below wr.heap.size wr w5) := (show Below wr.heap.size wr _ from by go_grown).trans (hb.mono (show Below wr.heap.size wr _ from by go_grown).size)
             have HSP5 := Lib.hid (HSP.out.turns (Turns.of_below HB5.out) (fun _ _ x => x))
             clear hb)
          | (refine step_append_lies _ rfl (.tmp 45) (.tmp 49) 66 rfl 9 i0 (.string ⟨#[]⟩) 16 Tryd.underlying66 hi0 hz0 hz1 hz2 rfl _ 1 _ _ rfl (HSP5.out.alloc _) (w5.heap.size + 1) (some ⟨w5.heap.size, 0, none⟩) 1 1 (fun _ => .string ⟨#[51]⟩) rfl (lies_one w5 ⟨#[51]⟩) (fun _ => rfl) (by unfold maxLen; omega) (by omega) ?_
             intro v6 w6 ob6 hs6 ht6 ho6
             have HF : Hid (TI w w6 2 v6) := TI.next HOB.out HBE.out HB5.out hs6 ht6 ho6 rfl rfl (by omega)
             clear hs6 ht6 ho6)
          | fail) | fail
        all_goals
          go_wp2
          go_meet
          exact HF.out
      case rest =>
        go_wp2
        go_roundw
        case rel => exact ⟨2, by omega, by go_num, hcut.out⟩
        case measure => simp [intOf]
    · have hl : (txs 2).length = 2 := rfl
      rw [hl] at hcap HS ⊢
      clear hl
      obtain ⟨b, o, cap', e1, e2, h5, h6, hcl2, _⟩ := HS.out.shape (by decide)
      injection e1 with e1 e3 e4
      subst e1 e4
      clear e3
      have k0 := hcl2 0 _ rfl
      have k1 := hcl2 1 _ rfl
      simp only [Nat.add_zero] at k0
      have c0 := hcl (14 + 0) _ rfl
      have c1 := hcl (14 + 1) _ rfl
      have c2 := hcl (14 + 2) _ rfl
      have c3 := hcl (14 + 3) _ rfl
      have c4 := hcl (14 + 4) _ rfl
      have c5 := hcl (14 + 5) _ rfl
      have c6 := hcl (14 + 6) _ rfl
      simp only [Nat.reduceAdd] at c0 c1 c2 c3 c4 c5 c6
      have hcI : (0 : Int) ≤ (cap : Int) := by omega
      have hcJ : (2 : Int) ≤ (cap : Int) := by omega
      clear hcl hv0
      have HSP : Hid (Seg wr 9 1 (.slice (some ⟨b, o, none⟩) 0 cap) 0 ((txs 2).take 0) ob) := Seg.pre HS.out (by omega)
      go_upto_block 1 with fail
      go_cut [3] (fun s3 wx => Hid (TI w wx 3 s3))
      case first =>
        go_upto_region 11 with (go_at_call 16; refine (parts_is 11 2 _ rfl).mono ?_; rintro e w5 ⟨rfl, rfl⟩)
        have hbl : b < wr.heap.size := World.block_lt_of_cell? wr _ k0
        first | go_region_law (first
          | (go_simp
             go_at_call 42
             refine (wr_op b o cap _ ((show Below wr.heap.size wr _ from by go_grown).cell (p := ⟨b, o, none⟩) hbl |>.trans k0) ((show Below wr.heap.size wr _ from by go_grown).cell (p := ⟨b, o + 1, none⟩) hbl |>.trans k1)).mono ?_
             rintro e w5 ⟨rfl, hb⟩
             have HB5 : Hid (Below wr.heap.size wr w5) := (show Below wr.heap.size wr _ from by go_grown).trans (hb.mono (show Below wr.heap.size wr _ from by go_grown).size)
             have HSP5 := Lib.hid (HSP.out.turns (Turns.of_below HB5.out) (fun _ _ x => x))
             clear hb)
          | (refine step_append_lies _ rfl (.tmp 45) (.tmp 49) 66 rfl 9 i0 (.string ⟨#[]⟩) 16 Tryd.underlying66 hi0 hz0 hz1 hz2 rfl _ 0 _ _ rfl (HSP5.out.alloc _) (w5.heap.size + 1) (some ⟨w5.heap.size, 0, none⟩) 1 1 (fun _ => .string ⟨#[40, 97, 46, 120, 32, 62, 32, 51, 41]⟩) rfl (lies_one w5 ⟨#[40, 97, 46, 120, 32, 62, 32, 51, 41]⟩) (fun _ => rfl) (by unfold maxLen; omega) (by omega) ?_
             intro v6 w6 ob6 hs6 ht6 ho6
             have HF : Hid (TI w w6 3 v6) := TI.next HOB.out HBE.out HB5.out hs6 ht6 ho6 rfl rfl (by omega)
             clear hs6 ht6 ho6)
          | fail) | fail
        all_goals
          go_wp2
          go_meet
          exact HF.out
      case rest =>
        go_wp2
        go_roundw
        case rel => exact ⟨3, by omega, by go_num, hcut.out⟩
        case measure => simp [intOf]
    · have hl : (txs 3).length = 1 := rfl
      rw [hl] at hcap HS ⊢
      obtain ⟨b, o, cap', e1, e2, h5, h6, hcl2, _⟩ := HS.out.shape (by decide)
      injection e1 with e1 e3 e4
      subst e1 e4
      have k0 := hcl2 0 _ rfl
      simp only [Nat.add_zero] at k0
      clear hcl hv0 hl e3
      go_wp2
      go_ret
      exact ⟨rfl, HBE.out⟩
end Go.Proofs.YtlpkeinablekpaaDoor.Tm

/- awake of layer 12. -/
namespace Go.Proofs.YtlpkeinablekpaaDoor.Tm
open Go.RowKit Go.Proofs.YtlpkeinablekpaaDoor Go.Proofs.YtlpkeinablekpaaDoor.Door Go.Proofs.YtlpkeinablekpaaDoor.Ev Go.Proofs.YtlpkeinablekpaaDoor.Sch Go.Proofs.YtlpkeinablekpaaDoor.Evl Go.Proofs.YtlpkeinablekpaaDoor.Ty Go.Proofs.YtlpkeinablekpaaDoor.Vd
set_option linter.unusedVariables false
set_option maxRecDepth 100000
theorem lit2_bad : ¬ Ty.Good (litL.take 2) := fun h => absurd h.one (by decide)
theorem ns_two {w : World} {g B : Nat} (h : Row w g 25 (litL.flatMap Nd.cells).toArray) (hB : g < B) : Ns w B (.slice (some ⟨g, 0, none⟩) 2 3) (litL.take 2) := by
  refine ⟨some ⟨g, 0, none⟩, 3, rfl, by decide, by omega, fun k hk => ⟨g, 0, rfl, hB, fun j u hj => ?_⟩⟩
  have hk2 : k < 2 := hk
  have h7 : j < 7 := (List.getElem?_eq_some_iff.1 hj).1
  rw [Nat.zero_add, h.cell, List.getElem?_toArray, nd_at litL k (by show k < 3; omega) j h7]
  rw [← hj]
  congr 2
  rcases (show k = 0 ∨ k = 1 by omega) with rfl | rfl <;> rfl
set_option maxHeartbeats 1000000 in
theorem awake12 (w : World) (hm : ML w) : Calls Tryd.prog 10 #[] w fun e w' => e = .returned (.bool true) ∧ Below w.heap.size w w' := by
  have HM := Lib.hid hm
  clear hm
  have HR : Hid (Row (w.alloc (.cells (litL.flatMap Nd.cells).toArray 25)) w.heap.size 25 (litL.flatMap Nd.cells).toArray) := Row.made _ _ _
  have HB : Hid (Below w.heap.size w (w.alloc (.cells (litL.flatMap Nd.cells).toArray 25))) := (Below.refl _ w).alloc (Nat.le_refl _) _
  go_enter Tryd.func10, Tryd.ntmps10
  go_wp2_with fail
  refine (tmay_yes _ litL _ (ns_row (n := 3) HR.out HR.out.lt rfl (by omega)) litL_good).mono ?_
  rintro e w1 ⟨rfl, hb⟩
  have HR1 := Lib.hid (HR.out.below hb HR.out.lt)
  have HB1 := Lib.hid (HB.out.trans (hb.mono HB.out.size))
  clear hb
  go_wp2_with fail
  refine (show_lit w.heap.size 0 _ HR1.out (HM.out.below HB1.out)).mono ?_
  unfold S3
  rintro e w2 ⟨rfl, hb⟩
  have HR2 := Lib.hid (HR1.out.below hb HR1.out.lt)
  have HB2 := Lib.hid (HB1.out.trans (hb.mono HB1.out.size))
  clear hb
  go_wp2_with fail
  refine (tmay_dec _ (litL.take 2) _ (ns_two HR2.out HR2.out.lt)).mono ?_
  rw [goodB_no lit2_bad]
  rintro e w3 ⟨rfl, hb⟩
  have HB3 := Lib.hid (HB2.out.trans (hb.mono HB2.out.size))
  clear hb
  go_wp2_with fail
  refine (parts_is 13 1 _ rfl).mono ?_
  rintro e w4 ⟨rfl, rfl⟩
  go_wp2
  go_ret
  exact ⟨rfl, HB3.out⟩
end Go.Proofs.YtlpkeinablekpaaDoor.Tm

/- The law TermNodes. -/
namespace Go.Proofs.YtlpkeinablekpaaDoor.Tm
open Go.RowKit Go.Proofs.YtlpkeinablekpaaDoor Go.Proofs.YtlpkeinablekpaaDoor.Door Go.Proofs.YtlpkeinablekpaaDoor.Ev Go.Proofs.YtlpkeinablekpaaDoor.Sch Go.Proofs.YtlpkeinablekpaaDoor.Evl Go.Proofs.YtlpkeinablekpaaDoor.Ty Go.Proofs.YtlpkeinablekpaaDoor.Vd
set_option linter.unusedVariables false
set_option maxRecDepth 100000
def emB (V F : ByteArray) : Bool := (V.toList == []) && (F.toList == [])
def nvB (k i : Int) (s : ByteArray) (b : Bool) : Bool := (k == 0) && (i == 0) && (s.toList == []) && !b
def valB (k i : Int) (s : ByteArray) (b : Bool) : Bool := if k = 1 then (s.toList == []) && !b && !(i == -9223372036854775808) else if k = 2 then (i == 0) && !b && decide (s.size ≤ 64) else if k = 3 then (i == 0) && (s.toList == []) else false
def wantB (o k i : Int) (s : ByteArray) (b : Bool) (V F : ByteArray) : Bool :=
  if o = 1 then valB k i s b && emB V F else if o = 2 then nvB k i s b && nameB V.data.toList && nameB F.data.toList else if o ≤ 15 then nvB k i s b && emB V F else false
theorem nil_eqB : ((⟨#[]⟩ : ByteArray).toList == []) = true := by rw [Go.Lib.toList_data]; rfl
theorem toNilB {s : ByteArray} (h : (s.toList == []) = true) : s = ⟨#[]⟩ := bytes_nil (beq_iff_eq.1 h)
theorem nil_iff (s : ByteArray) : (s.toList == []) = true ↔ s = ⟨#[]⟩ := ⟨toNilB, fun h => by subst h; exact nil_eqB⟩
theorem valB_ok {k i : Int} {s : ByteArray} {b : Bool} : valB k i s b = true ↔ OkV k i s b := by
  unfold valB
  constructor
  · intro h
    by_cases h1 : k = 1
    · subst h1
      rw [if_pos rfl, Bool.and_eq_true, Bool.and_eq_true] at h
      obtain ⟨⟨a1, a2⟩, a3⟩ := h
      obtain rfl := (nil_iff s).1 a1
      obtain rfl : b = false := by simpa using a2
      exact .num i (by simpa using a3)
    · rw [if_neg h1] at h
      by_cases h2 : k = 2
      · subst h2
        rw [if_pos rfl, Bool.and_eq_true, Bool.and_eq_true] at h
        obtain ⟨⟨a1, a2⟩, a3⟩ := h
        obtain rfl : i = 0 := by simpa using a1
        obtain rfl : b = false := by simpa using a2
        exact .text s (by simpa using a3)
      · rw [if_neg h2] at h
        by_cases h3 : k = 3
        · subst h3
          rw [if_pos rfl, Bool.and_eq_true] at h
          obtain rfl : i = 0 := by simpa using h.1
          obtain rfl := (nil_iff s).1 h.2
          exact .truth b
        · rw [if_neg h3] at h; cases h
  · intro h
    cases h with
    | num i hi => rw [if_pos rfl, nil_eqB, hi]; rfl
    | text s hs => rw [if_neg (by omega), if_pos rfl, decide_eq_true hs]; rfl
    | truth b => rw [if_neg (by omega), if_neg (by omega), if_pos rfl, nil_eqB]; rfl
theorem nvB_ok {k i : Int} {s : ByteArray} {b : Bool} : nvB k i s b = true ↔ k = 0 ∧ i = 0 ∧ s = ⟨#[]⟩ ∧ b = false := by
  unfold nvB
  rw [Bool.and_eq_true, Bool.and_eq_true, Bool.and_eq_true, nil_iff]
  simp [and_assoc]
theorem emB_ok {V F : ByteArray} : emB V F = true ↔ V = ⟨#[]⟩ ∧ F = ⟨#[]⟩ := by
  unfold emB
  rw [Bool.and_eq_true, nil_iff, nil_iff]
theorem want_ok {o k i : Int} {s : ByteArray} {b : Bool} {V F : ByteArray} (h0 : 1 ≤ o) : OkN ⟨o, k, i, s, b, V, F⟩ ↔ wantB o k i s b V F = true := by
  unfold wantB
  constructor
  · intro h
    cases h with
    | const h => rw [if_pos rfl, valB_ok.2 h, emB_ok.2 ⟨rfl, rfl⟩]; rfl
    | field hv hf => rw [if_neg (by omega), if_pos rfl, nvB_ok.2 ⟨rfl, rfl, rfl, rfl⟩, hv, hf]; rfl
    | op o h1 h2 => rw [if_neg (by omega), if_neg (by omega), if_pos h2, nvB_ok.2 ⟨rfl, rfl, rfl, rfl⟩, emB_ok.2 ⟨rfl, rfl⟩]; rfl
  · intro h
    by_cases h1 : o = 1
    · subst h1
      rw [if_pos rfl, Bool.and_eq_true] at h
      obtain ⟨rfl, rfl⟩ := emB_ok.1 h.2
      exact .const (valB_ok.1 h.1)
    · rw [if_neg h1] at h
      by_cases h2 : o = 2
      · subst h2
        rw [if_pos rfl, Bool.and_eq_true, Bool.and_eq_true] at h
        obtain ⟨rfl, rfl, rfl, rfl⟩ := nvB_ok.1 h.1.1
        exact .field h.1.2 h.2
      · rw [if_neg h2] at h
        by_cases h3 : o ≤ 15
        · rw [if_pos h3, Bool.and_eq_true] at h
          obtain ⟨rfl, rfl, rfl, rfl⟩ := nvB_ok.1 h.1
          obtain ⟨rfl, rfl⟩ := emB_ok.1 h.2
          exact .op o (by omega) h3
        · rw [if_neg h3] at h; cases h
/-- The law's part. -/
structure NX (w W : World) (b3 : Nat) (o k i : Int) (s : ByteArray) (b : Bool) (V F : ByteArray) : Prop where
  r : Row W b3 25 #[.int .i64 o, .int .i64 k, .int .i64 i, .string s, .bool b, .string V, .string F]
  be : Below w.heap.size w W
theorem NX.call {w W W' : World} {b3 : Nat} {o k i : Int} {s : ByteArray} {b : Bool} {V F : ByteArray} (h : NX w W b3 o k i s b V F) (t : Below W.heap.size W W') : NX w W' b3 o k i s b V F := ⟨h.r.below t h.r.lt, h.be.trans (t.mono h.be.size)⟩
theorem NX.cells {w W : World} {b3 : Nat} {o k i : Int} {s : ByteArray} {b : Bool} {V F : ByteArray} (h : NX w W b3 o k i s b V F) : W.cell? ⟨b3, 0, none⟩ = some (.int .i64 o) ∧ W.cell? ⟨b3, 1, none⟩ = some (.int .i64 k) ∧ W.cell? ⟨b3, 2, none⟩ = some (.int .i64 i) ∧ W.cell? ⟨b3, 3, none⟩ = some (.string s) ∧ W.cell? ⟨b3, 4, none⟩ = some (.bool b) ∧ W.cell? ⟨b3, 5, none⟩ = some (.string V) ∧ W.cell? ⟨b3, 6, none⟩ = some (.string F) :=
  ⟨h.r.is 0 rfl, h.r.is 1 rfl, h.r.is 2 rfl, h.r.is 3 rfl, h.r.is 4 rfl, h.r.is 5 rfl, h.r.is 6 rfl⟩
end Go.Proofs.YtlpkeinablekpaaDoor.Tm

