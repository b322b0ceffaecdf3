/- The reference's queries: predicates. -/
import Derived.Test.YtaimbkikiokenaaPqA
namespace Go.Proofs.Ytaimbkikiokenaa.Pq
open Go.RowKit Go.Proofs.Ytaimbkikiokenaa
set_option linter.unusedVariables false
set_option maxRecDepth 100000

def fieldN (v f : ByteArray) : Nd := ⟨2, 0, 0, ⟨#[]⟩, false, v, f⟩
def numN (n : Int) : Nd := ⟨1, 1, n, ⟨#[]⟩, false, ⟨#[]⟩, ⟨#[]⟩⟩
def opN (o : Int) : Nd := ⟨o, 0, 0, ⟨#[]⟩, false, ⟨#[]⟩, ⟨#[]⟩⟩
def strN (s : ByteArray) : Nd := ⟨1, 2, 0, s, false, ⟨#[]⟩, ⟨#[]⟩⟩
/-- The predicate of a pick. -/
def predL (x : Int) (v o : ByteArray) : List Nd :=
  match (x % 7).toNat with
  | 0 => []
  | 1 => [fieldN v ⟨#[120]⟩, numN (x / 16 % 4), opN (7 + x / 64 % 6)]
  | 2 => [fieldN v ⟨#[115]⟩, strN ⟨#[117]⟩, opN (7 + x / 64 % 2)]
  | 3 => [fieldN v ⟨#[120]⟩, numN (x / 16 % 4), opN (7 + x / 64 % 6), opN 13]
  | 4 => [fieldN v ⟨#[120]⟩, numN 1, opN 4, fieldN o ⟨#[120]⟩, opN (7 + x / 64 % 6)]
  | 5 => [fieldN v ⟨#[115]⟩, fieldN o ⟨#[115]⟩, opN 7, fieldN v ⟨#[120]⟩, numN (x / 16 % 4), opN (7 + x / 64 % 6), opN 15]
  | _ => [fieldN v ⟨#[120]⟩, fieldN o ⟨#[120]⟩, opN (7 + x / 64 % 6), fieldN o ⟨#[115]⟩, strN ⟨#[118]⟩, opN 8, opN 14]
theorem predL_len (x : Int) (v o : ByteArray) : (predL x v o).length ≤ 7 := by unfold predL; split <;> simp
/-- A new predicate. -/
structure Preds (w0 w : World) (v : Value) (L : List Nd) : Prop where
  is : (v = .slice none 0 0 ∧ L = []) ∨ ∃ b, v = .slice (some ⟨b, 0, none⟩) L.length L.length ∧ w0.heap.size ≤ b ∧ Row w b 154 (L.flatMap Nd.cells).toArray ∧ L ≠ []
  be : Below w0.heap.size w0 w
theorem Preds.mk1 {w0 w : World} {b n : Nat} {L : List Nd} {cs : Array Value} (hb : Below w0.heap.size w0 w) (hn : L.length = n) (hr : Row w b 154 cs) (hc : (L.flatMap Nd.cells).toArray = cs) (hge : w0.heap.size ≤ b) (hz : L ≠ []) : Preds w0 w (.slice (some ⟨b, 0, none⟩) n n) L := by
  subst hn hc
  exact ⟨.inr ⟨b, rfl, hge, hr, hz⟩, hb⟩
set_option maxHeartbeats 4000000 in
theorem pred_1 (x : Int) (h0 : 0 ≤ x) (h1 : x ≤ 16777216) (hj : x % 7 = 1) (v o : ByteArray) (w : World) : Calls Try.prog 66 #[.int .i64 x, .string v, .string o] w fun e w' => ∃ u, e = .returned u ∧ Preds w w' u (predL x v o) := by
  have a3 := and3 (x / 16)
  have HL : Hid (predL x v o = [fieldN v ⟨#[120]⟩, numN (x / 16 % 4), opN (7 + x / 64 % 6)]) := by show predL x v o = _; unfold predL; rw [hj]; rfl
  rw [HL.out]
  clear HL
  have HM := Lib.hid ((Own.start w).made 154 #[.int .i64 (7 + x / 64 % 6), .int .i64 0, .int .i64 0, .string ⟨#[]⟩, .bool false, .string ⟨#[]⟩, .string ⟨#[]⟩])
  have hS : ∀ X, Below (w.alloc (.cells #[.int .i64 (7 + x / 64 % 6), .int .i64 0, .int .i64 0, .string ⟨#[]⟩, .bool false, .string ⟨#[]⟩, .string ⟨#[]⟩] 154)).heap.size (w.alloc (.cells #[.int .i64 (7 + x / 64 % 6), .int .i64 0, .int .i64 0, .string ⟨#[]⟩, .bool false, .string ⟨#[]⟩, .string ⟨#[]⟩] 154)) X → X.cell? ⟨w.heap.size, 0, none⟩ = some (.int .i64 (7 + x / 64 % 6)) ∧ X.cell? ⟨w.heap.size, 1, none⟩ = some (.int .i64 0) ∧ X.cell? ⟨w.heap.size, 2, none⟩ = some (.int .i64 0) ∧ X.cell? ⟨w.heap.size, 3, none⟩ = some (.string ⟨#[]⟩) ∧ X.cell? ⟨w.heap.size, 4, none⟩ = some (.bool false) ∧ X.cell? ⟨w.heap.size, 5, none⟩ = some (.string ⟨#[]⟩) ∧ X.cell? ⟨w.heap.size, 6, none⟩ = some (.string ⟨#[]⟩) := fun X hX =>
    have h := (HM.out.call hX).row 0 rfl
    ⟨h.cell 0, h.cell 1, h.cell 2, h.cell 3, h.cell 4, h.cell 5, h.cell 6⟩
  have k1 := hS _ (Below.refl _ _)
  have HS := Lib.hid hS
  clear hS
  go_enter Try.func66, Try.ntmps66
  go_wp2
  have HZ : Hid (w.heap.size ≤ (w.alloc (.cells #[.int .i64 (7 + x / 64 % 6), .int .i64 0, .int .i64 0, .string ⟨#[]⟩, .bool false, .string ⟨#[]⟩, .string ⟨#[]⟩] 154)).heap.size) := by show w.heap.size ≤ _; simp
  have HW := Lib.hid HM.out.be
  generalize w.alloc (.cells #[.int .i64 (7 + x / 64 % 6), .int .i64 0, .int .i64 0, .string ⟨#[]⟩, .bool false, .string ⟨#[]⟩, .string ⟨#[]⟩] 154) = W at HM HS k1 HW HZ ⊢
  have HB : Hid (Below W.heap.size W W.drew) := (Below.refl _ W).drew
  go_region_held3 (fun X => X.cell? ⟨w.heap.size, 0, none⟩ = some (.int .i64 (7 + x / 64 % 6)) ∧ X.cell? ⟨w.heap.size, 1, none⟩ = some (.int .i64 0) ∧ X.cell? ⟨w.heap.size, 2, none⟩ = some (.int .i64 0) ∧ X.cell? ⟨w.heap.size, 3, none⟩ = some (.string ⟨#[]⟩) ∧ X.cell? ⟨w.heap.size, 4, none⟩ = some (.bool false) ∧ X.cell? ⟨w.heap.size, 5, none⟩ = some (.string ⟨#[]⟩) ∧ X.cell? ⟨w.heap.size, 6, none⟩ = some (.string ⟨#[]⟩))
    (first
      | exact k1
      | exact HS.out _ HB.out
      | exact HS.out _ (HB.out.alloc HB.out.size _)
      | fail)
    ((first
      | (
          go_at_call 98
          (with_reducible refine (field_any _ _ _).mono ?_)
          rintro e w3 ⟨rfl, hb⟩
          have h3 := HB.out.trans (hb.mono HB.out.size)
          have HB := Lib.hid h3
          clear hb h3)
      | (
          go_at_call 99
          (with_reducible refine (num_any _ _ (by omega) (by omega)).mono ?_)
          rintro e w3 ⟨rfl, hb⟩
          have h3 := HB.out.trans (hb.mono HB.out.size)
          have HB := Lib.hid h3
          clear hb h3)))
  have HF := Lib.hid (HW.out.trans (HB.out.mono HZ.out))
  clear k1 HS HB HW HM
  go_wp2
  go_ret
  exact ⟨_, rfl, Preds.mk1 (HF.out.alloc HF.out.size _) rfl (Row.made _ _ _) rfl HF.out.size (List.cons_ne_nil _ _)⟩
set_option maxHeartbeats 4000000 in
theorem pred_3 (x : Int) (h0 : 0 ≤ x) (h1 : x ≤ 16777216) (hj : x % 7 = 3) (v o : ByteArray) (w : World) : Calls Try.prog 66 #[.int .i64 x, .string v, .string o] w fun e w' => ∃ u, e = .returned u ∧ Preds w w' u (predL x v o) := by
  have a3 := and3 (x / 16)
  have HL : Hid (predL x v o = [fieldN v ⟨#[120]⟩, numN (x / 16 % 4), opN (7 + x / 64 % 6), opN 13]) := by show predL x v o = _; unfold predL; rw [hj]; rfl
  rw [HL.out]
  clear HL
  have HM := Lib.hid ((Own.start w).made 154 #[.int .i64 (7 + x / 64 % 6), .int .i64 0, .int .i64 0, .string ⟨#[]⟩, .bool false, .string ⟨#[]⟩, .string ⟨#[]⟩])
  have hS : ∀ X, Below (w.alloc (.cells #[.int .i64 (7 + x / 64 % 6), .int .i64 0, .int .i64 0, .string ⟨#[]⟩, .bool false, .string ⟨#[]⟩, .string ⟨#[]⟩] 154)).heap.size (w.alloc (.cells #[.int .i64 (7 + x / 64 % 6), .int .i64 0, .int .i64 0, .string ⟨#[]⟩, .bool false, .string ⟨#[]⟩, .string ⟨#[]⟩] 154)) X → X.cell? ⟨w.heap.size, 0, none⟩ = some (.int .i64 (7 + x / 64 % 6)) ∧ X.cell? ⟨w.heap.size, 1, none⟩ = some (.int .i64 0) ∧ X.cell? ⟨w.heap.size, 2, none⟩ = some (.int .i64 0) ∧ X.cell? ⟨w.heap.size, 3, none⟩ = some (.string ⟨#[]⟩) ∧ X.cell? ⟨w.heap.size, 4, none⟩ = some (.bool false) ∧ X.cell? ⟨w.heap.size, 5, none⟩ = some (.string ⟨#[]⟩) ∧ X.cell? ⟨w.heap.size, 6, none⟩ = some (.string ⟨#[]⟩) := fun X hX =>
    have h := (HM.out.call hX).row 0 rfl
    ⟨h.cell 0, h.cell 1, h.cell 2, h.cell 3, h.cell 4, h.cell 5, h.cell 6⟩
  have k1 := hS _ (Below.refl _ _)
  have HS := Lib.hid hS
  clear hS
  go_enter Try.func66, Try.ntmps66
  go_wp2
  have HZ : Hid (w.heap.size ≤ (w.alloc (.cells #[.int .i64 (7 + x / 64 % 6), .int .i64 0, .int .i64 0, .string ⟨#[]⟩, .bool false, .string ⟨#[]⟩, .string ⟨#[]⟩] 154)).heap.size) := by show w.heap.size ≤ _; simp
  have HW := Lib.hid HM.out.be
  generalize w.alloc (.cells #[.int .i64 (7 + x / 64 % 6), .int .i64 0, .int .i64 0, .string ⟨#[]⟩, .bool false, .string ⟨#[]⟩, .string ⟨#[]⟩] 154) = W at HM HS k1 HW HZ ⊢
  have HB : Hid (Below W.heap.size W W.drew) := (Below.refl _ W).drew
  go_region_held3 (fun X => X.cell? ⟨w.heap.size, 0, none⟩ = some (.int .i64 (7 + x / 64 % 6)) ∧ X.cell? ⟨w.heap.size, 1, none⟩ = some (.int .i64 0) ∧ X.cell? ⟨w.heap.size, 2, none⟩ = some (.int .i64 0) ∧ X.cell? ⟨w.heap.size, 3, none⟩ = some (.string ⟨#[]⟩) ∧ X.cell? ⟨w.heap.size, 4, none⟩ = some (.bool false) ∧ X.cell? ⟨w.heap.size, 5, none⟩ = some (.string ⟨#[]⟩) ∧ X.cell? ⟨w.heap.size, 6, none⟩ = some (.string ⟨#[]⟩))
    (first
      | exact k1
      | exact HS.out _ HB.out
      | exact HS.out _ (HB.out.alloc HB.out.size _)
      | fail)
    ((first
      | (
          go_at_call 98
          (with_reducible refine (field_any _ _ _).mono ?_)
          rintro e w3 ⟨rfl, hb⟩
          have h3 := HB.out.trans (hb.mono HB.out.size)
          have HB := Lib.hid h3
          clear hb h3)
      | (
          go_at_call 99
          (with_reducible refine (num_any _ _ (by omega) (by omega)).mono ?_)
          rintro e w3 ⟨rfl, hb⟩
          have h3 := HB.out.trans (hb.mono HB.out.size)
          have HB := Lib.hid h3
          clear hb h3)))
  have HF := Lib.hid (HW.out.trans (HB.out.mono HZ.out))
  clear k1 HS HB HW HM
  go_wp2
  go_ret
  exact ⟨_, rfl, Preds.mk1 (HF.out.alloc HF.out.size _) rfl (Row.made _ _ _) rfl HF.out.size (List.cons_ne_nil _ _)⟩
set_option maxHeartbeats 4000000 in
theorem pred_4 (x : Int) (h0 : 0 ≤ x) (h1 : x ≤ 16777216) (hj : x % 7 = 4) (v o : ByteArray) (w : World) : Calls Try.prog 66 #[.int .i64 x, .string v, .string o] w fun e w' => ∃ u, e = .returned u ∧ Preds w w' u (predL x v o) := by
  have a3 := and3 (x / 16)
  have HL : Hid (predL x v o = [fieldN v ⟨#[120]⟩, numN 1, opN 4, fieldN o ⟨#[120]⟩, opN (7 + x / 64 % 6)]) := by show predL x v o = _; unfold predL; rw [hj]; rfl
  rw [HL.out]
  clear HL
  have HM := Lib.hid ((Own.start w).made 154 #[.int .i64 (7 + x / 64 % 6), .int .i64 0, .int .i64 0, .string ⟨#[]⟩, .bool false, .string ⟨#[]⟩, .string ⟨#[]⟩])
  have hS : ∀ X, Below (w.alloc (.cells #[.int .i64 (7 + x / 64 % 6), .int .i64 0, .int .i64 0, .string ⟨#[]⟩, .bool false, .string ⟨#[]⟩, .string ⟨#[]⟩] 154)).heap.size (w.alloc (.cells #[.int .i64 (7 + x / 64 % 6), .int .i64 0, .int .i64 0, .string ⟨#[]⟩, .bool false, .string ⟨#[]⟩, .string ⟨#[]⟩] 154)) X → X.cell? ⟨w.heap.size, 0, none⟩ = some (.int .i64 (7 + x / 64 % 6)) ∧ X.cell? ⟨w.heap.size, 1, none⟩ = some (.int .i64 0) ∧ X.cell? ⟨w.heap.size, 2, none⟩ = some (.int .i64 0) ∧ X.cell? ⟨w.heap.size, 3, none⟩ = some (.string ⟨#[]⟩) ∧ X.cell? ⟨w.heap.size, 4, none⟩ = some (.bool false) ∧ X.cell? ⟨w.heap.size, 5, none⟩ = some (.string ⟨#[]⟩) ∧ X.cell? ⟨w.heap.size, 6, none⟩ = some (.string ⟨#[]⟩) := fun X hX =>
    have h := (HM.out.call hX).row 0 rfl
    ⟨h.cell 0, h.cell 1, h.cell 2, h.cell 3, h.cell 4, h.cell 5, h.cell 6⟩
  have k1 := hS _ (Below.refl _ _)
  have HS := Lib.hid hS
  clear hS
  go_enter Try.func66, Try.ntmps66
  go_wp2
  have HZ : Hid (w.heap.size ≤ (w.alloc (.cells #[.int .i64 (7 + x / 64 % 6), .int .i64 0, .int .i64 0, .string ⟨#[]⟩, .bool false, .string ⟨#[]⟩, .string ⟨#[]⟩] 154)).heap.size) := by show w.heap.size ≤ _; simp
  have HW := Lib.hid HM.out.be
  generalize w.alloc (.cells #[.int .i64 (7 + x / 64 % 6), .int .i64 0, .int .i64 0, .string ⟨#[]⟩, .bool false, .string ⟨#[]⟩, .string ⟨#[]⟩] 154) = W at HM HS k1 HW HZ ⊢
  have HB : Hid (Below W.heap.size W W.drew) := (Below.refl _ W).drew
  go_region_held3 (fun X => X.cell? ⟨w.heap.size, 0, none⟩ = some (.int .i64 (7 + x / 64 % 6)) ∧ X.cell? ⟨w.heap.size, 1, none⟩ = some (.int .i64 0) ∧ X.cell? ⟨w.heap.size, 2, none⟩ = some (.int .i64 0) ∧ X.cell? ⟨w.heap.size, 3, none⟩ = some (.string ⟨#[]⟩) ∧ X.cell? ⟨w.heap.size, 4, none⟩ = some (.bool false) ∧ X.cell? ⟨w.heap.size, 5, none⟩ = some (.string ⟨#[]⟩) ∧ X.cell? ⟨w.heap.size, 6, none⟩ = some (.string ⟨#[]⟩))
    (first
      | exact k1
      | exact HS.out _ HB.out
      | exact HS.out _ (HB.out.alloc HB.out.size _)
      | fail)
    ((first
      | (
          go_at_call 98
          (with_reducible refine (field_any _ _ _).mono ?_)
          rintro e w3 ⟨rfl, hb⟩
          have h3 := HB.out.trans (hb.mono HB.out.size)
          have HB := Lib.hid h3
          clear hb h3)
      | (
          go_at_call 99
          (with_reducible refine (num_any _ _ (by omega) (by omega)).mono ?_)
          rintro e w3 ⟨rfl, hb⟩
          have h3 := HB.out.trans (hb.mono HB.out.size)
          have HB := Lib.hid h3
          clear hb h3)))
  have HF := Lib.hid (HW.out.trans (HB.out.mono HZ.out))
  clear k1 HS HB HW HM
  go_wp2
  go_ret
  exact ⟨_, rfl, Preds.mk1 (HF.out.alloc HF.out.size _) rfl (Row.made _ _ _) rfl HF.out.size (List.cons_ne_nil _ _)⟩
set_option maxHeartbeats 4000000 in
theorem pred_5 (x : Int) (h0 : 0 ≤ x) (h1 : x ≤ 16777216) (hj : x % 7 = 5) (v o : ByteArray) (w : World) : Calls Try.prog 66 #[.int .i64 x, .string v, .string o] w fun e w' => ∃ u, e = .returned u ∧ Preds w w' u (predL x v o) := by
  have a3 := and3 (x / 16)
  have HL : Hid (predL x v o = [fieldN v ⟨#[115]⟩, fieldN o ⟨#[115]⟩, opN 7, fieldN v ⟨#[120]⟩, numN (x / 16 % 4), opN (7 + x / 64 % 6), opN 15]) := by show predL x v o = _; unfold predL; rw [hj]; rfl
  rw [HL.out]
  clear HL
  have HM := Lib.hid ((Own.start w).made 154 #[.int .i64 (7 + x / 64 % 6), .int .i64 0, .int .i64 0, .string ⟨#[]⟩, .bool false, .string ⟨#[]⟩, .string ⟨#[]⟩])
  have hS : ∀ X, Below (w.alloc (.cells #[.int .i64 (7 + x / 64 % 6), .int .i64 0, .int .i64 0, .string ⟨#[]⟩, .bool false, .string ⟨#[]⟩, .string ⟨#[]⟩] 154)).heap.size (w.alloc (.cells #[.int .i64 (7 + x / 64 % 6), .int .i64 0, .int .i64 0, .string ⟨#[]⟩, .bool false, .string ⟨#[]⟩, .string ⟨#[]⟩] 154)) X → X.cell? ⟨w.heap.size, 0, none⟩ = some (.int .i64 (7 + x / 64 % 6)) ∧ X.cell? ⟨w.heap.size, 1, none⟩ = some (.int .i64 0) ∧ X.cell? ⟨w.heap.size, 2, none⟩ = some (.int .i64 0) ∧ X.cell? ⟨w.heap.size, 3, none⟩ = some (.string ⟨#[]⟩) ∧ X.cell? ⟨w.heap.size, 4, none⟩ = some (.bool false) ∧ X.cell? ⟨w.heap.size, 5, none⟩ = some (.string ⟨#[]⟩) ∧ X.cell? ⟨w.heap.size, 6, none⟩ = some (.string ⟨#[]⟩) := fun X hX =>
    have h := (HM.out.call hX).row 0 rfl
    ⟨h.cell 0, h.cell 1, h.cell 2, h.cell 3, h.cell 4, h.cell 5, h.cell 6⟩
  have k1 := hS _ (Below.refl _ _)
  have HS := Lib.hid hS
  clear hS
  go_enter Try.func66, Try.ntmps66
  go_wp2
  have HZ : Hid (w.heap.size ≤ (w.alloc (.cells #[.int .i64 (7 + x / 64 % 6), .int .i64 0, .int .i64 0, .string ⟨#[]⟩, .bool false, .string ⟨#[]⟩, .string ⟨#[]⟩] 154)).heap.size) := by show w.heap.size ≤ _; simp
  have HW := Lib.hid HM.out.be
  generalize w.alloc (.cells #[.int .i64 (7 + x / 64 % 6), .int .i64 0, .int .i64 0, .string ⟨#[]⟩, .bool false, .string ⟨#[]⟩, .string ⟨#[]⟩] 154) = W at HM HS k1 HW HZ ⊢
  have HB : Hid (Below W.heap.size W W.drew) := (Below.refl _ W).drew
  go_region_held3 (fun X => X.cell? ⟨w.heap.size, 0, none⟩ = some (.int .i64 (7 + x / 64 % 6)) ∧ X.cell? ⟨w.heap.size, 1, none⟩ = some (.int .i64 0) ∧ X.cell? ⟨w.heap.size, 2, none⟩ = some (.int .i64 0) ∧ X.cell? ⟨w.heap.size, 3, none⟩ = some (.string ⟨#[]⟩) ∧ X.cell? ⟨w.heap.size, 4, none⟩ = some (.bool false) ∧ X.cell? ⟨w.heap.size, 5, none⟩ = some (.string ⟨#[]⟩) ∧ X.cell? ⟨w.heap.size, 6, none⟩ = some (.string ⟨#[]⟩))
    (first
      | exact k1
      | exact HS.out _ HB.out
      | exact HS.out _ (HB.out.alloc HB.out.size _)
      | fail)
    ((first
      | (
          go_at_call 98
          (with_reducible refine (field_any _ _ _).mono ?_)
          rintro e w3 ⟨rfl, hb⟩
          have h3 := HB.out.trans (hb.mono HB.out.size)
          have HB := Lib.hid h3
          clear hb h3)
      | (
          go_at_call 99
          (with_reducible refine (num_any _ _ (by omega) (by omega)).mono ?_)
          rintro e w3 ⟨rfl, hb⟩
          have h3 := HB.out.trans (hb.mono HB.out.size)
          have HB := Lib.hid h3
          clear hb h3)))
  have HF := Lib.hid (HW.out.trans (HB.out.mono HZ.out))
  clear k1 HS HB HW HM
  go_wp2
  go_ret
  exact ⟨_, rfl, Preds.mk1 (HF.out.alloc HF.out.size _) rfl (Row.made _ _ _) rfl HF.out.size (List.cons_ne_nil _ _)⟩
set_option maxHeartbeats 4000000 in
theorem pred_6 (x : Int) (h0 : 0 ≤ x) (h1 : x ≤ 16777216) (hj : x % 7 = 6) (v o : ByteArray) (w : World) : Calls Try.prog 66 #[.int .i64 x, .string v, .string o] w fun e w' => ∃ u, e = .returned u ∧ Preds w w' u (predL x v o) := by
  have a3 := and3 (x / 16)
  have HL : Hid (predL x v o = [fieldN v ⟨#[120]⟩, fieldN o ⟨#[120]⟩, opN (7 + x / 64 % 6), fieldN o ⟨#[115]⟩, strN ⟨#[118]⟩, opN 8, opN 14]) := by show predL x v o = _; unfold predL; rw [hj]; rfl
  rw [HL.out]
  clear HL
  have HM := Lib.hid ((Own.start w).made 154 #[.int .i64 (7 + x / 64 % 6), .int .i64 0, .int .i64 0, .string ⟨#[]⟩, .bool false, .string ⟨#[]⟩, .string ⟨#[]⟩])
  have hS : ∀ X, Below (w.alloc (.cells #[.int .i64 (7 + x / 64 % 6), .int .i64 0, .int .i64 0, .string ⟨#[]⟩, .bool false, .string ⟨#[]⟩, .string ⟨#[]⟩] 154)).heap.size (w.alloc (.cells #[.int .i64 (7 + x / 64 % 6), .int .i64 0, .int .i64 0, .string ⟨#[]⟩, .bool false, .string ⟨#[]⟩, .string ⟨#[]⟩] 154)) X → X.cell? ⟨w.heap.size, 0, none⟩ = some (.int .i64 (7 + x / 64 % 6)) ∧ X.cell? ⟨w.heap.size, 1, none⟩ = some (.int .i64 0) ∧ X.cell? ⟨w.heap.size, 2, none⟩ = some (.int .i64 0) ∧ X.cell? ⟨w.heap.size, 3, none⟩ = some (.string ⟨#[]⟩) ∧ X.cell? ⟨w.heap.size, 4, none⟩ = some (.bool false) ∧ X.cell? ⟨w.heap.size, 5, none⟩ = some (.string ⟨#[]⟩) ∧ X.cell? ⟨w.heap.size, 6, none⟩ = some (.string ⟨#[]⟩) := fun X hX =>
    have h := (HM.out.call hX).row 0 rfl
    ⟨h.cell 0, h.cell 1, h.cell 2, h.cell 3, h.cell 4, h.cell 5, h.cell 6⟩
  have k1 := hS _ (Below.refl _ _)
  have HS := Lib.hid hS
  clear hS
  go_enter Try.func66, Try.ntmps66
  go_wp2
  have HZ : Hid (w.heap.size ≤ (w.alloc (.cells #[.int .i64 (7 + x / 64 % 6), .int .i64 0, .int .i64 0, .string ⟨#[]⟩, .bool false, .string ⟨#[]⟩, .string ⟨#[]⟩] 154)).heap.size) := by show w.heap.size ≤ _; simp
  have HW := Lib.hid HM.out.be
  generalize w.alloc (.cells #[.int .i64 (7 + x / 64 % 6), .int .i64 0, .int .i64 0, .string ⟨#[]⟩, .bool false, .string ⟨#[]⟩, .string ⟨#[]⟩] 154) = W at HM HS k1 HW HZ ⊢
  have HB : Hid (Below W.heap.size W W.drew) := (Below.refl _ W).drew
  go_region_held3 (fun X => X.cell? ⟨w.heap.size, 0, none⟩ = some (.int .i64 (7 + x / 64 % 6)) ∧ X.cell? ⟨w.heap.size, 1, none⟩ = some (.int .i64 0) ∧ X.cell? ⟨w.heap.size, 2, none⟩ = some (.int .i64 0) ∧ X.cell? ⟨w.heap.size, 3, none⟩ = some (.string ⟨#[]⟩) ∧ X.cell? ⟨w.heap.size, 4, none⟩ = some (.bool false) ∧ X.cell? ⟨w.heap.size, 5, none⟩ = some (.string ⟨#[]⟩) ∧ X.cell? ⟨w.heap.size, 6, none⟩ = some (.string ⟨#[]⟩))
    (first
      | exact k1
      | exact HS.out _ HB.out
      | exact HS.out _ (HB.out.alloc HB.out.size _)
      | fail)
    ((first
      | (
          go_at_call 98
          (with_reducible refine (field_any _ _ _).mono ?_)
          rintro e w3 ⟨rfl, hb⟩
          have h3 := HB.out.trans (hb.mono HB.out.size)
          have HB := Lib.hid h3
          clear hb h3)
      | (
          go_at_call 99
          (with_reducible refine (num_any _ _ (by omega) (by omega)).mono ?_)
          rintro e w3 ⟨rfl, hb⟩
          have h3 := HB.out.trans (hb.mono HB.out.size)
          have HB := Lib.hid h3
          clear hb h3)))
  have HF := Lib.hid (HW.out.trans (HB.out.mono HZ.out))
  clear k1 HS HB HW HM
  go_wp2
  go_ret
  exact ⟨_, rfl, Preds.mk1 (HF.out.alloc HF.out.size _) rfl (Row.made _ _ _) rfl HF.out.size (List.cons_ne_nil _ _)⟩
theorem pred_0 (x : Int) (h0 : 0 ≤ x) (h1 : x ≤ 16777216) (hj : x % 7 = 0) (v o : ByteArray) (w : World) : Calls Try.prog 66 #[.int .i64 x, .string v, .string o] w fun e w' => ∃ u, e = .returned u ∧ Preds w w' u (predL x v o) := by
  have a3 := and3 (x / 16)
  have HL : Hid (predL x v o = []) := by show predL x v o = _; unfold predL; rw [hj]; rfl
  rw [HL.out]
  clear HL
  go_enter Try.func66, Try.ntmps66
  go_wp2
  go_ret
  exact ⟨_, rfl, .inl ⟨rfl, rfl⟩, by go_grown⟩
theorem pred_2 (x : Int) (h0 : 0 ≤ x) (h1 : x ≤ 16777216) (hj : x % 7 = 2) (v o : ByteArray) (w : World) : Calls Try.prog 66 #[.int .i64 x, .string v, .string o] w fun e w' => ∃ u, e = .returned u ∧ Preds w w' u (predL x v o) := by
  have a3 := and3 (x / 16)
  have a1 := and1 (x / 64)
  have HL : Hid (predL x v o = [fieldN v ⟨#[115]⟩, strN ⟨#[117]⟩, opN (7 + x / 64 % 2)]) := by show predL x v o = _; unfold predL; rw [hj]; rfl
  rw [HL.out]
  clear HL
  go_enter Try.func66, Try.ntmps66
  go_wp2_with fail
  refine (field_any _ _ _).mono ?_
  rintro e w3 ⟨rfl, hb⟩
  have HF := Lib.hid (((Below.refl _ w).alloc (Nat.le_refl _) (.cells #[.int .i64 (7 + x / 64 % 6), .int .i64 0, .int .i64 0, .string ⟨#[]⟩, .bool false, .string ⟨#[]⟩, .string ⟨#[]⟩] 154)).trans (hb.mono (by simp)))
  clear hb
  go_wp2
  go_ret
  exact ⟨_, rfl, Preds.mk1 (HF.out.alloc HF.out.size _) rfl (Row.made _ _ _) rfl HF.out.size (List.cons_ne_nil _ _)⟩
theorem pred_any (x : Int) (h0 : 0 ≤ x) (h1 : x ≤ 16777216) (v o : ByteArray) (w : World) : Calls Try.prog 66 #[.int .i64 x, .string v, .string o] w fun e w' => ∃ u, e = .returned u ∧ Preds w w' u (predL x v o) := by
  rcases (show x % 7 = 0 ∨ x % 7 = 1 ∨ x % 7 = 2 ∨ x % 7 = 3 ∨ x % 7 = 4 ∨ x % 7 = 5 ∨ x % 7 = 6 from by omega) with h | h | h | h | h | h | h
  · exact pred_0 x h0 h1 h v o w
  · exact pred_1 x h0 h1 h v o w
  · exact pred_2 x h0 h1 h v o w
  · exact pred_3 x h0 h1 h v o w
  · exact pred_4 x h0 h1 h v o w
  · exact pred_5 x h0 h1 h v o w
  · exact pred_6 x h0 h1 h v o w
end Go.Proofs.Ytaimbkikiokenaa.Pq
