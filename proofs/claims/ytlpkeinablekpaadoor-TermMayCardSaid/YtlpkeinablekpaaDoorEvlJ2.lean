/- Whether any parts are a predicate: own, May. -/
import Derived.Test.YtlpkeinablekpaaDoorEvlJ
import Derived.Deep.RegionLaw
namespace Go.Proofs.YtlpkeinablekpaaDoor.Evl
open Go.RowKit Go.Proofs.YtlpkeinablekpaaDoor Go.Proofs.YtlpkeinablekpaaDoor.Ev Go.Proofs.YtlpkeinablekpaaDoor.Sch Go.Proofs.YtlpkeinablekpaaDoor.Ty
set_option linter.unusedVariables false
set_option maxRecDepth 100000
theorem false_of {P : Prop} {w w' : World} {e : Ending} (h : QPost P w e w') (hn : ¬ P) : e = .returned (.bool false) ∧ Below w.heap.size w w' := by
  obtain ⟨r, rfl, h1, h2⟩ := h
  cases r with
  | true => exact absurd (h1 rfl) hn
  | false => exact ⟨rfl, h2⟩
set_option maxHeartbeats 2000000 in
theorem const_no (k i : Int) (s : ByteArray) (b : Bool) (hn : ¬ OkM k i s b) (w : World) : Calls Tryd.prog 62 #[.agg #[.int .i64 k, .int .i64 i, .string s, .bool b]] w fun e w' => e = .returned (.bool false) ∧ Below w.heap.size w w' := by
  have HM := Lib.hid (fun X => (vmay_q k i s b X).mono fun _ _ h => false_of h hn)
  obtain ⟨k0, k1, k2, k3⟩ := v4_box w k i s b (Below.refl (w.heap.size + 1) (w.alloc (.cells #[.int .i64 k, .int .i64 i, .string s, .bool b] 23)))
  have HW : Hid (Below w.heap.size w (w.alloc (.cells #[.int .i64 k, .int .i64 i, .string s, .bool b] 23))) := (Below.refl _ w).alloc (Nat.le_refl _) _
  clear hn
  go_enter Tryd.func62, Tryd.ntmps62
  go_wp2
  generalize (w.alloc (.cells #[.int .i64 k, .int .i64 i, .string s, .bool b] 23)) = W at k0 k1 k2 k3 HW ⊢
  first | go_region_law (
    (go_simp
     go_at_call 25
     refine (HM.out _).mono ?_
     rintro e w3 ⟨rfl, hb⟩
     have HF := Lib.hid (HW.out.trans (((Below.refl _ W).drew.trans (hb.mono (Nat.le_refl _))).mono HW.out.size))
     clear hb)) | fail
  all_goals
    go_wp2
    go_ret
    exact ⟨rfl, HF.out⟩
set_option maxHeartbeats 2000000 in
theorem const_min (w : World) : Calls Tryd.prog 62 #[.agg #[.int .i64 1, .int .i64 (-9223372036854775808), .string ⟨#[]⟩, .bool false]] w fun e w' => e = .returned (.bool false) ∧ Below w.heap.size w w' := by
  have hS : ∀ X, Below (w.heap.size + 1) (w.alloc (.cells #[.int .i64 1, .int .i64 (-9223372036854775808), .string ⟨#[]⟩, .bool false] 23)) X → X.cell? ⟨w.heap.size, 0, none⟩ = some (.int .i64 1) ∧ X.cell? ⟨w.heap.size, 1, none⟩ = some (.int .i64 (-9223372036854775808)) ∧ X.cell? ⟨w.heap.size, 2, none⟩ = some (.string ⟨#[]⟩) ∧ X.cell? ⟨w.heap.size, 3, none⟩ = some (.bool false) := fun X h => v4_box w 1 (-9223372036854775808) ⟨#[]⟩ false h
  have k1 := hS _ (Below.refl _ _)
  have HS := Lib.hid hS
  have HZ : Hid (w.heap.size + 1 = (w.alloc (.cells #[.int .i64 1, .int .i64 (-9223372036854775808), .string ⟨#[]⟩, .bool false] 23)).heap.size) := by show w.heap.size + 1 = _; simp
  have HW : Hid (Below w.heap.size w (w.alloc (.cells #[.int .i64 1, .int .i64 (-9223372036854775808), .string ⟨#[]⟩, .bool false] 23))) := (Below.refl _ w).alloc (Nat.le_refl _) _
  clear hS
  go_enter Tryd.func62, Tryd.ntmps62
  go_wp2
  generalize (w.alloc (.cells #[.int .i64 1, .int .i64 (-9223372036854775808), .string ⟨#[]⟩, .bool false] 23)) = W at HS k1 HW HZ ⊢
  have HB : Hid (Below W.heap.size W W.drew) := (Below.refl _ W).drew
  go_region_held3 (fun X => X.cell? ⟨w.heap.size, 0, none⟩ = some (.int .i64 1) ∧ X.cell? ⟨w.heap.size, 1, none⟩ = some (.int .i64 (-9223372036854775808)) ∧ X.cell? ⟨w.heap.size, 2, none⟩ = some (.string ⟨#[]⟩) ∧ X.cell? ⟨w.heap.size, 3, none⟩ = some (.bool false))
    (first
      | exact k1
      | exact HS.out _ (HB.out.mono (by rw [← HZ.out]; exact Nat.le_refl _))
      | fail)
    ((first
      | (
          go_at_call 25
          (with_reducible refine (may_1 _ _).mono ?_)
          rintro e w3 ⟨rfl, hb⟩
          have h3 := HB.out.trans (hb.mono HB.out.size)
          have HB := Lib.hid h3
          clear hb h3)
      | (
          go_at_call 21
          (with_reducible refine (vnum_any _ _).mono ?_)
          rintro e w3 ⟨rfl, hb⟩
          have h3 := HB.out.trans (hb.mono HB.out.size)
          have HB := Lib.hid h3
          clear hb h3)))
  have HF := Lib.hid (HW.out.trans (HB.out.mono (by rw [← HZ.out]; omega)))
  clear k1 HS HB HW
  go_wp2
  go_ret
  exact ⟨rfl, HF.out⟩
theorem const_q (k i : Int) (s : ByteArray) (b : Bool) (w : World) : Calls Tryd.prog 62 #[.agg #[.int .i64 k, .int .i64 i, .string s, .bool b]] w (QPost (OkV k i s b) w) := by
  have no : ∀ {e : Ending} {w' : World}, (e = .returned (.bool false) ∧ Below w.heap.size w w') → QPost (OkV k i s b) w e w' := fun ⟨h, hb⟩ => by subst h; exact qpost_no hb
  have yes : OkV k i s b → ∀ {e : Ending} {w' : World}, (e = .returned (.bool true) ∧ Below w.heap.size w w') → QPost (OkV k i s b) w e w' := fun ho _ _ ⟨h, hb⟩ => by subst h; exact qpost (fun _ => ho) hb
  by_cases h : OkM k i s b
  · rcases h with ⟨rfl, rfl, rfl⟩ | ⟨rfl, rfl, rfl, h64⟩ | ⟨rfl, rfl, rfl⟩
    · by_cases hm : i = -9223372036854775808
      · subst hm; exact (const_min w).mono fun _ _ h => no h
      · have hm' : (i == -9223372036854775808) = false := by simpa using hm
        exact (const_1 i hm' w).mono fun _ _ h => yes (.num i hm') h
    · exact (const_2 s h64 w).mono fun _ _ h => yes (.text s h64) h
    · exact (const_3 b w).mono fun _ _ h => yes (.truth b) h
  · exact (const_no k i s b h w).mono fun _ _ h => no h
set_option maxHeartbeats 1000000 in
theorem own1n_0  (k : Int) (i : Int) (s : ByteArray) (b : Bool) (v : ByteArray) (f : ByteArray) (h : ¬ v.toList = []) (w : World) : Calls Tryd.prog 38 #[.agg #[.int .i64 1, .int .i64 k, .int .i64 i, .string s, .bool b, .string v, .string f]] w fun e w' => e = .returned (.bool false) ∧ Below w.heap.size w w' := by
  go_enter Tryd.func38, Tryd.ntmps38
  go_wp2
  go_ret
  exact ⟨rfl, by go_grown⟩
set_option maxHeartbeats 1000000 in
theorem own1n_1  (k : Int) (i : Int) (s : ByteArray) (b : Bool) (f : ByteArray) (h : ¬ f.toList = []) (w : World) : Calls Tryd.prog 38 #[.agg #[.int .i64 1, .int .i64 k, .int .i64 i, .string s, .bool b, .string ⟨#[]⟩, .string f]] w fun e w' => e = .returned (.bool false) ∧ Below w.heap.size w w' := by
  go_enter Tryd.func38, Tryd.ntmps38
  go_wp2
  go_ret
  exact ⟨rfl, by go_grown⟩
set_option maxHeartbeats 1000000 in
theorem own2n_0  (k : Int) (i : Int) (s : ByteArray) (b : Bool) (v : ByteArray) (f : ByteArray) (h : ¬ k = 0) (w : World) : Calls Tryd.prog 38 #[.agg #[.int .i64 2, .int .i64 k, .int .i64 i, .string s, .bool b, .string v, .string f]] w fun e w' => e = .returned (.bool false) ∧ Below w.heap.size w w' := by
  go_enter Tryd.func38, Tryd.ntmps38
  go_wp2
  go_ret
  exact ⟨rfl, by go_grown⟩
set_option maxHeartbeats 1000000 in
theorem own2n_1  (i : Int) (s : ByteArray) (b : Bool) (v : ByteArray) (f : ByteArray) (h : ¬ i = 0) (w : World) : Calls Tryd.prog 38 #[.agg #[.int .i64 2, .int .i64 0, .int .i64 i, .string s, .bool b, .string v, .string f]] w fun e w' => e = .returned (.bool false) ∧ Below w.heap.size w w' := by
  go_enter Tryd.func38, Tryd.ntmps38
  go_wp2
  go_ret
  exact ⟨rfl, by go_grown⟩
set_option maxHeartbeats 1000000 in
theorem own2n_2  (s : ByteArray) (b : Bool) (v : ByteArray) (f : ByteArray) (h : ¬ s.toList = []) (w : World) : Calls Tryd.prog 38 #[.agg #[.int .i64 2, .int .i64 0, .int .i64 0, .string s, .bool b, .string v, .string f]] w fun e w' => e = .returned (.bool false) ∧ Below w.heap.size w w' := by
  go_enter Tryd.func38, Tryd.ntmps38
  go_wp2
  go_ret
  exact ⟨rfl, by go_grown⟩
set_option maxHeartbeats 1000000 in
theorem own2n_3  (v : ByteArray) (f : ByteArray) (w : World) : Calls Tryd.prog 38 #[.agg #[.int .i64 2, .int .i64 0, .int .i64 0, .string ⟨#[]⟩, .bool true, .string v, .string f]] w fun e w' => e = .returned (.bool false) ∧ Below w.heap.size w w' := by
  go_enter Tryd.func38, Tryd.ntmps38
  go_wp2
  go_ret
  exact ⟨rfl, by go_grown⟩
set_option maxHeartbeats 1000000 in
theorem ownon_0 (op : Int) (o1 : (op == 1) = false) (o2 : (op == 2) = false) (k : Int) (i : Int) (s : ByteArray) (b : Bool) (v : ByteArray) (f : ByteArray) (h : ¬ k = 0) (w : World) : Calls Tryd.prog 38 #[.agg #[.int .i64 op, .int .i64 k, .int .i64 i, .string s, .bool b, .string v, .string f]] w fun e w' => e = .returned (.bool false) ∧ Below w.heap.size w w' := by
  go_enter Tryd.func38, Tryd.ntmps38
  go_wp2
  go_ret
  exact ⟨rfl, by go_grown⟩
set_option maxHeartbeats 1000000 in
theorem ownon_1 (op : Int) (o1 : (op == 1) = false) (o2 : (op == 2) = false) (i : Int) (s : ByteArray) (b : Bool) (v : ByteArray) (f : ByteArray) (h : ¬ i = 0) (w : World) : Calls Tryd.prog 38 #[.agg #[.int .i64 op, .int .i64 0, .int .i64 i, .string s, .bool b, .string v, .string f]] w fun e w' => e = .returned (.bool false) ∧ Below w.heap.size w w' := by
  go_enter Tryd.func38, Tryd.ntmps38
  go_wp2
  go_ret
  exact ⟨rfl, by go_grown⟩
set_option maxHeartbeats 1000000 in
theorem ownon_2 (op : Int) (o1 : (op == 1) = false) (o2 : (op == 2) = false) (s : ByteArray) (b : Bool) (v : ByteArray) (f : ByteArray) (h : ¬ s.toList = []) (w : World) : Calls Tryd.prog 38 #[.agg #[.int .i64 op, .int .i64 0, .int .i64 0, .string s, .bool b, .string v, .string f]] w fun e w' => e = .returned (.bool false) ∧ Below w.heap.size w w' := by
  go_enter Tryd.func38, Tryd.ntmps38
  go_wp2
  go_ret
  exact ⟨rfl, by go_grown⟩
set_option maxHeartbeats 1000000 in
theorem ownon_3 (op : Int) (o1 : (op == 1) = false) (o2 : (op == 2) = false) (v : ByteArray) (f : ByteArray) (w : World) : Calls Tryd.prog 38 #[.agg #[.int .i64 op, .int .i64 0, .int .i64 0, .string ⟨#[]⟩, .bool true, .string v, .string f]] w fun e w' => e = .returned (.bool false) ∧ Below w.heap.size w w' := by
  go_enter Tryd.func38, Tryd.ntmps38
  go_wp2
  go_ret
  exact ⟨rfl, by go_grown⟩
set_option maxHeartbeats 1000000 in
theorem ownon_4 (op : Int) (o1 : (op == 1) = false) (o2 : (op == 2) = false) (v : ByteArray) (f : ByteArray) (h : ¬ v.toList = []) (w : World) : Calls Tryd.prog 38 #[.agg #[.int .i64 op, .int .i64 0, .int .i64 0, .string ⟨#[]⟩, .bool false, .string v, .string f]] w fun e w' => e = .returned (.bool false) ∧ Below w.heap.size w w' := by
  go_enter Tryd.func38, Tryd.ntmps38
  go_wp2
  go_ret
  exact ⟨rfl, by go_grown⟩
set_option maxHeartbeats 1000000 in
theorem ownon_5 (op : Int) (o1 : (op == 1) = false) (o2 : (op == 2) = false) (f : ByteArray) (h : ¬ f.toList = []) (w : World) : Calls Tryd.prog 38 #[.agg #[.int .i64 op, .int .i64 0, .int .i64 0, .string ⟨#[]⟩, .bool false, .string ⟨#[]⟩, .string f]] w fun e w' => e = .returned (.bool false) ∧ Below w.heap.size w w' := by
  go_enter Tryd.func38, Tryd.ntmps38
  go_wp2
  go_ret
  exact ⟨rfl, by go_grown⟩
end Go.Proofs.YtlpkeinablekpaaDoor.Evl
