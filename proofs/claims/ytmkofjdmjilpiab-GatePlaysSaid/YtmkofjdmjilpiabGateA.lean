/- A gate: who is inside, as a map has it; its calls. -/
import Derived.Test.YtmkofjdmjilpiabTab
import Derived.Maps.OwnSet
namespace Go.Proofs.Ytmkofjdmjilpiab.Gate
open Go.RowKit Go.Proofs.Ytmkofjdmjilpiab Go.Maps
set_option linter.unusedVariables false
set_option maxRecDepth 100000

theorem lawK : Keyed Try.prog 3 := int_keyed Try.underlying3
theorem zeroU (w : World) : (zeroValue 144).run Try.prog w = .ok (.agg #[]) w := by kernel_rfl
abbrev DU := DataW Unit
abbrev Ki (x : Int) : Lit := .int .i64 x
theorem ki_wf (x : Int) (h : -9223372036854775808 ≤ x ∧ x ≤ 9223372036854775807) : (Lit.int .i64 x).wf = true := WalkArith.wf_i64 h
theorem ki_key (x : Int) : WideAt.IsKeyLit (Ki x) := trivial
/-- A gate at b; its map at mb reads as D. -/
structure Gt (w : World) (b mb : Nat) (D : DU) (c : Nat) (cl : Bool) : Prop where
  row : Row w b 33 #[.map (some mb), .bool cl]
  own : w.ownsMap Try.prog 3 (unitElem (H := Unit)) mb c D
  ne : mb ≠ b
section
variable {w w' : World} {b mb c : Nat} {D : DU} {cl : Bool}
theorem Gt.c0 (h : Gt w b mb D c cl) : w.cell? ⟨b, 0, none⟩ = some (.map (some mb)) := (h.row.cell 0).trans rfl
theorem Gt.c1 (h : Gt w b mb D c cl) : w.cell? ⟨b, 1, none⟩ = some (.bool cl) := (h.row.cell 1).trans rfl
theorem own_turns {S : Nat → Prop} (h : w.ownsMap Try.prog 3 (unitElem (H := Unit)) mb c D) (g : Turns w w' S) (hs : ¬ S mb) : w'.ownsMap Try.prog 3 (unitElem (H := Unit)) mb c D := by
  have hl := h.lt
  obtain ⟨es, clock, hb, r⟩ := h
  exact ⟨es, clock, (g.block mb hl hs).trans hb, r⟩
theorem Gt.turns {S : Nat → Prop} (h : Gt w b mb D c cl) (g : Turns w w' S) (hb : ¬ S b) (hm : ¬ S mb) : Gt w' b mb D c cl := ⟨h.row.turns g hb, own_turns h.own g hm, h.ne⟩
theorem Gt.call (h : Gt w b mb D c cl) (g : Below w.heap.size w w') : Gt w' b mb D c cl := h.turns (Turns.of_below g) (fun h => h) (fun h => h)
theorem Gt.tidy (h : Gt w b mb D c cl) : Tidy D := h.own.tidy lawK
end
theorem new_any (w : World) : Calls Try.prog 15 #[] w fun e w' => e = .returned (.pointer (some ⟨w.heap.size + 1, 0, none⟩)) ∧ Gt w' (w.heap.size + 1) w.heap.size (.map []) 0 false ∧ Below w.heap.size w w' := by
  have hmm := @run_makeMap Try.prog
  have hG : Gt ((w.alloc (.map #[] 0)).alloc (.cells #[.map (some w.heap.size), .bool false] 33)) (w.heap.size + 1) w.heap.size (.map []) 0 false := by
    refine ⟨?_, (World.ownsMap_made w _ _ _).alloc _, by omega⟩
    have := Row.made (w.alloc (.map #[] 0)) 33 #[.map (some w.heap.size), .bool false]
    rw [World.size_alloc] at this
    exact this
  have HG := Lib.hid hG
  clear hG
  go_enter Try.func15, Try.ntmps15
  go_wp2
  go_ret
  exact ⟨rfl, HG.out, by go_grown⟩
section
variable (b mb c : Nat) (D : DU) (cl : Bool) (w : World) (h : Gt w b mb D c cl)
include h
theorem has_any (x : Int) (hx : -9223372036854775808 ≤ x ∧ x ≤ 9223372036854775807) (r : Bool) (hr : Maps.has D (Ki x) = r) :
    Calls Try.prog 89 #[.pointer (some ⟨b, 0, none⟩), .int .i64 x] w fun e w' => e = .returned (.bool r) ∧ Below w.heap.size w w' := by
  have H := Lib.hid h
  have c0 := h.c0
  have hkey := keyOf_int_mk Try.underlying3 (ki_wf x hx)
  have HR := Lib.hid hr
  clear h hr
  go_enter Try.func89, Try.ntmps89
  go_wp2_with (at_lookup; refine wpList_lookup_own_unit _ rfl _ _ 31 rfl 3 144 lawK Try.underlying31 (zeroU _) mb c D rfl H.out.own _ _ rfl hkey ?_)
  go_ret
  exact ⟨ret_bool HR.out, by go_grown⟩
theorem enter_closed (x : Int) (hx : 0 ≤ x) (hc : cl = true) : Calls Try.prog 16 #[.pointer (some ⟨b, 0, none⟩), .int .i64 x] w fun e w' => e = .returned (.int .i64 9) ∧ w = w' := by
  have c0 := h.c0
  have c1 := h.c1
  subst hc
  have hnil := fun w r => run_eql_map_nil (P := Try.prog) w 31 3 144 r Try.underlying31
  clear h
  go_enter Try.func16, Try.ntmps16
  go_wp2
  go_ret
  exact ⟨rfl, rfl⟩
theorem enter_twice (x : Int) (hx : 0 ≤ x ∧ x ≤ 9223372036854775807) (hc : cl = false) (hr : Maps.has D (Ki x) = true) :
    Calls Try.prog 16 #[.pointer (some ⟨b, 0, none⟩), .int .i64 x] w fun e w' => e = .returned (.int .i64 4) ∧ Below w.heap.size w w' := by
  have H := Lib.hid h
  have c0 := h.c0
  have c1 := h.c1
  subst hc
  obtain ⟨hx0, hx1⟩ := hx
  have HR := Lib.hid hr
  have hnil := fun w r => run_eql_map_nil (P := Try.prog) w 31 3 144 r Try.underlying31
  clear h hr
  go_enter Try.func16, Try.ntmps16
  go_wp2_with (go_at_call 89; refine (has_any b mb c D false _ H.out x ⟨by omega, hx1⟩ true HR.out).mono ?_; rintro e w1 ⟨rfl, hb⟩)
  go_ret
  exact ⟨rfl, hb⟩
theorem enter_new (x : Int) (hx : 0 ≤ x ∧ x ≤ 9223372036854775807) (hc : cl = false) (hr : Maps.has D (Ki x) = false) (hcm : c ≤ 1000) :
    Calls Try.prog 16 #[.pointer (some ⟨b, 0, none⟩), .int .i64 x] w fun e w' => e = .returned (.int .i64 0) ∧ Gt w' b mb (D.put (Ki x) (.agg [])) (c + 1) false ∧ Turns w w' (fun k => k = mb) := by
  have H := Lib.hid h
  have c0 := h.c0
  have c1 := h.c1
  subst hc
  obtain ⟨hx0, hx1⟩ := hx
  have HR := Lib.hid hr
  have hkey := keyOf_int_mk Try.underlying3 (ki_wf x ⟨by omega, hx1⟩)
  have hnil := fun w r => run_eql_map_nil (P := Try.prog) w 31 3 144 r Try.underlying31
  clear h hr
  go_enter Try.func16, Try.ntmps16
  go_wp2_with fail
  refine (has_any b mb c D false _ H.out x ⟨by omega, hx1⟩ false HR.out).mono ?_
  rintro e w1 ⟨rfl, hb⟩
  have H1 := Lib.hid (H.out.call hb)
  have HB := Lib.hid hb
  have d0 := H1.out.c0
  clear hb c0 c1
  go_wp2_with (at_mapUpdate; refine wpList_mapUpdate_in _ rfl _ _ _ 31 rfl 3 144 lawK Try.underlying31 (unitElem (H := Unit)) mb c D rfl H1.out.own (by unfold maxLen; omega) _ _ _ rfl rfl hkey _ [] unitElem_mk ?_; intro w2 hown2 hturn2)
  go_ret
  have hT := turns_one hturn2.grown
  exact ⟨rfl, ⟨H1.out.row.turns hT (fun e => H1.out.ne e.symm), hown2, H1.out.ne⟩, turns_after HB.out hT⟩
theorem leave_no (x : Int) (hx : -9223372036854775808 ≤ x ∧ x ≤ 9223372036854775807) (hr : Maps.has D (Ki x) = false) :
    Calls Try.prog 17 #[.pointer (some ⟨b, 0, none⟩), .int .i64 x] w fun e w' => e = .returned (.int .i64 3) ∧ Below w.heap.size w w' := by
  have H := Lib.hid h
  have HR := Lib.hid hr
  clear h hr
  go_enter Try.func17, Try.ntmps17
  go_wp2_with (go_at_call 89; refine (has_any b mb c D cl _ H.out x hx false HR.out).mono ?_; rintro e w1 ⟨rfl, hb⟩)
  go_ret
  exact ⟨rfl, hb⟩
theorem leave_yes (x : Int) (hx : -9223372036854775808 ≤ x ∧ x ≤ 9223372036854775807) (hr : Maps.has D (Ki x) = true) :
    Calls Try.prog 17 #[.pointer (some ⟨b, 0, none⟩), .int .i64 x] w fun e w' => e = .returned (.int .i64 0) ∧ Gt w' b mb (D.del (Ki x)) c cl ∧ Turns w w' (fun k => k = mb) := by
  have H := Lib.hid h
  have HR := Lib.hid hr
  have hkey := keyOf_int_mk Try.underlying3 (ki_wf x hx)
  clear h hr
  go_enter Try.func17, Try.ntmps17
  go_wp2_with fail
  refine (has_any b mb c D cl _ H.out x hx true HR.out).mono ?_
  rintro e w1 ⟨rfl, hb⟩
  have H1 := Lib.hid (H.out.call hb)
  have HB := Lib.hid hb
  have d0 := H1.out.c0
  clear hb
  go_wp2_with (at_delete; refine wpList_delete_own _ rfl _ _ 31 3 rfl 144 lawK Try.underlying31 _ mb c D rfl H1.out.own _ _ rfl hkey ?_; intro w2 hown2 hturn2)
  go_ret
  have hT := turns_one hturn2.grown
  exact ⟨rfl, ⟨H1.out.row.turns hT (fun e => H1.out.ne e.symm), hown2, H1.out.ne⟩, turns_after HB.out hT⟩
theorem close_any : Calls Try.prog 18 #[.pointer (some ⟨b, 0, none⟩)] w fun e w' => e = .returned (.tuple #[]) ∧ Gt w' b mb D c true ∧ Turns w w' (fun k => k = b) := by
  have H := Lib.hid h
  have c1 := h.c1
  have f1 := h.row.free 1
  clear h
  go_enter Try.func18, Try.ntmps18
  go_wp2
  go_end0
  exact ⟨rfl, ⟨Row.put H.out.row 1 _, H.out.own.setCell H.out.ne _, H.out.ne⟩, (Turns.refl w _).put b 1 _ (fun _ => rfl)⟩
theorem done_any (r : Bool) (hr : (cl && decide (Maps.size D = 0)) = r) : Calls Try.prog 20 #[.pointer (some ⟨b, 0, none⟩)] w fun e w' => e = .returned (.bool r) ∧ w = w' := by
  have H := Lib.hid h
  have c0 := h.c0
  have c1 := h.c1
  have HR := Lib.hid hr
  clear h hr
  cases cl with
  | false =>
    go_enter Try.func20, Try.ntmps20
    go_wp2
    go_ret
    exact ⟨ret_bool (by rw [← HR.out]; first | done | rfl), rfl⟩
  | true =>
    have hlen := fun ty => H.out.own.len Try.underlying31 ty
    go_enter Try.func20, Try.ntmps20
    go_wp2
    go_ret
    exact ⟨ret_bool (by rw [← HR.out, Bool.eq_iff_iff]; simp; try omega), rfl⟩
end
end Go.Proofs.Ytmkofjdmjilpiab.Gate
