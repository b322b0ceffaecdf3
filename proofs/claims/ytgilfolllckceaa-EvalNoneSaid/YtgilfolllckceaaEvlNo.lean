/- The law EvalNone. -/
import Derived.Test.YtgilfolllckceaaEvlNn
import Derived.Test.YtgilfolllckceaaLaw
namespace Go.Proofs.Ytgilfolllckceaa.Evl
open Go.RowKit Go.Proofs.Ytgilfolllckceaa Go.Proofs.Ytgilfolllckceaa.Ev Go.Proofs.Ytgilfolllckceaa.Sch Go.Proofs.Ytgilfolllckceaa.Ty Go.Proofs.Ytgilfolllckceaa.Num
set_option linter.unusedVariables false
set_option maxRecDepth 100000
theorem ns_take {w : World} {B n c m : Nat} {A : Option Addr} {l : List Nd} (h : Ns w B (.slice A n c) l) (hm : m ≤ l.length) : Ns w B (.slice A m c) (l.take m) := by
  obtain ⟨A', c', e, h1, h2, h3⟩ := h
  injection e with e1 e2 e3
  subst e1 e3
  have hlen : (l.take m).length = m := by rw [List.length_take, Nat.min_eq_left hm]
  refine ⟨_, _, by rw [hlen], by rw [hlen]; omega, h2, fun k hk => ?_⟩
  obtain ⟨g, o, e, hg, hc⟩ := h3 k (by omega)
  exact ⟨g, o, e, hg, fun j u hj => hc j u (by rw [List.getElem_take] at hj; exact hj)⟩
set_option maxHeartbeats 16000000 in
theorem none_law (x : EI) (v : Value) (l : List Nd) {w : World} (hx : EIOk w w.heap.size x) (hl : Ns w w.heap.size v l) (hli : ∀ n ∈ l, In64 n.i) :
    Calls Try.prog 4 #[.agg #[.string x.ty, .string x.key, .int .i64 x.t, .int .i64 x.q, .slice x.va x.vn x.vc], v] w fun e w' => e = .returned (.bool true) ∧ Below w.heap.size w w' := by
  have hX : Below w.heap.size w (w.alloc (.cells #[.string x.ty, .string x.key, .int .i64 x.t, .int .i64 x.q, .slice x.va x.vn x.vc] 43)) := (Below.refl _ w).alloc (Nat.le_refl _) _
  have HX := Lib.hid hX
  have HI := Lib.hid hx
  have HL0 := Lib.hid hl
  have HR0 : Hid (Row (w.alloc (.cells #[.string x.ty, .string x.key, .int .i64 x.t, .int .i64 x.q, .slice x.va x.vn x.vc] 43)) w.heap.size 43 #[.string x.ty, .string x.key, .int .i64 x.t, .int .i64 x.q, .slice x.va x.vn x.vc]) := Lib.hid (Row.made w _ _)
  obtain ⟨lA, lc, rfl, hl1, hl2, hl3⟩ := hl
  have HL3 := Lib.hid hl3
  have HLI := Lib.hid hli
  clear hX hx hl3 hli
  go_enter Try.func4, Try.ntmps4
  go_wp2_with fail
  refine (types_any _).mono ?_
  rintro e w1 ⟨v1, rfl, ht1, hb1⟩
  have HT1 := Lib.hid ht1
  clear ht1
  go_wp2_with fail
  refine (new_any _ typesL _ _ HT1.out (Nat.le_refl _)).mono ?_
  rintro e w2 ⟨p, c, rfl, hr, hsc, _, hb2⟩
  obtain rfl := typesL_ok hr
  have hb12 := hb1.trans (hb2.mono hb1.size)
  have hb02 : Below w.heap.size w w2 := HX.out.trans (hb12.mono HX.out.size)
  have Sw2 := Lib.hid (hsc rfl)
  have Bw2 := Lib.hid hb02
  have HR2 := Row.below HR0.out hb12 HR0.out.lt
  have HI2 := Lib.hid ((HI.out.below hb02).mono hb02.size)
  have e0 : w2.cell? ⟨w.heap.size, 0, none⟩ = some (.string x.ty) := (HR2.cell 0).trans rfl
  have e1 : w2.cell? ⟨w.heap.size, 1, none⟩ = some (.string x.key) := (HR2.cell 1).trans rfl
  have e2 : w2.cell? ⟨w.heap.size, 2, none⟩ = some (.int .i64 x.t) := (HR2.cell 2).trans rfl
  have e3 : w2.cell? ⟨w.heap.size, 3, none⟩ = some (.int .i64 x.q) := (HR2.cell 3).trans rfl
  have e4 : w2.cell? ⟨w.heap.size, 4, none⟩ = some (.slice x.va x.vn x.vc) := (HR2.cell 4).trans rfl
  clear hb1 hb2 hr hsc hb12 hb02 HR0 HR2
  go_wp2_with fail
  refine (event_any x w2 HI2.out).mono ?_
  rintro e w3 ⟨vb, rfl, hok, hb3⟩
  have hvl := vl_row hok.row (L := (x.made vb).vs) (by simp) rfl (by have := hok.ln; omega)
  obtain ⟨ty, hty⟩ : ∃ ty, ty3 x.k = ty := ⟨_, rfl⟩
  obtain ⟨key, hkey⟩ : ∃ k, (x.made vb).key = k := ⟨_, rfl⟩
  obtain ⟨t, ht⟩ : ∃ t, (x.made vb).t = t := ⟨_, rfl⟩
  obtain ⟨L, hL⟩ : ∃ L, evVals x.k x.n x.s x.b = L := ⟨_, rfl⟩
  obtain ⟨m, hm⟩ : ∃ m, L.length = m := ⟨_, rfl⟩
  rw [show (x.made vb).vs = L from hL, show (x.made vb).vb = vb from rfl] at hvl
  rw [show (x.made vb).cells.toArray = #[.string ty, .string key, .int .i64 t, .int .i64 0, .slice (some ⟨vb, 0, none⟩) m m] by rw [← hm, ← hL, ← hty, ← hkey, ← ht]; rfl]
  have hes : (∀ z ∈ L, In64 z.i) := by
    intro z hz
    have hn : In64 x.n := by unfold EI.n; split <;> exact ⟨by omega, by omega⟩
    rw [← hL] at hz
    unfold evVals at hz
    split at hz <;> simp at hz
    · rcases hz with rfl | rfl | rfl <;> first | exact hn | exact in_zero
    · rcases hz with rfl | rfl <;> first | exact hn | exact in_zero
  have F1 : Hid (fldM typesL (evE ty key t 0 L) ⟨#[97]⟩ ⟨#[110, 111, 110, 101]⟩ = none) := Lib.hid (by rw [← hty]; exact fld_none _ x.k_lt _ _ _ _)
  have F3 : Hid (∃ y, fldM typesL (evE ty key t 0 L) ⟨#[97]⟩ ⟨#[120]⟩ = some y ∧ (y.k = 1 ∨ y.k = 2 ∨ y.k = 3)) := Lib.hid (by rw [← hty, ← hL]; exact fld_x _ x.k_lt _ _ _ _ _ _)
  have HEB : Hid (EnB (evE ty key t 0 L)) := Lib.hid (fun b hb z hz => by simp [evE] at hb; subst hb; exact hes z hz)
  have HVL := Lib.hid hvl
  have Sw3 := Lib.hid (Sw2.out.below hb3 hb3.size)
  have Bw3 := Lib.hid (Bw2.out.trans (hb3.mono Bw2.out.size))
  have HM := Lib.hid hm
  clear hok hb3 hvl hty hkey ht hL hes e0 e1 e2 e3 e4 HI2 hm
  go_wp2_with fail
  generalize hW4 : (w3.alloc _).alloc _ = W4
  have hb4 : Below w3.heap.size w3 W4 := by rw [← hW4]; exact ((Below.refl _ w3).alloc (Nat.le_refl _) _).alloc (by simp) _
  have hrb : Row W4 w3.heap.size 46 #[.string ⟨#[97]⟩, .string ty, .string key, .int .i64 t, .int .i64 0, .slice (some ⟨vb, 0, none⟩) m m] := by rw [← hW4]; exact (Row.made w3 _ _).alloc _
  have R8W4 : Hid (Row W4 (w3.heap.size + 1) 32 #[.int .i64 7, .int .i64 0, .int .i64 0, .string ⟨#[]⟩, .bool false, .string ⟨#[]⟩, .string ⟨#[]⟩]) := Lib.hid (by rw [← hW4]; simpa using Row.made (w3.alloc (.cells #[.string ⟨#[97]⟩, .string ty, .string key, .int .i64 t, .int .i64 0, .slice (some ⟨vb, 0, none⟩) m m] 46)) 32 #[.int .i64 7, .int .i64 0, .int .i64 0, .string ⟨#[]⟩, .bool false, .string ⟨#[]⟩, .string ⟨#[]⟩])
  have EW4 : Hid (En W4 W4.heap.size (.slice (some ⟨w3.heap.size, 0, none⟩) 1 1) (evE ty key t 0 L)) := Lib.hid (en_row1 hrb (by rw [← HM.out]; exact HVL.out.below hb4 hb4.size))
  have SW4 := Lib.hid (Sw3.out.below hb4 hb4.size)
  have BW4 := Lib.hid (Bw3.out.trans (hb4.mono Bw3.out.size))
  clear hb4 hrb HVL hW4
  refine (fld_any ⟨#[97]⟩ ⟨#[110, 111, 110, 101]⟩ _).mono ?_
  rintro e w5 ⟨rfl, hb⟩
  obtain ⟨W5, hW5⟩ : ∃ W, w5.alloc (.cells #[.int .i64 2, .int .i64 0, .int .i64 0, .string ⟨#[]⟩, .bool false, .string ⟨#[97]⟩, .string ⟨#[110, 111, 110, 101]⟩] 32) = W := ⟨_, rfl⟩
  have hc : Below W4.heap.size W4 W5 := by rw [← hW5]; exact hb.alloc hb.size _
  have R9W5 : Hid (Row W5 w5.heap.size 32 #[.int .i64 2, .int .i64 0, .int .i64 0, .string ⟨#[]⟩, .bool false, .string ⟨#[97]⟩, .string ⟨#[110, 111, 110, 101]⟩]) := Lib.hid (by rw [← hW5]; exact Row.made _ _ _)
  have SW5 := Lib.hid (SW4.out.below (hc) (hc).size)
  have EW5 := Lib.hid (EW4.out.below (hc) (hc).size)
  have BW5 := Lib.hid (BW4.out.trans ((hc).mono BW4.out.size))
  have R8W5 := Lib.hid (Row.below R8W4.out (hc) R8W4.out.lt)
  clear hb hc
  go_wp2_with fail
  refine (fld_any ⟨#[119]⟩ ⟨#[120]⟩ _).mono ?_
  rintro e w6 ⟨rfl, hb⟩
  obtain ⟨W6, hW6⟩ : ∃ W, w6.alloc (.cells #[.int .i64 2, .int .i64 0, .int .i64 0, .string ⟨#[]⟩, .bool false, .string ⟨#[119]⟩, .string ⟨#[120]⟩] 32) = W := ⟨_, rfl⟩
  have hc : Below W5.heap.size W5 W6 := by rw [← hW6]; exact hb.alloc hb.size _
  have R10W6 : Hid (Row W6 w6.heap.size 32 #[.int .i64 2, .int .i64 0, .int .i64 0, .string ⟨#[]⟩, .bool false, .string ⟨#[119]⟩, .string ⟨#[120]⟩]) := Lib.hid (by rw [← hW6]; exact Row.made _ _ _)
  have SW6 := Lib.hid (SW5.out.below (hc) (hc).size)
  have EW6 := Lib.hid (EW5.out.below (hc) (hc).size)
  have BW6 := Lib.hid (BW5.out.trans ((hc).mono BW5.out.size))
  have R8W6 := Lib.hid (Row.below R8W5.out (hc) R8W5.out.lt)
  have R9W6 := Lib.hid (Row.below R9W5.out (hc) R9W5.out.lt)
  clear hb hc
  have n0 : W6.cell? ⟨w5.heap.size, 0, none⟩ = some (.int .i64 2) := (R9W6.out.cell 0).trans rfl
  have n1 : W6.cell? ⟨w5.heap.size, 1, none⟩ = some (.int .i64 0) := (R9W6.out.cell 1).trans rfl
  have n2 : W6.cell? ⟨w5.heap.size, 2, none⟩ = some (.int .i64 0) := (R9W6.out.cell 2).trans rfl
  have n3 : W6.cell? ⟨w5.heap.size, 3, none⟩ = some (.string ⟨#[]⟩) := (R9W6.out.cell 3).trans rfl
  have n4 : W6.cell? ⟨w5.heap.size, 4, none⟩ = some (.bool false) := (R9W6.out.cell 4).trans rfl
  have n5 : W6.cell? ⟨w5.heap.size, 5, none⟩ = some (.string ⟨#[97]⟩) := (R9W6.out.cell 5).trans rfl
  have n6 : W6.cell? ⟨w5.heap.size, 6, none⟩ = some (.string ⟨#[110, 111, 110, 101]⟩) := (R9W6.out.cell 6).trans rfl
  have q0 : W6.cell? ⟨(w3.heap.size + 1), 0, none⟩ = some (.int .i64 7) := (R8W6.out.cell 0).trans rfl
  have q1 : W6.cell? ⟨(w3.heap.size + 1), 1, none⟩ = some (.int .i64 0) := (R8W6.out.cell 1).trans rfl
  have q2 : W6.cell? ⟨(w3.heap.size + 1), 2, none⟩ = some (.int .i64 0) := (R8W6.out.cell 2).trans rfl
  have q3 : W6.cell? ⟨(w3.heap.size + 1), 3, none⟩ = some (.string ⟨#[]⟩) := (R8W6.out.cell 3).trans rfl
  have q4 : W6.cell? ⟨(w3.heap.size + 1), 4, none⟩ = some (.bool false) := (R8W6.out.cell 4).trans rfl
  have q5 : W6.cell? ⟨(w3.heap.size + 1), 5, none⟩ = some (.string ⟨#[]⟩) := (R8W6.out.cell 5).trans rfl
  have q6 : W6.cell? ⟨(w3.heap.size + 1), 6, none⟩ = some (.string ⟨#[]⟩) := (R8W6.out.cell 6).trans rfl
  go_wp2_with fail
  generalize hW7 : W6.alloc _ = W7
  have hc : Below W6.heap.size W6 W7 := by rw [← hW7]; exact (Below.refl _ _).alloc (Nat.le_refl _) _
  have hrow : Row W7 W6.heap.size 32 #[.int .i64 2, .int .i64 0, .int .i64 0, .string ⟨#[]⟩, .bool false, .string ⟨#[97]⟩, .string ⟨#[110, 111, 110, 101]⟩, .int .i64 2, .int .i64 0, .int .i64 0, .string ⟨#[]⟩, .bool false, .string ⟨#[97]⟩, .string ⟨#[110, 111, 110, 101]⟩, .int .i64 7, .int .i64 0, .int .i64 0, .string ⟨#[]⟩, .bool false, .string ⟨#[]⟩, .string ⟨#[]⟩] := by rw [← hW7]; exact Row.made _ _ _
  have HN := Lib.hid (ns_row hrow (l := [⟨2, 0, 0, ⟨#[]⟩, false, ⟨#[97]⟩, ⟨#[110, 111, 110, 101]⟩⟩, ⟨2, 0, 0, ⟨#[]⟩, false, ⟨#[97]⟩, ⟨#[110, 111, 110, 101]⟩⟩, opn 7]) (n := 3) rfl rfl (by decide))
  have SW7 := Lib.hid (SW6.out.below (hc) (hc).size)
  have EW7 := Lib.hid (EW6.out.below (hc) (hc).size)
  have BW7 := Lib.hid (BW6.out.trans ((hc).mono BW6.out.size))
  have R8W7 := Lib.hid (Row.below R8W6.out (hc) R8W6.out.lt)
  have R9W7 := Lib.hid (Row.below R9W6.out (hc) R9W6.out.lt)
  have R10W7 := Lib.hid (Row.below R10W6.out (hc) R10W6.out.lt)
  clear hc hrow hW7
  clear n0 n1 n2 n3 n4 n5 n6
  clear q0 q1 q2 q3 q4 q5 q6
  have HE := Lib.hid (eval_good p typesL _ _ _ (evE ty key t 0 L) W7 SW7.out EW7.out HN.out (goodF (v := ⟨#[97]⟩) (f := ⟨#[110, 111, 110, 101]⟩) rfl rfl) (inF _ _) HEB.out)
  rw [evM_f F1.out] at HE
  unfold RPost VV.agg zeroV at HE
  dsimp only [Option.getD, Option.isSome] at HE
  refine HE.out.mono ?_
  rintro e w8 ⟨rfl, hb⟩
  have Sw8 := Lib.hid (SW7.out.below (hb) (hb).size)
  have Ew8 := Lib.hid (EW7.out.below (hb) (hb).size)
  have Bw8 := Lib.hid (BW7.out.trans ((hb).mono BW7.out.size))
  have R8w8 := Lib.hid (Row.below R8W7.out (hb) R8W7.out.lt)
  have R9w8 := Lib.hid (Row.below R9W7.out (hb) R9W7.out.lt)
  have R10w8 := Lib.hid (Row.below R10W7.out (hb) R10W7.out.lt)
  clear hb HE HN
  have n0 : ∀ o : Obj, (w8.alloc o).cell? ⟨w6.heap.size, 0, none⟩ = some (.int .i64 2) := fun o => Lib.cell?_alloc_some _ ((R10w8.out.cell 0).trans rfl)
  have n1 : ∀ o : Obj, (w8.alloc o).cell? ⟨w6.heap.size, 1, none⟩ = some (.int .i64 0) := fun o => Lib.cell?_alloc_some _ ((R10w8.out.cell 1).trans rfl)
  have n2 : ∀ o : Obj, (w8.alloc o).cell? ⟨w6.heap.size, 2, none⟩ = some (.int .i64 0) := fun o => Lib.cell?_alloc_some _ ((R10w8.out.cell 2).trans rfl)
  have n3 : ∀ o : Obj, (w8.alloc o).cell? ⟨w6.heap.size, 3, none⟩ = some (.string ⟨#[]⟩) := fun o => Lib.cell?_alloc_some _ ((R10w8.out.cell 3).trans rfl)
  have n4 : ∀ o : Obj, (w8.alloc o).cell? ⟨w6.heap.size, 4, none⟩ = some (.bool false) := fun o => Lib.cell?_alloc_some _ ((R10w8.out.cell 4).trans rfl)
  have n5 : ∀ o : Obj, (w8.alloc o).cell? ⟨w6.heap.size, 5, none⟩ = some (.string ⟨#[119]⟩) := fun o => Lib.cell?_alloc_some _ ((R10w8.out.cell 5).trans rfl)
  have n6 : ∀ o : Obj, (w8.alloc o).cell? ⟨w6.heap.size, 6, none⟩ = some (.string ⟨#[120]⟩) := fun o => Lib.cell?_alloc_some _ ((R10w8.out.cell 6).trans rfl)
  have q0 : ∀ o : Obj, (w8.alloc o).cell? ⟨(w3.heap.size + 1), 0, none⟩ = some (.int .i64 7) := fun o => Lib.cell?_alloc_some _ ((R8w8.out.cell 0).trans rfl)
  have q1 : ∀ o : Obj, (w8.alloc o).cell? ⟨(w3.heap.size + 1), 1, none⟩ = some (.int .i64 0) := fun o => Lib.cell?_alloc_some _ ((R8w8.out.cell 1).trans rfl)
  have q2 : ∀ o : Obj, (w8.alloc o).cell? ⟨(w3.heap.size + 1), 2, none⟩ = some (.int .i64 0) := fun o => Lib.cell?_alloc_some _ ((R8w8.out.cell 2).trans rfl)
  have q3 : ∀ o : Obj, (w8.alloc o).cell? ⟨(w3.heap.size + 1), 3, none⟩ = some (.string ⟨#[]⟩) := fun o => Lib.cell?_alloc_some _ ((R8w8.out.cell 3).trans rfl)
  have q4 : ∀ o : Obj, (w8.alloc o).cell? ⟨(w3.heap.size + 1), 4, none⟩ = some (.bool false) := fun o => Lib.cell?_alloc_some _ ((R8w8.out.cell 4).trans rfl)
  have q5 : ∀ o : Obj, (w8.alloc o).cell? ⟨(w3.heap.size + 1), 5, none⟩ = some (.string ⟨#[]⟩) := fun o => Lib.cell?_alloc_some _ ((R8w8.out.cell 5).trans rfl)
  have q6 : ∀ o : Obj, (w8.alloc o).cell? ⟨(w3.heap.size + 1), 6, none⟩ = some (.string ⟨#[]⟩) := fun o => Lib.cell?_alloc_some _ ((R8w8.out.cell 6).trans rfl)
  go_wp2_with fail
  generalize hW9 : (w8.alloc _).alloc _ = W9
  have hc : Below w8.heap.size w8 W9 := by rw [← hW9]; exact ((Below.refl _ _).alloc (Nat.le_refl _) _).alloc (by simp) _
  have hrow : Row W9 (w8.heap.size + 1) 32 #[.int .i64 2, .int .i64 0, .int .i64 0, .string ⟨#[]⟩, .bool false, .string ⟨#[119]⟩, .string ⟨#[120]⟩, .int .i64 2, .int .i64 0, .int .i64 0, .string ⟨#[]⟩, .bool false, .string ⟨#[119]⟩, .string ⟨#[120]⟩, .int .i64 7, .int .i64 0, .int .i64 0, .string ⟨#[]⟩, .bool false, .string ⟨#[]⟩, .string ⟨#[]⟩] := by rw [← hW9]; simpa using Row.made (w8.alloc _) 32 #[.int .i64 2, .int .i64 0, .int .i64 0, .string ⟨#[]⟩, .bool false, .string ⟨#[119]⟩, .string ⟨#[120]⟩, .int .i64 2, .int .i64 0, .int .i64 0, .string ⟨#[]⟩, .bool false, .string ⟨#[119]⟩, .string ⟨#[120]⟩, .int .i64 7, .int .i64 0, .int .i64 0, .string ⟨#[]⟩, .bool false, .string ⟨#[]⟩, .string ⟨#[]⟩]
  have HN := Lib.hid (ns_row hrow (l := [⟨2, 0, 0, ⟨#[]⟩, false, ⟨#[119]⟩, ⟨#[120]⟩⟩, ⟨2, 0, 0, ⟨#[]⟩, false, ⟨#[119]⟩, ⟨#[120]⟩⟩, opn 7]) (n := 3) rfl rfl (by decide))
  have SW9 := Lib.hid (Sw8.out.below (hc) (hc).size)
  have EW9 := Lib.hid (Ew8.out.below (hc) (hc).size)
  have BW9 := Lib.hid (Bw8.out.trans ((hc).mono Bw8.out.size))
  have R8W9 := Lib.hid (Row.below R8w8.out (hc) R8w8.out.lt)
  have R9W9 := Lib.hid (Row.below R9w8.out (hc) R9w8.out.lt)
  have R10W9 := Lib.hid (Row.below R10w8.out (hc) R10w8.out.lt)
  clear hc hrow hW9
  clear n0 n1 n2 n3 n4 n5 n6
  clear q0 q1 q2 q3 q4 q5 q6
  have HE := Lib.hid (eval_good p typesL _ _ _ (evE ty key t 0 L) W9 SW9.out EW9.out HN.out (goodF (v := ⟨#[119]⟩) (f := ⟨#[120]⟩) rfl rfl) (inF _ _) HEB.out)
  rw [evM_f (fld_w ty key t 0 L)] at HE
  unfold RPost VV.agg zeroV at HE
  dsimp only [Option.getD, Option.isSome] at HE
  refine HE.out.mono ?_
  rintro e w10 ⟨rfl, hb⟩
  have Sw10 := Lib.hid (SW9.out.below (hb) (hb).size)
  have Ew10 := Lib.hid (EW9.out.below (hb) (hb).size)
  have Bw10 := Lib.hid (BW9.out.trans ((hb).mono BW9.out.size))
  have R8w10 := Lib.hid (Row.below R8W9.out (hb) R8W9.out.lt)
  have R9w10 := Lib.hid (Row.below R9W9.out (hb) R9W9.out.lt)
  have R10w10 := Lib.hid (Row.below R10W9.out (hb) R10W9.out.lt)
  clear hb HE HN
  go_wp2_with fail
  generalize hW10 : w10.alloc _ = W10
  have hc : Below w10.heap.size w10 W10 := by rw [← hW10]; exact (Below.refl _ _).alloc (Nat.le_refl _) _
  have SW10 := Lib.hid (Sw10.out.below (hc) (hc).size)
  have EW10 := Lib.hid (Ew10.out.below (hc) (hc).size)
  have BW10 := Lib.hid (Bw10.out.trans ((hc).mono Bw10.out.size))
  have R8W10 := Lib.hid (Row.below R8w10.out (hc) R8w10.out.lt)
  clear hc hW10
  refine (fld_any ⟨#[97]⟩ ⟨#[120]⟩ _).mono ?_
  rintro e w11 ⟨rfl, hb⟩
  obtain ⟨W11, hW11⟩ : ∃ W, w11.alloc (.cells #[.int .i64 2, .int .i64 0, .int .i64 0, .string ⟨#[]⟩, .bool false, .string ⟨#[97]⟩, .string ⟨#[120]⟩] 32) = W := ⟨_, rfl⟩
  have hc : Below W10.heap.size W10 W11 := by rw [← hW11]; exact hb.alloc hb.size _
  have R15W11 : Hid (Row W11 w11.heap.size 32 #[.int .i64 2, .int .i64 0, .int .i64 0, .string ⟨#[]⟩, .bool false, .string ⟨#[97]⟩, .string ⟨#[120]⟩]) := Lib.hid (by rw [← hW11]; exact Row.made _ _ _)
  have SW11 := Lib.hid (SW10.out.below (hc) (hc).size)
  have EW11 := Lib.hid (EW10.out.below (hc) (hc).size)
  have BW11 := Lib.hid (BW10.out.trans ((hc).mono BW10.out.size))
  have R8W11 := Lib.hid (Row.below R8W10.out (hc) R8W10.out.lt)
  clear hb hc
  have HL11 := Lib.hid (HL0.out.below BW11.out BW11.out.size)
  obtain ⟨n, hn⟩ : ∃ n, l.length = n := ⟨_, rfl⟩
  rw [hn] at HL11 hl1 ⊢
  have HN0 := Lib.hid hn
  have HLT0 : Hid (∀ m, ∀ z ∈ l.take m, In64 z.i) := Lib.hid (fun m z hz => HLI.out z (List.mem_of_mem_take hz))
  clear hn
  by_cases h0 : n = 0
  · subst h0
    have HN : Hid (Ns W11 W11.heap.size (.slice lA 0 lc) (l.take 0)) := Lib.hid (ns_take HL11.out (by omega))
    have HLT := Lib.hid (HLT0.out 0)
    cases lA with
    | none =>
      go_wp2_with fail
      refine (eval_q p typesL _ (l.take 0) _ (evE ty key t 0 L) W11 SW11.out EW11.out HN.out HLT.out HEB.out).mono ?_
      rintro e w12 ⟨r, ⟨rfl, hb⟩, hpos⟩
      obtain ⟨⟨rk, ri, rs, rb⟩, hq⟩ : ∃ x, r.getD zeroV = x := ⟨_, rfl⟩
      obtain ⟨ro, hro⟩ : ∃ x, r.isSome = x := ⟨_, rfl⟩
      rw [hro] at hpos
      rw [hq, hro]
      have HPOS := Lib.hid hpos
      unfold VV.agg
      dsimp only
      have Sw12 := Lib.hid (SW11.out.below (hb) (hb).size)
      have Ew12 := Lib.hid (EW11.out.below (hb) (hb).size)
      have Bw12 := Lib.hid (BW11.out.trans ((hb).mono BW11.out.size))
      have R8w12 := Lib.hid (Row.below R8W11.out (hb) R8W11.out.lt)
      have R15w12 := Lib.hid (Row.below R15W11.out (hb) R15W11.out.lt)
      clear hb hpos hq hro
      go_wp2_with fail
      generalize hW12 : w12.alloc _ = W12
      have hc : Below w12.heap.size w12 W12 := by rw [← hW12]; exact (Below.refl _ _).alloc (Nat.le_refl _) _
      have SW12 := Lib.hid (Sw12.out.below (hc) (hc).size)
      have EW12 := Lib.hid (Ew12.out.below (hc) (hc).size)
      have BW12 := Lib.hid (Bw12.out.trans ((hc).mono Bw12.out.size))
      have R8W12 := Lib.hid (Row.below R8w12.out (hc) R8w12.out.lt)
      have R15W12 := Lib.hid (Row.below R15w12.out (hc) R15w12.out.lt)
      clear hc hW12
      refine (awake_any W12).mono ?_
      rintro e w13 ⟨rfl, hb⟩
      have Sw13 := Lib.hid (SW12.out.below (hb) (hb).size)
      have Ew13 := Lib.hid (EW12.out.below (hb) (hb).size)
      have Bw13 := Lib.hid (BW12.out.trans ((hb).mono BW12.out.size))
      have R8w13 := Lib.hid (Row.below R8W12.out (hb) R8W12.out.lt)
      have R15w13 := Lib.hid (Row.below R15W12.out (hb) R15W12.out.lt)
      clear hb
      have n0 : w13.cell? ⟨w11.heap.size, 0, none⟩ = some (.int .i64 2) := (R15w13.out.cell 0).trans rfl
      have n1 : w13.cell? ⟨w11.heap.size, 1, none⟩ = some (.int .i64 0) := (R15w13.out.cell 1).trans rfl
      have n2 : w13.cell? ⟨w11.heap.size, 2, none⟩ = some (.int .i64 0) := (R15w13.out.cell 2).trans rfl
      have n3 : w13.cell? ⟨w11.heap.size, 3, none⟩ = some (.string ⟨#[]⟩) := (R15w13.out.cell 3).trans rfl
      have n4 : w13.cell? ⟨w11.heap.size, 4, none⟩ = some (.bool false) := (R15w13.out.cell 4).trans rfl
      have n5 : w13.cell? ⟨w11.heap.size, 5, none⟩ = some (.string ⟨#[97]⟩) := (R15w13.out.cell 5).trans rfl
      have n6 : w13.cell? ⟨w11.heap.size, 6, none⟩ = some (.string ⟨#[120]⟩) := (R15w13.out.cell 6).trans rfl
      have q0 : w13.cell? ⟨(w3.heap.size + 1), 0, none⟩ = some (.int .i64 7) := (R8w13.out.cell 0).trans rfl
      have q1 : w13.cell? ⟨(w3.heap.size + 1), 1, none⟩ = some (.int .i64 0) := (R8w13.out.cell 1).trans rfl
      have q2 : w13.cell? ⟨(w3.heap.size + 1), 2, none⟩ = some (.int .i64 0) := (R8w13.out.cell 2).trans rfl
      have q3 : w13.cell? ⟨(w3.heap.size + 1), 3, none⟩ = some (.string ⟨#[]⟩) := (R8w13.out.cell 3).trans rfl
      have q4 : w13.cell? ⟨(w3.heap.size + 1), 4, none⟩ = some (.bool false) := (R8w13.out.cell 4).trans rfl
      have q5 : w13.cell? ⟨(w3.heap.size + 1), 5, none⟩ = some (.string ⟨#[]⟩) := (R8w13.out.cell 5).trans rfl
      have q6 : w13.cell? ⟨(w3.heap.size + 1), 6, none⟩ = some (.string ⟨#[]⟩) := (R8w13.out.cell 6).trans rfl
      go_wp2_with fail
      generalize hW14 : w13.alloc _ = W14
      have hc : Below w13.heap.size w13 W14 := by rw [← hW14]; exact (Below.refl _ _).alloc (Nat.le_refl _) _
      have hrow : Row W14 w13.heap.size 32 #[.int .i64 2, .int .i64 0, .int .i64 0, .string ⟨#[]⟩, .bool false, .string ⟨#[97]⟩, .string ⟨#[120]⟩, .int .i64 2, .int .i64 0, .int .i64 0, .string ⟨#[]⟩, .bool false, .string ⟨#[97]⟩, .string ⟨#[120]⟩, .int .i64 7, .int .i64 0, .int .i64 0, .string ⟨#[]⟩, .bool false, .string ⟨#[]⟩, .string ⟨#[]⟩] := by rw [← hW14]; exact Row.made _ _ _
      have HN := Lib.hid (ns_row hrow (l := [⟨2, 0, 0, ⟨#[]⟩, false, ⟨#[97]⟩, ⟨#[120]⟩⟩, ⟨2, 0, 0, ⟨#[]⟩, false, ⟨#[97]⟩, ⟨#[120]⟩⟩, opn 7]) (n := 3) rfl rfl (by decide))
      have SW14 := Lib.hid (Sw13.out.below (hc) (hc).size)
      have EW14 := Lib.hid (Ew13.out.below (hc) (hc).size)
      have BW14 := Lib.hid (Bw13.out.trans ((hc).mono Bw13.out.size))
      clear hc hrow hW14
      clear n0 n1 n2 n3 n4 n5 n6
      clear q0 q1 q2 q3 q4 q5 q6
      obtain ⟨y, hy, hyk⟩ := F3.out
      refine (holds_good p typesL _ _ _ (evE ty key t 0 L) W14 SW14.out EW14.out HN.out (goodF (v := ⟨#[97]⟩) (f := ⟨#[120]⟩) rfl rfl) (inF _ _) HEB.out _ (evM_x hy hyk)).mono ?_
      rintro e w15 ⟨rfl, hb⟩
      have Bw15 := Lib.hid (BW14.out.trans ((hb).mono BW14.out.size))
      rw [show holdM (some (trV true)) = true from rfl]
      clear hb hy hyk
      cases ro with
      | false =>
        go_wp2
        go_ret
        exact ⟨rfl, Bw15.out⟩
      | true =>
        exact absurd (HPOS.out rfl) (by simp)
    | some a =>
      go_wp2_with fail
      refine (eval_q p typesL _ (l.take 0) _ (evE ty key t 0 L) W11 SW11.out EW11.out HN.out HLT.out HEB.out).mono ?_
      rintro e w12 ⟨r, ⟨rfl, hb⟩, hpos⟩
      obtain ⟨⟨rk, ri, rs, rb⟩, hq⟩ : ∃ x, r.getD zeroV = x := ⟨_, rfl⟩
      obtain ⟨ro, hro⟩ : ∃ x, r.isSome = x := ⟨_, rfl⟩
      rw [hro] at hpos
      rw [hq, hro]
      have HPOS := Lib.hid hpos
      unfold VV.agg
      dsimp only
      have Sw12 := Lib.hid (SW11.out.below (hb) (hb).size)
      have Ew12 := Lib.hid (EW11.out.below (hb) (hb).size)
      have Bw12 := Lib.hid (BW11.out.trans ((hb).mono BW11.out.size))
      have R8w12 := Lib.hid (Row.below R8W11.out (hb) R8W11.out.lt)
      have R15w12 := Lib.hid (Row.below R15W11.out (hb) R15W11.out.lt)
      clear hb hpos hq hro
      go_wp2_with fail
      generalize hW12 : w12.alloc _ = W12
      have hc : Below w12.heap.size w12 W12 := by rw [← hW12]; exact (Below.refl _ _).alloc (Nat.le_refl _) _
      have SW12 := Lib.hid (Sw12.out.below (hc) (hc).size)
      have EW12 := Lib.hid (Ew12.out.below (hc) (hc).size)
      have BW12 := Lib.hid (Bw12.out.trans ((hc).mono Bw12.out.size))
      have R8W12 := Lib.hid (Row.below R8w12.out (hc) R8w12.out.lt)
      have R15W12 := Lib.hid (Row.below R15w12.out (hc) R15w12.out.lt)
      clear hc hW12
      refine (awake_any W12).mono ?_
      rintro e w13 ⟨rfl, hb⟩
      have Sw13 := Lib.hid (SW12.out.below (hb) (hb).size)
      have Ew13 := Lib.hid (EW12.out.below (hb) (hb).size)
      have Bw13 := Lib.hid (BW12.out.trans ((hb).mono BW12.out.size))
      have R8w13 := Lib.hid (Row.below R8W12.out (hb) R8W12.out.lt)
      have R15w13 := Lib.hid (Row.below R15W12.out (hb) R15W12.out.lt)
      clear hb
      have n0 : w13.cell? ⟨w11.heap.size, 0, none⟩ = some (.int .i64 2) := (R15w13.out.cell 0).trans rfl
      have n1 : w13.cell? ⟨w11.heap.size, 1, none⟩ = some (.int .i64 0) := (R15w13.out.cell 1).trans rfl
      have n2 : w13.cell? ⟨w11.heap.size, 2, none⟩ = some (.int .i64 0) := (R15w13.out.cell 2).trans rfl
      have n3 : w13.cell? ⟨w11.heap.size, 3, none⟩ = some (.string ⟨#[]⟩) := (R15w13.out.cell 3).trans rfl
      have n4 : w13.cell? ⟨w11.heap.size, 4, none⟩ = some (.bool false) := (R15w13.out.cell 4).trans rfl
      have n5 : w13.cell? ⟨w11.heap.size, 5, none⟩ = some (.string ⟨#[97]⟩) := (R15w13.out.cell 5).trans rfl
      have n6 : w13.cell? ⟨w11.heap.size, 6, none⟩ = some (.string ⟨#[120]⟩) := (R15w13.out.cell 6).trans rfl
      have q0 : w13.cell? ⟨(w3.heap.size + 1), 0, none⟩ = some (.int .i64 7) := (R8w13.out.cell 0).trans rfl
      have q1 : w13.cell? ⟨(w3.heap.size + 1), 1, none⟩ = some (.int .i64 0) := (R8w13.out.cell 1).trans rfl
      have q2 : w13.cell? ⟨(w3.heap.size + 1), 2, none⟩ = some (.int .i64 0) := (R8w13.out.cell 2).trans rfl
      have q3 : w13.cell? ⟨(w3.heap.size + 1), 3, none⟩ = some (.string ⟨#[]⟩) := (R8w13.out.cell 3).trans rfl
      have q4 : w13.cell? ⟨(w3.heap.size + 1), 4, none⟩ = some (.bool false) := (R8w13.out.cell 4).trans rfl
      have q5 : w13.cell? ⟨(w3.heap.size + 1), 5, none⟩ = some (.string ⟨#[]⟩) := (R8w13.out.cell 5).trans rfl
      have q6 : w13.cell? ⟨(w3.heap.size + 1), 6, none⟩ = some (.string ⟨#[]⟩) := (R8w13.out.cell 6).trans rfl
      go_wp2_with fail
      generalize hW14 : w13.alloc _ = W14
      have hc : Below w13.heap.size w13 W14 := by rw [← hW14]; exact (Below.refl _ _).alloc (Nat.le_refl _) _
      have hrow : Row W14 w13.heap.size 32 #[.int .i64 2, .int .i64 0, .int .i64 0, .string ⟨#[]⟩, .bool false, .string ⟨#[97]⟩, .string ⟨#[120]⟩, .int .i64 2, .int .i64 0, .int .i64 0, .string ⟨#[]⟩, .bool false, .string ⟨#[97]⟩, .string ⟨#[120]⟩, .int .i64 7, .int .i64 0, .int .i64 0, .string ⟨#[]⟩, .bool false, .string ⟨#[]⟩, .string ⟨#[]⟩] := by rw [← hW14]; exact Row.made _ _ _
      have HN := Lib.hid (ns_row hrow (l := [⟨2, 0, 0, ⟨#[]⟩, false, ⟨#[97]⟩, ⟨#[120]⟩⟩, ⟨2, 0, 0, ⟨#[]⟩, false, ⟨#[97]⟩, ⟨#[120]⟩⟩, opn 7]) (n := 3) rfl rfl (by decide))
      have SW14 := Lib.hid (Sw13.out.below (hc) (hc).size)
      have EW14 := Lib.hid (Ew13.out.below (hc) (hc).size)
      have BW14 := Lib.hid (Bw13.out.trans ((hc).mono Bw13.out.size))
      clear hc hrow hW14
      clear n0 n1 n2 n3 n4 n5 n6
      clear q0 q1 q2 q3 q4 q5 q6
      obtain ⟨y, hy, hyk⟩ := F3.out
      refine (holds_good p typesL _ _ _ (evE ty key t 0 L) W14 SW14.out EW14.out HN.out (goodF (v := ⟨#[97]⟩) (f := ⟨#[120]⟩) rfl rfl) (inF _ _) HEB.out _ (evM_x hy hyk)).mono ?_
      rintro e w15 ⟨rfl, hb⟩
      have Bw15 := Lib.hid (BW14.out.trans ((hb).mono BW14.out.size))
      rw [show holdM (some (trV true)) = true from rfl]
      clear hb hy hyk
      cases ro with
      | false =>
        go_wp2
        go_ret
        exact ⟨rfl, Bw15.out⟩
      | true =>
        exact absurd (HPOS.out rfl) (by simp)
  · obtain ⟨g, og, hlA, hgx⟩ := HL3.out 0 (by rw [HN0.out]; omega)
    subst hlA
    clear hgx
    by_cases h10 : n ≤ 10
    · have HN : Hid (Ns W11 W11.heap.size (.slice (some ⟨g, og, none⟩) n lc) (l.take n)) := Lib.hid (ns_take HL11.out (by rw [HN0.out]; exact Nat.le_refl _))
      have HLT := Lib.hid (HLT0.out n)
      have hz10 : (n : Int) ≤ 10 := by omega
      have hzl : (n : Int) ≤ (lc : Int) := by omega
      have hn0 : (0 : Int) < (n : Int) := by omega
      have hn1 : 0 < n := by omega
      clear h0 h10
      go_wp2_with fail
      refine (eval_q p typesL _ (l.take n) _ (evE ty key t 0 L) W11 SW11.out EW11.out HN.out HLT.out HEB.out).mono ?_
      rintro e w12 ⟨r, ⟨rfl, hb⟩, hpos⟩
      obtain ⟨⟨rk, ri, rs, rb⟩, hq⟩ : ∃ x, r.getD zeroV = x := ⟨_, rfl⟩
      obtain ⟨ro, hro⟩ : ∃ x, r.isSome = x := ⟨_, rfl⟩
      rw [hro] at hpos
      rw [hq, hro]
      have HPOS := Lib.hid hpos
      unfold VV.agg
      dsimp only
      have Sw12 := Lib.hid (SW11.out.below (hb) (hb).size)
      have Ew12 := Lib.hid (EW11.out.below (hb) (hb).size)
      have Bw12 := Lib.hid (BW11.out.trans ((hb).mono BW11.out.size))
      have R8w12 := Lib.hid (Row.below R8W11.out (hb) R8W11.out.lt)
      have R15w12 := Lib.hid (Row.below R15W11.out (hb) R15W11.out.lt)
      clear hb hpos hq hro
      go_wp2_with fail
      generalize hW12 : w12.alloc _ = W12
      have hc : Below w12.heap.size w12 W12 := by rw [← hW12]; exact (Below.refl _ _).alloc (Nat.le_refl _) _
      have SW12 := Lib.hid (Sw12.out.below (hc) (hc).size)
      have EW12 := Lib.hid (Ew12.out.below (hc) (hc).size)
      have BW12 := Lib.hid (Bw12.out.trans ((hc).mono Bw12.out.size))
      have R8W12 := Lib.hid (Row.below R8w12.out (hc) R8w12.out.lt)
      have R15W12 := Lib.hid (Row.below R15w12.out (hc) R15w12.out.lt)
      clear hc hW12
      refine (awake_any W12).mono ?_
      rintro e w13 ⟨rfl, hb⟩
      have Sw13 := Lib.hid (SW12.out.below (hb) (hb).size)
      have Ew13 := Lib.hid (EW12.out.below (hb) (hb).size)
      have Bw13 := Lib.hid (BW12.out.trans ((hb).mono BW12.out.size))
      have R8w13 := Lib.hid (Row.below R8W12.out (hb) R8W12.out.lt)
      have R15w13 := Lib.hid (Row.below R15W12.out (hb) R15W12.out.lt)
      clear hb
      have n0 : w13.cell? ⟨w11.heap.size, 0, none⟩ = some (.int .i64 2) := (R15w13.out.cell 0).trans rfl
      have n1 : w13.cell? ⟨w11.heap.size, 1, none⟩ = some (.int .i64 0) := (R15w13.out.cell 1).trans rfl
      have n2 : w13.cell? ⟨w11.heap.size, 2, none⟩ = some (.int .i64 0) := (R15w13.out.cell 2).trans rfl
      have n3 : w13.cell? ⟨w11.heap.size, 3, none⟩ = some (.string ⟨#[]⟩) := (R15w13.out.cell 3).trans rfl
      have n4 : w13.cell? ⟨w11.heap.size, 4, none⟩ = some (.bool false) := (R15w13.out.cell 4).trans rfl
      have n5 : w13.cell? ⟨w11.heap.size, 5, none⟩ = some (.string ⟨#[97]⟩) := (R15w13.out.cell 5).trans rfl
      have n6 : w13.cell? ⟨w11.heap.size, 6, none⟩ = some (.string ⟨#[120]⟩) := (R15w13.out.cell 6).trans rfl
      have q0 : w13.cell? ⟨(w3.heap.size + 1), 0, none⟩ = some (.int .i64 7) := (R8w13.out.cell 0).trans rfl
      have q1 : w13.cell? ⟨(w3.heap.size + 1), 1, none⟩ = some (.int .i64 0) := (R8w13.out.cell 1).trans rfl
      have q2 : w13.cell? ⟨(w3.heap.size + 1), 2, none⟩ = some (.int .i64 0) := (R8w13.out.cell 2).trans rfl
      have q3 : w13.cell? ⟨(w3.heap.size + 1), 3, none⟩ = some (.string ⟨#[]⟩) := (R8w13.out.cell 3).trans rfl
      have q4 : w13.cell? ⟨(w3.heap.size + 1), 4, none⟩ = some (.bool false) := (R8w13.out.cell 4).trans rfl
      have q5 : w13.cell? ⟨(w3.heap.size + 1), 5, none⟩ = some (.string ⟨#[]⟩) := (R8w13.out.cell 5).trans rfl
      have q6 : w13.cell? ⟨(w3.heap.size + 1), 6, none⟩ = some (.string ⟨#[]⟩) := (R8w13.out.cell 6).trans rfl
      go_wp2_with fail
      generalize hW14 : w13.alloc _ = W14
      have hc : Below w13.heap.size w13 W14 := by rw [← hW14]; exact (Below.refl _ _).alloc (Nat.le_refl _) _
      have hrow : Row W14 w13.heap.size 32 #[.int .i64 2, .int .i64 0, .int .i64 0, .string ⟨#[]⟩, .bool false, .string ⟨#[97]⟩, .string ⟨#[120]⟩, .int .i64 2, .int .i64 0, .int .i64 0, .string ⟨#[]⟩, .bool false, .string ⟨#[97]⟩, .string ⟨#[120]⟩, .int .i64 7, .int .i64 0, .int .i64 0, .string ⟨#[]⟩, .bool false, .string ⟨#[]⟩, .string ⟨#[]⟩] := by rw [← hW14]; exact Row.made _ _ _
      have HN := Lib.hid (ns_row hrow (l := [⟨2, 0, 0, ⟨#[]⟩, false, ⟨#[97]⟩, ⟨#[120]⟩⟩, ⟨2, 0, 0, ⟨#[]⟩, false, ⟨#[97]⟩, ⟨#[120]⟩⟩, opn 7]) (n := 3) rfl rfl (by decide))
      have SW14 := Lib.hid (Sw13.out.below (hc) (hc).size)
      have EW14 := Lib.hid (Ew13.out.below (hc) (hc).size)
      have BW14 := Lib.hid (Bw13.out.trans ((hc).mono Bw13.out.size))
      clear hc hrow hW14
      clear n0 n1 n2 n3 n4 n5 n6
      clear q0 q1 q2 q3 q4 q5 q6
      obtain ⟨y, hy, hyk⟩ := F3.out
      refine (holds_good p typesL _ _ _ (evE ty key t 0 L) W14 SW14.out EW14.out HN.out (goodF (v := ⟨#[97]⟩) (f := ⟨#[120]⟩) rfl rfl) (inF _ _) HEB.out _ (evM_x hy hyk)).mono ?_
      rintro e w15 ⟨rfl, hb⟩
      have Bw15 := Lib.hid (BW14.out.trans ((hb).mono BW14.out.size))
      rw [show holdM (some (trV true)) = true from rfl]
      clear hb hy hyk
      cases ro with
      | false =>
        go_wp2
        go_ret
        exact ⟨rfl, Bw15.out⟩
      | true =>
        go_wp2
        go_ret
        exact ⟨rfl, Bw15.out⟩
    · have HN : Hid (Ns W11 W11.heap.size (.slice (some ⟨g, og, none⟩) 10 lc) (l.take 10)) := Lib.hid (ns_take HL11.out (by rw [HN0.out]; omega))
      have HLT := Lib.hid (HLT0.out 10)
      have hz10 : (10 : Int) < (n : Int) := by omega
      have hzl : (10 : Int) ≤ (lc : Int) := by omega
      have hzl2 : 10 ≤ lc := by omega
      clear h0 h10
      go_wp2_with fail
      refine (eval_q p typesL _ (l.take 10) _ (evE ty key t 0 L) W11 SW11.out EW11.out HN.out HLT.out HEB.out).mono ?_
      rintro e w12 ⟨r, ⟨rfl, hb⟩, hpos⟩
      obtain ⟨⟨rk, ri, rs, rb⟩, hq⟩ : ∃ x, r.getD zeroV = x := ⟨_, rfl⟩
      obtain ⟨ro, hro⟩ : ∃ x, r.isSome = x := ⟨_, rfl⟩
      rw [hro] at hpos
      rw [hq, hro]
      have HPOS := Lib.hid hpos
      unfold VV.agg
      dsimp only
      have Sw12 := Lib.hid (SW11.out.below (hb) (hb).size)
      have Ew12 := Lib.hid (EW11.out.below (hb) (hb).size)
      have Bw12 := Lib.hid (BW11.out.trans ((hb).mono BW11.out.size))
      have R8w12 := Lib.hid (Row.below R8W11.out (hb) R8W11.out.lt)
      have R15w12 := Lib.hid (Row.below R15W11.out (hb) R15W11.out.lt)
      clear hb hpos hq hro
      go_wp2_with fail
      generalize hW12 : w12.alloc _ = W12
      have hc : Below w12.heap.size w12 W12 := by rw [← hW12]; exact (Below.refl _ _).alloc (Nat.le_refl _) _
      have SW12 := Lib.hid (Sw12.out.below (hc) (hc).size)
      have EW12 := Lib.hid (Ew12.out.below (hc) (hc).size)
      have BW12 := Lib.hid (Bw12.out.trans ((hc).mono Bw12.out.size))
      have R8W12 := Lib.hid (Row.below R8w12.out (hc) R8w12.out.lt)
      have R15W12 := Lib.hid (Row.below R15w12.out (hc) R15w12.out.lt)
      clear hc hW12
      refine (awake_any W12).mono ?_
      rintro e w13 ⟨rfl, hb⟩
      have Sw13 := Lib.hid (SW12.out.below (hb) (hb).size)
      have Ew13 := Lib.hid (EW12.out.below (hb) (hb).size)
      have Bw13 := Lib.hid (BW12.out.trans ((hb).mono BW12.out.size))
      have R8w13 := Lib.hid (Row.below R8W12.out (hb) R8W12.out.lt)
      have R15w13 := Lib.hid (Row.below R15W12.out (hb) R15W12.out.lt)
      clear hb
      have n0 : w13.cell? ⟨w11.heap.size, 0, none⟩ = some (.int .i64 2) := (R15w13.out.cell 0).trans rfl
      have n1 : w13.cell? ⟨w11.heap.size, 1, none⟩ = some (.int .i64 0) := (R15w13.out.cell 1).trans rfl
      have n2 : w13.cell? ⟨w11.heap.size, 2, none⟩ = some (.int .i64 0) := (R15w13.out.cell 2).trans rfl
      have n3 : w13.cell? ⟨w11.heap.size, 3, none⟩ = some (.string ⟨#[]⟩) := (R15w13.out.cell 3).trans rfl
      have n4 : w13.cell? ⟨w11.heap.size, 4, none⟩ = some (.bool false) := (R15w13.out.cell 4).trans rfl
      have n5 : w13.cell? ⟨w11.heap.size, 5, none⟩ = some (.string ⟨#[97]⟩) := (R15w13.out.cell 5).trans rfl
      have n6 : w13.cell? ⟨w11.heap.size, 6, none⟩ = some (.string ⟨#[120]⟩) := (R15w13.out.cell 6).trans rfl
      have q0 : w13.cell? ⟨(w3.heap.size + 1), 0, none⟩ = some (.int .i64 7) := (R8w13.out.cell 0).trans rfl
      have q1 : w13.cell? ⟨(w3.heap.size + 1), 1, none⟩ = some (.int .i64 0) := (R8w13.out.cell 1).trans rfl
      have q2 : w13.cell? ⟨(w3.heap.size + 1), 2, none⟩ = some (.int .i64 0) := (R8w13.out.cell 2).trans rfl
      have q3 : w13.cell? ⟨(w3.heap.size + 1), 3, none⟩ = some (.string ⟨#[]⟩) := (R8w13.out.cell 3).trans rfl
      have q4 : w13.cell? ⟨(w3.heap.size + 1), 4, none⟩ = some (.bool false) := (R8w13.out.cell 4).trans rfl
      have q5 : w13.cell? ⟨(w3.heap.size + 1), 5, none⟩ = some (.string ⟨#[]⟩) := (R8w13.out.cell 5).trans rfl
      have q6 : w13.cell? ⟨(w3.heap.size + 1), 6, none⟩ = some (.string ⟨#[]⟩) := (R8w13.out.cell 6).trans rfl
      go_wp2_with fail
      generalize hW14 : w13.alloc _ = W14
      have hc : Below w13.heap.size w13 W14 := by rw [← hW14]; exact (Below.refl _ _).alloc (Nat.le_refl _) _
      have hrow : Row W14 w13.heap.size 32 #[.int .i64 2, .int .i64 0, .int .i64 0, .string ⟨#[]⟩, .bool false, .string ⟨#[97]⟩, .string ⟨#[120]⟩, .int .i64 2, .int .i64 0, .int .i64 0, .string ⟨#[]⟩, .bool false, .string ⟨#[97]⟩, .string ⟨#[120]⟩, .int .i64 7, .int .i64 0, .int .i64 0, .string ⟨#[]⟩, .bool false, .string ⟨#[]⟩, .string ⟨#[]⟩] := by rw [← hW14]; exact Row.made _ _ _
      have HN := Lib.hid (ns_row hrow (l := [⟨2, 0, 0, ⟨#[]⟩, false, ⟨#[97]⟩, ⟨#[120]⟩⟩, ⟨2, 0, 0, ⟨#[]⟩, false, ⟨#[97]⟩, ⟨#[120]⟩⟩, opn 7]) (n := 3) rfl rfl (by decide))
      have SW14 := Lib.hid (Sw13.out.below (hc) (hc).size)
      have EW14 := Lib.hid (Ew13.out.below (hc) (hc).size)
      have BW14 := Lib.hid (Bw13.out.trans ((hc).mono Bw13.out.size))
      clear hc hrow hW14
      clear n0 n1 n2 n3 n4 n5 n6
      clear q0 q1 q2 q3 q4 q5 q6
      obtain ⟨y, hy, hyk⟩ := F3.out
      refine (holds_good p typesL _ _ _ (evE ty key t 0 L) W14 SW14.out EW14.out HN.out (goodF (v := ⟨#[97]⟩) (f := ⟨#[120]⟩) rfl rfl) (inF _ _) HEB.out _ (evM_x hy hyk)).mono ?_
      rintro e w15 ⟨rfl, hb⟩
      have Bw15 := Lib.hid (BW14.out.trans ((hb).mono BW14.out.size))
      rw [show holdM (some (trV true)) = true from rfl]
      clear hb hy hyk
      cases ro with
      | false =>
        go_wp2
        go_ret
        exact ⟨rfl, Bw15.out⟩
      | true =>
        go_wp2
        go_ret
        exact ⟨rfl, Bw15.out⟩
end Go.Proofs.Ytgilfolllckceaa.Evl
