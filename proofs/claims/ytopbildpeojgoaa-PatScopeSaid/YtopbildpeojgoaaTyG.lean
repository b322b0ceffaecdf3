/- What variables stand for; where the one of a name stands; fields of a schema, whatever is asked. -/
import Derived.Test.YtopbildpeojgoaaTyF
import Derived.Test.YtopbildpeojgoaaSfD
namespace Go.Proofs.Ytopbildpeojgoaa.Ty
open Go.RowKit Go.Proofs.Ytopbildpeojgoaa Go.Proofs.Ytopbildpeojgoaa.Sch
set_option linter.unusedVariables false
set_option maxRecDepth 100000
/-- Texts as they lie in memory. -/
def SL (w : World) (B : Nat) (v : Value) (L : List ByteArray) : Prop :=
  ∃ A c, v = .slice A L.length c ∧ L.length ≤ c ∧ c ≤ 9223372036854775807 ∧ ∀ k (h : k < L.length), ∃ g o, A = some ⟨g, o, none⟩ ∧ g < B ∧ w.cell? ⟨g, o + k, none⟩ = some (.string L[k])
theorem SL.below {w w' : World} {B B' : Nat} {v : Value} {L : List ByteArray} (h : SL w B v L) (hb : Below B w w') (hB : B ≤ B') : SL w' B' v L := by
  obtain ⟨A, c, rfl, h1, h2, h3⟩ := h
  refine ⟨A, c, rfl, h1, h2, fun k hk => ?_⟩
  obtain ⟨g, o, e, hg, hc⟩ := h3 k hk
  exact ⟨g, o, e, by omega, (hb.cell (p := ⟨g, o + k, none⟩) hg).trans hc⟩
abbrev Bd := ByteArray × List ByteArray
/-- What variables stand for, as it lies in memory. -/
def Bs (w : World) (B : Nat) (v : Value) (bs : List Bd) : Prop :=
  ∃ A c, v = .slice A bs.length c ∧ bs.length ≤ c ∧ c ≤ 9223372036854775807 ∧
    ∀ k (h : k < bs.length), ∃ g o tv, A = some ⟨g, o, none⟩ ∧ g < B ∧ w.cell? ⟨g, o + k * 2, none⟩ = some (.string bs[k].1) ∧ w.cell? ⟨g, o + k * 2 + 1, none⟩ = some tv ∧ SL w B tv bs[k].2
theorem Bs.below {w w' : World} {B B' : Nat} {v : Value} {bs : List Bd} (h : Bs w B v bs) (hb : Below B w w') (hB : B ≤ B') : Bs w' B' v bs := by
  obtain ⟨A, c, rfl, h1, h2, h3⟩ := h
  refine ⟨A, c, rfl, h1, h2, fun k hk => ?_⟩
  obtain ⟨g, o, tv, e, hg, c0, c1, hs⟩ := h3 k hk
  exact ⟨g, o, tv, e, by omega, (hb.cell (p := ⟨g, o + k * 2, none⟩) hg).trans c0, (hb.cell (p := ⟨g, o + k * 2 + 1, none⟩) hg).trans c1, hs.below hb hB⟩
theorem bindEq_any (n nm : ByteArray) (v : Value) (B : Nat) (w : World) (hc : w.cell? ⟨B, 5, none⟩ = some (.string nm)) (r : Bool) (hr : (n.toList == nm.toList) = r) :
    Calls Try.prog 248 #[.agg #[.string n, v], .pointer (some ⟨B, 0, none⟩)] w fun e w' => e = .returned (.bool r) ∧ Below w.heap.size w w' := by
  have hB : B < w.heap.size := World.block_lt_of_cell? w ⟨B, 5, none⟩ hc
  have hne : B ≠ w.heap.size := by omega
  go_enter Try.func248, Try.ntmps248
  go_wp2
  all_goals
    go_ret
    exact ⟨rfl, (Below.refl _ w).alloc (Nat.le_refl _) _⟩
set_option maxHeartbeats 1600000 in
theorem indexBind_any (v : Value) (fs : List Bd) (nm : ByteArray) (B : Nat) (w : World) (hf : Bs w w.heap.size v fs) (hc : w.cell? ⟨B, 5, none⟩ = some (.string nm)) :
    Calls Try.prog 247 #[v, .func (.func 248) #[] #[.pointer (some ⟨B, 0, none⟩)]] w fun e w' => e = .returned (.int .i64 (idx (fs.map Prod.fst) nm)) ∧ Below w.heap.size w w' := by
  have hB : B < w.heap.size := World.block_lt_of_cell? w ⟨B, 5, none⟩ hc
  have HF := Lib.hid hf
  obtain ⟨A, c, rfl, hn, hcm, _⟩ := hf
  have hlen : (fs.map Prod.fst).length = fs.length := by simp
  have HLN := Lib.hid hlen
  have HC := Lib.hid hc
  clear hc hlen
  go_enter Try.func247, Try.ntmps247
  go_wp2
  go_loopw [8] (fun s wr => ∃ k : Nat, k ≤ fs.length ∧ s = .int .i64 k ∧ Hid (Below w.heap.size w wr) ∧ Hid (NoF (fs.map Prod.fst) nm k)) (fun s _ => fs.length - (intOf s).toNat)
  case atStart => exact ⟨0, by omega, rfl, Below.refl _ _, fun _ _ h => absurd h (by omega)⟩
  case round =>
    obtain ⟨k, hk, rfl, hb, hno⟩ := hrel
    by_cases hlt : k < fs.length
    · obtain ⟨A', c', e1, _, _, h3⟩ := HF.out.below hb.out (Nat.le_refl _)
      injection e1 with e1 _ e3
      subst e1 e3
      obtain ⟨g, o, y, rfl, hg, c0, c1, hsl⟩ := h3 k hlt
      obtain ⟨yA, yc, rfl, _, _, _⟩ := hsl
      have hcB : wr.cell? ⟨B, 5, none⟩ = some (.string nm) := (hb.out.cell (p := ⟨B, 5, none⟩) hB).trans HC.out
      have HCB := Lib.hid hcB
      clear hcB h3
      obtain ⟨r, hr⟩ : ∃ r, (fs[k].1.toList == nm.toList) = r := ⟨_, rfl⟩
      have HR := Lib.hid hr
      have hkl : k < (fs.map Prod.fst).length := by rw [HLN.out]; exact hlt
      have hget : (fs.map Prod.fst)[k]'hkl = fs[k].1 := by simp
      have HG := Lib.hid hget
      clear hr hget
      obtain ⟨x, hx⟩ : ∃ x, x = fs[k].1 := ⟨_, rfl⟩
      obtain ⟨yl, hyl⟩ : ∃ yl, yl = fs[k].2.length := ⟨_, rfl⟩
      rw [← hx] at c0 HR HG
      rw [← hyl] at c1
      clear hx hyl
      cases r with
      | true =>
        go_wp2_with (go_at_call 248; refine (bindEq_any _ nm _ B _ HCB.out true HR.out).mono ?_; rintro e w' ⟨rfl, hb'⟩)
        go_ret
        exact ⟨by rw [idx_hit hkl (by rw [HG.out]; simpa using HR.out) hno.out]; rfl, hb.out.trans (hb'.mono hb.out.size)⟩
      | false =>
        go_wp2_with (go_at_call 248; refine (bindEq_any _ nm _ B _ HCB.out false HR.out).mono ?_; rintro e w' ⟨rfl, hb'⟩)
        go_roundw
        case rel => exact ⟨k + 1, by omega, by go_num, hb.out.trans (hb'.mono hb.out.size), hno.out.succ hkl (by rw [HG.out]; exact HR.out)⟩
        case measure => simp [intOf]; omega
    · have hk' : k = fs.length := by omega
      subst hk'
      clear hlt
      go_wp2
      go_ret
      exact ⟨by rw [idx_miss (fun j hj => hno.out j hj (by rw [HLN.out] at hj; exact hj))]; rfl, hb.out⟩
/-- The place and the kind of a type's field. -/
def fieldS (ts : List Ty) (n f : ByteArray) : Int × Int :=
  match ts[(idx (ts.map Prod.fst) n).toNat]? with
  | none => (-1, 0)
  | some t => if idx (ts.map Prod.fst) n < 0 then (-1, 0) else match t.2[(idx (t.2.map Prod.fst) f).toNat]? with
    | none => (-1, 0)
    | some x => if idx (t.2.map Prod.fst) f < 0 then (-1, 0) else (idx (t.2.map Prod.fst) f, x.2)
theorem fieldS_any (p : Option Addr) (ts : List Ty) (n f : ByteArray) (w : World) (hs : Sc w w.heap.size p ts) :
    Calls Try.prog 216 #[.pointer p, .string n, .string f] w fun e w' => e = .returned (.tuple #[.int .i64 (fieldS ts n f).1, .int .i64 (fieldS ts n f).2]) ∧ Below w.heap.size w w' := by
  obtain ⟨hi1, hi2⟩ := idx_lt (l := ts.map Prod.fst) (nm := n)
  rw [List.length_map] at hi1
  by_cases h0 : idx (ts.map Prod.fst) n < 0
  · have e : fieldS ts n f = (-1, 0) := by
      unfold fieldS
      split
      · rfl
      · rw [if_pos h0]
    rw [e]
    exact field_no1 p ts n f w hs h0
  · obtain ⟨i, hi⟩ : ∃ i : Nat, idx (ts.map Prod.fst) n = i := ⟨(idx (ts.map Prod.fst) n).toNat, by omega⟩
    have hil : i < ts.length := by omega
    have hti : ts[i]? = some (ts[i].1, ts[i].2) := List.getElem?_eq_getElem hil
    obtain ⟨hj1, hj2⟩ := idx_lt (l := (ts[i].2).map Prod.fst) (nm := f)
    rw [List.length_map] at hj1
    by_cases h1 : idx ((ts[i].2).map Prod.fst) f < 0
    · have e : fieldS ts n f = (-1, 0) := by
        unfold fieldS
        rw [hi, Int.toNat_natCast, hti]
        dsimp only
        rw [if_neg (by omega)]
        split
        · rfl
        · rw [if_pos h1]
      rw [e]
      exact field_no2 p ts n f i _ w hs hi hti h1
    · obtain ⟨j, hj⟩ : ∃ j : Nat, idx ((ts[i].2).map Prod.fst) f = j := ⟨(idx ((ts[i].2).map Prod.fst) f).toNat, by omega⟩
      have hjl : j < (ts[i].2).length := by omega
      have htj : (ts[i].2)[j]? = some ((ts[i].2)[j].1, (ts[i].2)[j].2) := List.getElem?_eq_getElem hjl
      have e : fieldS ts n f = ((j : Int), (ts[i].2)[j].2) := by
        unfold fieldS
        rw [hi, Int.toNat_natCast, hti]
        dsimp only
        rw [if_neg (by omega), hj, Int.toNat_natCast, htj]
        dsimp only
        rw [if_neg (by omega)]
      rw [e]
      exact field_yes p ts n f w.heap.size i j _ w hs (Nat.le_refl _) hi hti hj htj
end Go.Proofs.Ytopbildpeojgoaa.Ty
