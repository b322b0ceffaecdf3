/- Types of an element: schema.Find, slices.Contains, check.types, check.often. -/
import Derived.Test.YtopbildpeojgoaaCkA
import Derived.Test.YtopbildpeojgoaaSfD
namespace Go.Proofs.Ytopbildpeojgoaa.Ck
open Go.RowKit Go.Proofs.Ytopbildpeojgoaa Go.Proofs.Ytopbildpeojgoaa.Sch Go.Proofs.Ytopbildpeojgoaa.Ty
set_option linter.unusedVariables false
set_option maxRecDepth 100000
set_option maxHeartbeats 1000000 in
theorem index_any (v : Value) (L : List ByteArray) (nm : ByteArray) (w : World) (hf : SL w w.heap.size v L) :
    Calls Try.prog 226 #[v, .string nm] w fun e w' => e = .returned (.int .i64 (idx L nm)) ∧ w = w' := by
  have HF := Lib.hid hf
  obtain ⟨A, c, rfl, hn, hcm, h3⟩ := hf
  have H3 := Lib.hid h3
  clear h3
  go_enter Try.func226, Try.ntmps226
  go_wp2
  go_loopw [8] (fun s wr => ∃ k : Nat, k ≤ L.length ∧ s = .int .i64 k ∧ w = wr ∧ Hid (NoF L nm k)) (fun s _ => L.length - (intOf s).toNat)
  case atStart => exact ⟨0, by omega, rfl, rfl, fun _ _ h => absurd h (by omega)⟩
  case round =>
    obtain ⟨k, hk, rfl, rfl, hno⟩ := hrel
    by_cases hlt : k < L.length
    · obtain ⟨g, o, rfl, hg, c0⟩ := H3.out k hlt
      obtain ⟨x, hx⟩ : ∃ x, L[k] = x := ⟨_, rfl⟩
      have HXE := Lib.hid hx
      rw [hx] at c0
      obtain ⟨r, hr⟩ : ∃ r, (x.toList == nm.toList) = r := ⟨_, rfl⟩
      have HR := Lib.hid hr
      obtain ⟨r2, hr2⟩ : ∃ r, (nm.toList == x.toList) = r := ⟨_, rfl⟩
      have hrr : r2 = r := by rw [← hr, ← hr2]; exact Bool.beq_comm
      subst hrr
      clear hx hr
      cases r2 with
      | true =>
        go_wp2
        go_ret
        exact ⟨by rw [idx_hit hlt (by rw [HXE.out]; simpa using HR.out) hno.out]; rfl, by first | rfl | trivial⟩
      | false =>
        go_wp2
        go_roundw
        case rel => exact ⟨k + 1, by omega, by go_num, by trivial, hno.out.succ hlt (by rw [HXE.out]; exact HR.out)⟩
        case measure => simp [intOf]; omega
    · have hk' : k = L.length := by omega
      subst hk'
      clear hlt
      go_wp2
      go_ret
      exact ⟨by rw [idx_miss (fun j hj => hno.out j hj (by omega))]; rfl, by first | rfl | trivial⟩
theorem contains_any (v : Value) (L : List ByteArray) (nm : ByteArray) (w : World) (hf : SL w w.heap.size v L) (b : Bool) (hb : decide (0 ≤ idx L nm) = b) :
    Calls Try.prog 203 #[v, .string nm] w fun e w' => e = .returned (.bool b) ∧ w = w' := by
  obtain ⟨r, hr⟩ : ∃ r, idx L nm = r := ⟨_, rfl⟩
  have hI := index_any v L nm w hf
  rw [hr] at hI hb
  have HI := Lib.hid hI
  obtain ⟨A, c, rfl, hn, hcm, h3⟩ := hf
  clear hI hr h3
  go_enter Try.func203, Try.ntmps203
  go_wp2_with fail
  refine HI.out.mono ?_
  rintro e w1 ⟨rfl, rfl⟩
  go_wp2
  go_ret
  exact ⟨by rw [← hb]; rfl, by first | rfl | trivial⟩
theorem two2 {Y : World} {b : Nat} {t : TypeId} {a0 a1 u0 u1 : Value} (r : Row Y b t ((#[a0, a1].setIfInBounds 0 u0).setIfInBounds 1 u1)) : Y.cell? ⟨b, 0, none⟩ = some u0 ∧ Y.cell? ⟨b, 1, none⟩ = some u1 := ⟨(r.cell 0).trans rfl, (r.cell 1).trans rfl⟩
theorem below2 {w X : World} (h : Below w.heap.size w X) (b : Nat) (hb : w.heap.size ≤ b) (u0 u1 : Value) : Below w.heap.size w ((X.setCell ⟨b, 0, none⟩ u0).setCell ⟨b, 1, none⟩ u1) :=
  (h.setCell (p := ⟨b, 0, none⟩) hb _).setCell (p := ⟨b, 1, none⟩) hb _
set_option maxHeartbeats 2000000 in
/-- Whether a schema has a type of the name. -/
theorem sfind_any (p : Option Addr) (ts : List Ty) (nm : ByteArray) (w : World) (hs : Sc w w.heap.size p ts) (hlen : ∀ t ∈ ts, t.2.length ≤ 1000000) (b : Bool) (hb : decide (0 ≤ idx (ts.map Prod.fst) nm) = b) :
    Calls Try.prog 202 #[.pointer p, .string nm] w fun e w' => ∃ x A n c, e = .returned (.tuple #[.agg #[.string x, .slice A n c], .bool b]) ∧ Below w.heap.size w w' := by
  have hX : Below w.heap.size w (w.alloc (.cells #[.string ⟨#[]⟩, .slice none 0 0] 151)) := (Below.refl _ w).alloc (Nat.le_refl _) _
  have HX := Lib.hid hX
  have HS := Lib.hid (hs.below hX hX.size)
  have HRZ : Hid (Row (w.alloc (.cells #[.string ⟨#[]⟩, .slice none 0 0] 151)) w.heap.size 151 #[.string ⟨#[]⟩, .slice none 0 0]) := Lib.hid (Row.made w _ _)
  obtain ⟨r, hr⟩ : ∃ r, idx (ts.map Prod.fst) nm = r := ⟨_, rfl⟩
  rw [hr] at hb
  have HP := Lib.hid (place_is p ts nm (w.alloc (.cells #[.string ⟨#[]⟩, .slice none 0 0] 151)).heap.size _ r hr HS.out (Nat.le_refl _))
  have HR := Lib.hid hr
  obtain ⟨b', v, rfl, hb', hc, hts⟩ := hs
  obtain ⟨A, c, rfl, hn, hcm, h3⟩ := hts
  have H3 := Lib.hid h3
  have HC := Lib.hid hc
  clear hX hr hc h3
  go_enter Try.func202, Try.ntmps202
  go_wp2_with fail
  refine HP.out.mono ?_
  rintro e w1 ⟨rfl, hb1⟩
  have HB1 := Lib.hid (HX.out.trans (hb1.mono HX.out.size))
  have HRZ1 := Lib.hid (Row.below HRZ.out hb1 HRZ.out.lt)
  clear hb1
  have hlt1 := HRZ1.out.lt
  have f0 : w1.frozen? ⟨w.heap.size, 0, none⟩ = false := Row.free HRZ1.out 0
  have f1 : w1.frozen? ⟨w.heap.size, 1, none⟩ = false := Row.free HRZ1.out 1
  have p0 : w1.cell? ⟨w.heap.size, 0, none⟩ = some (.string ⟨#[]⟩) := (Row.cell HRZ1.out 0).trans rfl
  have p1 : w1.cell? ⟨w.heap.size, 1, none⟩ = some (.slice none 0 0) := (Row.cell HRZ1.out 1).trans rfl
  by_cases hlt : r < 0
  · have hrd : decide (r < 0) = true := decide_eq_true hlt
    have hbf : b = false := by rw [← hb]; exact decide_eq_false (by omega)
    subst hbf
    clear hb hb'
    go_wp2
    obtain ⟨k0, k1⟩ := two2 (Row.put (Row.put HRZ1.out 0 (.string ⟨#[]⟩)) 1 (.slice none 0 0))
    exact bodyPost_ret (v := .tuple #[.agg #[.string ⟨#[]⟩, .slice none 0 0], .bool false]) (by simp [results, Try.results202, go_sem, k0, k1]; try rfl) rfl ⟨_, _, _, _, rfl, below2 HB1.out (w.heap.size) (Nat.le_refl _) _ _⟩
  · obtain ⟨i, rfl⟩ : ∃ i : Nat, r = i := ⟨r.toNat, by omega⟩
    have hbf : b = true := by rw [← hb]; exact decide_eq_true (by omega)
    subst hbf
    have hil : i < ts.length := by
      have := (idx_lt (l := ts.map Prod.fst) (nm := nm)).1
      rw [List.length_map, HR.out] at this
      omega
    obtain ⟨g, o, fv, rfl, hg, c0, c1, hfs⟩ := H3.out i hil
    have hfl := hlen _ (List.getElem_mem hil)
    obtain ⟨⟨tn, tf⟩, ht⟩ : ∃ t, ts[i] = t := ⟨_, rfl⟩
    rw [ht] at c0 hfs hfl
    dsimp only at c0 hfs hfl
    have hi63 : i ≤ 9223372036854775807 := by omega
    have hiz : (i : Int) < (ts.length : Int) := by omega
    have hrd : decide ((i : Int) < 0) = false := decide_eq_false (by omega)
    have q0 : w1.cell? ⟨b', 0, none⟩ = some (.slice (some ⟨g, o, none⟩) ts.length c) := (HB1.out.cell (p := ⟨b', 0, none⟩) hb').trans HC.out
    have q1 : w1.cell? ⟨g, o + i * 2, none⟩ = some (.string tn) := (HB1.out.cell (p := ⟨g, _, none⟩) hg).trans c0
    have q2 : w1.cell? ⟨g, o + i * 2 + 1, none⟩ = some fv := (HB1.out.cell (p := ⟨g, _, none⟩) hg).trans c1
    have HTW := Lib.hid (twin_any tn fv tf w1.heap.size w1 (hfs.below HB1.out HB1.out.size) (Nat.le_refl _) hfl)
    obtain ⟨fA, fc, rfl, _, _, _⟩ := hfs
    clear hb ht c0 c1 hlt hfl p0 p1 f0 f1
    go_wp2_with fail
    refine HTW.out.mono ?_
    rintro e w3 ⟨v', rfl, hfs', hb3⟩
    obtain ⟨fA', fc', rfl, _, _, _⟩ := hfs'
    have HB3 := Lib.hid (HB1.out.trans (hb3.mono HB1.out.size))
    have HRZ3 := Lib.hid (Row.below HRZ1.out hb3 HRZ1.out.lt)
    clear hb3 q0 q1 q2
    have hlt3 := Row.lt HRZ3.out
    have f0 : w3.frozen? ⟨w.heap.size, 0, none⟩ = false := Row.free HRZ3.out 0
    have f1 : w3.frozen? ⟨w.heap.size, 1, none⟩ = false := Row.free HRZ3.out 1
    have p0 : w3.cell? ⟨w.heap.size, 0, none⟩ = some (.string ⟨#[]⟩) := (Row.cell HRZ3.out 0).trans rfl
    have p1 : w3.cell? ⟨w.heap.size, 1, none⟩ = some (.slice none 0 0) := (Row.cell HRZ3.out 1).trans rfl
    go_wp2
    obtain ⟨k0, k1⟩ := two2 (Row.put (Row.put HRZ3.out 0 (.string tn)) 1 (.slice fA' tf.length fc'))
    exact bodyPost_ret (v := .tuple #[.agg #[.string tn, .slice fA' tf.length fc'], .bool true]) (by simp [results, Try.results202, go_sem, k0, k1]; try rfl) rfl ⟨_, _, _, _, rfl, below2 HB3.out (w.heap.size) (Nat.le_refl _) _ _⟩
def hasB (L : List ByteArray) (nm : ByteArray) : Bool := decide (0 ≤ idx L nm)
/-- What is wrong with the types of an element. -/
def typesM (T : List Ty) : List ByteArray → List ByteArray → Int
  | _, [] => 0
  | pre, n :: r => if idx (T.map Prod.fst) n < 0 then 10 else if hasB pre n then 4 else typesM T (pre ++ [n]) r
theorem sl_take {w : World} {B n c m : Nat} {A : Option Addr} {l : List ByteArray} (h : SL w B (.slice A n c) l) (hm : m ≤ l.length) : SL w B (.slice A m c) (l.take m) := by
  obtain ⟨A', c', e, h1, h2, h3⟩ := h
  injection e with e1 e2 e3
  subst e1 e3
  have hlen : (l.take m).length = m := by rw [List.length_take, Nat.min_eq_left hm]
  refine ⟨_, _, by rw [hlen], by rw [hlen]; omega, h2, fun k hk => ?_⟩
  obtain ⟨g, o, e, hg, hc⟩ := h3 k (by omega)
  exact ⟨g, o, e, hg, by rw [List.getElem_take]; exact hc⟩
set_option maxHeartbeats 4000000 in
theorem types_any' (p : Option Addr) (T : List Ty) (v : Value) (L : List ByteArray) (w : World) (hs : Sc w w.heap.size p T) (hlen : ∀ t ∈ T, t.2.length ≤ 1000000) (hl : SL w w.heap.size v L) :
    Calls Try.prog 163 #[.pointer p, v] w fun e w' => e = .returned (.int .i64 (typesM T [] L)) ∧ Below w.heap.size w w' := by
  have HS := Lib.hid hs
  have HT := Lib.hid hlen
  have HL := Lib.hid hl
  obtain ⟨A, c, rfl, hn, hcm, _⟩ := hl
  clear hs hlen
  go_enter Try.func163, Try.ntmps163
  go_wp2
  go_loopw [11] (fun s wr => ∃ k : Nat, k ≤ L.length ∧ s = .int .i64 k ∧ Hid (Below w.heap.size w wr) ∧ Hid (typesM T [] L = typesM T (L.take k) (L.drop k))) (fun s _ => L.length - (intOf s).toNat)
  case atStart => exact ⟨0, by omega, rfl, Below.refl _ _, rfl⟩
  case round =>
    obtain ⟨k, hk, rfl, hb, hno⟩ := hrel
    by_cases hlt : k < L.length
    · obtain ⟨A', c', e1, _, _, h3⟩ := HL.out.below hb.out (Nat.le_refl _)
      injection e1 with e1 _ e3
      subst e1 e3
      obtain ⟨g, o, rfl, hg, c0⟩ := h3 k hlt
      obtain ⟨x, hx⟩ : ∃ x, L[k] = x := ⟨_, rfl⟩
      rw [hx] at c0
      have hdr : L.drop k = x :: L.drop (k + 1) := by rw [List.drop_eq_getElem_cons hlt, hx]
      have htk : L.take (k + 1) = L.take k ++ [x] := by rw [List.take_succ_eq_append_getElem hlt, hx]
      rw [hdr] at hno
      have HNO := Lib.hid hno.out
      have HTK := Lib.hid htk
      obtain ⟨b, hbb⟩ : ∃ b, decide (0 ≤ idx (T.map Prod.fst) x) = b := ⟨_, rfl⟩
      have HF := Lib.hid (sfind_any p T x wr (HS.out.below hb.out hb.out.size) HT.out b hbb)
      have HBB := Lib.hid hbb
      have hkz : (k : Int) < (L.length : Int) := by omega
      clear h3 hx hdr htk hno hbb
      go_wp2_with fail
      refine HF.out.mono ?_
      rintro e w1 ⟨tn, tA, tm, tc, rfl, hb1⟩
      have HB1 := Lib.hid (hb.out.trans (hb1.mono hb.out.size))
      clear hb1 hb c0
      cases b with
      | false =>
        go_wp2
        go_ret
        refine ⟨?_, HB1.out.alloc HB1.out.size _⟩
        rw [HNO.out]
        unfold typesM
        rw [if_pos (by have := of_decide_eq_false HBB.out; omega)]
        rfl
      | true =>
        have hX : Below w1.heap.size w1 (w1.alloc (.cells #[.string tn, .slice tA tm tc] 151)) := (Below.refl _ _).alloc (Nat.le_refl _) _
        have hB2 : Below w.heap.size w (w1.alloc (.cells #[.string tn, .slice tA tm tc] 151)) := HB1.out.alloc HB1.out.size _
        have HB2 := Lib.hid hB2
        obtain ⟨b2, hb2⟩ : ∃ b, decide (0 ≤ idx (L.take k) x) = b := ⟨_, rfl⟩
        have HCN := Lib.hid (contains_any (.slice (some ⟨g, o, none⟩) k c) (L.take k) x (w1.alloc (.cells #[.string tn, .slice tA tm tc] 151)) (sl_take (HL.out.below hB2 hB2.size) (by omega)) b2 hb2)
        have HB2B := Lib.hid hb2
        have hkc : k ≤ c := by omega
        have hkc2 : (k : Int) ≤ (c : Int) := by omega
        clear hX hB2 hb2
        go_wp2_with fail
        refine HCN.out.mono ?_
        rintro e w2 ⟨rfl, rfl⟩
        cases b2 with
        | true =>
          go_wp2
          go_ret
          refine ⟨?_, HB2.out⟩
          rw [HNO.out]
          unfold typesM
          rw [if_neg (by have := of_decide_eq_true HBB.out; omega), if_pos (show hasB (L.take k) x = true from HB2B.out)]
          rfl
        | false =>
          go_wp2
          go_roundw
          case rel =>
            refine ⟨k + 1, by omega, by go_num, HB2.out, Lib.hid ?_⟩
            rw [HNO.out, HTK.out]
            show (if _ then _ else if _ then _ else _) = _
            rw [if_neg (by have := of_decide_eq_true HBB.out; omega), if_neg (show ¬ hasB (L.take k) x = true from by rw [show hasB (L.take k) x = false from HB2B.out]; decide)]
          case measure => simp [intOf]; omega
    · have hk' : k = L.length := by omega
      subst hk'
      clear hlt
      go_wp2
      go_ret
      exact ⟨by rw [hno.out, List.drop_length]; rfl, hb.out⟩
end Go.Proofs.Ytopbildpeojgoaa.Ck
