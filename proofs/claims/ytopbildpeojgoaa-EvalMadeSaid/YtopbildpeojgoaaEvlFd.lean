/- Texts put together: EvlPl, EvlFd. -/
import Derived.Test.YtopbildpeojgoaaEvlI
import Derived.Test.YtopbildpeojgoaaSchI
import Derived.Test.YtopbildpeojgoaaEvlW
import Derived.Deep.RegionLaw
section
namespace Go.Proofs.Ytopbildpeojgoaa.Evl
open Go.RowKit Go.Proofs.Ytopbildpeojgoaa Go.Proofs.Ytopbildpeojgoaa.Ev Go.Proofs.Ytopbildpeojgoaa.Sch Go.Proofs.Ytopbildpeojgoaa.Ty Go.Proofs.Ytopbildpeojgoaa.Num
set_option linter.unusedVariables false
set_option maxRecDepth 100000
set_option maxHeartbeats 2000000 in
theorem place_A (key : ByteArray) (t q : Int) (A : Option Addr) (vc : Nat) (f : ByteArray) (w : World) : Calls Try.prog 95 #[.agg #[.string ⟨#[65]⟩, .string key, .int .i64 t, .int .i64 q, .slice A 2 vc], .string f] w fun e w' => e = .returned (.int .i64 (idx [⟨#[120]⟩, ⟨#[115]⟩] f)) ∧ Below w.heap.size w w' := by
  obtain ⟨W0, hW0⟩ : ∃ W, ((w.alloc (.cells #[.string ⟨#[65]⟩, .string key, .int .i64 t, .int .i64 q, .slice A 2 vc] 42)).alloc (.cells #[.string ⟨#[120]⟩, .string ⟨#[115]⟩] 9)) = W := ⟨_, rfl⟩
  have HB : Hid (Below w.heap.size w W0) := Lib.hid (by rw [← hW0]; go_grown)
  have HE : Hid (Row W0 w.heap.size 42 #[.string ⟨#[65]⟩, .string key, .int .i64 t, .int .i64 q, .slice A 2 vc]) := Lib.hid (by rw [← hW0]; exact ((Row.made w _ _).alloc _))
  have HR : Hid (Row W0 (w.heap.size + 1) 9 #[.string ⟨#[120]⟩, .string ⟨#[115]⟩]) := Lib.hid (by rw [← hW0]; simpa using Row.made (w.alloc (.cells #[.string ⟨#[65]⟩, .string key, .int .i64 t, .int .i64 q, .slice A 2 vc] 42)) 9 #[.string ⟨#[120]⟩, .string ⟨#[115]⟩])
  have e0 : W0.cell? ⟨w.heap.size, 0, none⟩ = some (.string ⟨#[65]⟩) := (HE.out.cell 0).trans rfl
  go_enter Try.func95, Try.ntmps95
  go_wp2
  try rw [hW0]
  clear hW0
  go_loopw [6] (fun v6 wx => ∃ k : Nat, k ≤ 2 ∧ v6 = .int .i64 k ∧ W0 = wx ∧ Hid (NoF [⟨#[120]⟩, ⟨#[115]⟩] f k)) (fun v6 _ => 2 - (intOf v6).toNat)
  case atStart => exact ⟨0, by omega, rfl, rfl, Lib.hid (fun _ _ h => absurd h (by omega))⟩
  case round =>
    obtain ⟨k, hk, rfl, rfl, HN⟩ := hrel
    have e4 : W0.cell? ⟨w.heap.size, 4, none⟩ = some (.slice A 2 vc) := (HE.out.cell 4).trans rfl
    by_cases hlt : k < 2
    · have hkl : k < ([⟨#[120]⟩, ⟨#[115]⟩] : List ByteArray).length := hlt
      have s0 : W0.cell? ⟨(w.heap.size + 1), k, none⟩ = some (.string ([⟨#[120]⟩, ⟨#[115]⟩] : List ByteArray)[k]) := by
        rw [HR.out.cell k]
        match k, hlt with
        | 0, _ => rfl
        | 1, _ => rfl
      obtain ⟨x, hx⟩ : ∃ x, ([⟨#[120]⟩, ⟨#[115]⟩] : List ByteArray)[k] = x := ⟨_, rfl⟩
      rw [hx] at s0
      have HX := Lib.hid hx
      have hkz : (k : Int) < 2 := by omega
      obtain ⟨r, hr⟩ : ∃ r, (x.toList == f.toList) = r := ⟨_, rfl⟩
      have HRR := Lib.hid hr
      clear hx hr
      cases r with
      | true =>
        have hit : idx [⟨#[120]⟩, ⟨#[115]⟩] f = (k : Nat) := idx_hit (l := [⟨#[120]⟩, ⟨#[115]⟩]) (k := k) hkl (by rw [HX.out]; simpa using HRR.out) HN.out
        have HI := Lib.hid hit
        have hr := HRR.out
        clear hit
        go_wp2
        go_ret
        exact ⟨by rw [HI.out]; rfl, HB.out⟩
      | false =>
        have hr := HRR.out
        go_wp2
        go_roundw
        case rel => exact ⟨k + 1, by omega, by go_num, (by first | trivial | rfl), Lib.hid (HN.out.succ hkl (by rw [HX.out]; exact HRR.out))⟩
        case measure => simp [intOf]; omega
    · obtain rfl : k = 2 := by omega
      go_wp2
      go_ret
      exact ⟨by rw [idx_miss (l := [⟨#[120]⟩, ⟨#[115]⟩]) (fun j hj => HN.out j hj (by simpa using hj))]; rfl, HB.out⟩
set_option maxHeartbeats 2000000 in
theorem place_B (key : ByteArray) (t q : Int) (A : Option Addr) (vc : Nat) (f : ByteArray) (w : World) : Calls Try.prog 95 #[.agg #[.string ⟨#[66]⟩, .string key, .int .i64 t, .int .i64 q, .slice A 2 vc], .string f] w fun e w' => e = .returned (.int .i64 (idx [⟨#[120]⟩, ⟨#[115]⟩] f)) ∧ Below w.heap.size w w' := by
  obtain ⟨W0, hW0⟩ : ∃ W, ((w.alloc (.cells #[.string ⟨#[66]⟩, .string key, .int .i64 t, .int .i64 q, .slice A 2 vc] 42)).alloc (.cells #[.string ⟨#[120]⟩, .string ⟨#[115]⟩] 9)) = W := ⟨_, rfl⟩
  have HB : Hid (Below w.heap.size w W0) := Lib.hid (by rw [← hW0]; go_grown)
  have HE : Hid (Row W0 w.heap.size 42 #[.string ⟨#[66]⟩, .string key, .int .i64 t, .int .i64 q, .slice A 2 vc]) := Lib.hid (by rw [← hW0]; exact ((Row.made w _ _).alloc _))
  have HR : Hid (Row W0 (w.heap.size + 1) 9 #[.string ⟨#[120]⟩, .string ⟨#[115]⟩]) := Lib.hid (by rw [← hW0]; simpa using Row.made (w.alloc (.cells #[.string ⟨#[66]⟩, .string key, .int .i64 t, .int .i64 q, .slice A 2 vc] 42)) 9 #[.string ⟨#[120]⟩, .string ⟨#[115]⟩])
  have e0 : W0.cell? ⟨w.heap.size, 0, none⟩ = some (.string ⟨#[66]⟩) := (HE.out.cell 0).trans rfl
  go_enter Try.func95, Try.ntmps95
  go_wp2
  try rw [hW0]
  clear hW0
  go_loopw [6] (fun v6 wx => ∃ k : Nat, k ≤ 2 ∧ v6 = .int .i64 k ∧ W0 = wx ∧ Hid (NoF [⟨#[120]⟩, ⟨#[115]⟩] f k)) (fun v6 _ => 2 - (intOf v6).toNat)
  case atStart => exact ⟨0, by omega, rfl, rfl, Lib.hid (fun _ _ h => absurd h (by omega))⟩
  case round =>
    obtain ⟨k, hk, rfl, rfl, HN⟩ := hrel
    have e4 : W0.cell? ⟨w.heap.size, 4, none⟩ = some (.slice A 2 vc) := (HE.out.cell 4).trans rfl
    by_cases hlt : k < 2
    · have hkl : k < ([⟨#[120]⟩, ⟨#[115]⟩] : List ByteArray).length := hlt
      have s0 : W0.cell? ⟨(w.heap.size + 1), k, none⟩ = some (.string ([⟨#[120]⟩, ⟨#[115]⟩] : List ByteArray)[k]) := by
        rw [HR.out.cell k]
        match k, hlt with
        | 0, _ => rfl
        | 1, _ => rfl
      obtain ⟨x, hx⟩ : ∃ x, ([⟨#[120]⟩, ⟨#[115]⟩] : List ByteArray)[k] = x := ⟨_, rfl⟩
      rw [hx] at s0
      have HX := Lib.hid hx
      have hkz : (k : Int) < 2 := by omega
      obtain ⟨r, hr⟩ : ∃ r, (x.toList == f.toList) = r := ⟨_, rfl⟩
      have HRR := Lib.hid hr
      clear hx hr
      cases r with
      | true =>
        have hit : idx [⟨#[120]⟩, ⟨#[115]⟩] f = (k : Nat) := idx_hit (l := [⟨#[120]⟩, ⟨#[115]⟩]) (k := k) hkl (by rw [HX.out]; simpa using HRR.out) HN.out
        have HI := Lib.hid hit
        have hr := HRR.out
        clear hit
        go_wp2
        go_ret
        exact ⟨by rw [HI.out]; rfl, HB.out⟩
      | false =>
        have hr := HRR.out
        go_wp2
        go_roundw
        case rel => exact ⟨k + 1, by omega, by go_num, (by first | trivial | rfl), Lib.hid (HN.out.succ hkl (by rw [HX.out]; exact HRR.out))⟩
        case measure => simp [intOf]; omega
    · obtain rfl : k = 2 := by omega
      go_wp2
      go_ret
      exact ⟨by rw [idx_miss (l := [⟨#[120]⟩, ⟨#[115]⟩]) (fun j hj => HN.out j hj (by simpa using hj))]; rfl, HB.out⟩
set_option maxHeartbeats 2000000 in
theorem place_C (key : ByteArray) (t q : Int) (A : Option Addr) (vc : Nat) (f : ByteArray) (w : World) : Calls Try.prog 95 #[.agg #[.string ⟨#[67]⟩, .string key, .int .i64 t, .int .i64 q, .slice A 3 vc], .string f] w fun e w' => e = .returned (.int .i64 (idx [⟨#[115]⟩, ⟨#[120]⟩, ⟨#[98]⟩] f)) ∧ Below w.heap.size w w' := by
  obtain ⟨W0, hW0⟩ : ∃ W, (((w.alloc (.cells #[.string ⟨#[67]⟩, .string key, .int .i64 t, .int .i64 q, .slice A 3 vc] 42)).alloc (.cells #[.string ⟨#[120]⟩, .string ⟨#[115]⟩] 9)).alloc (.cells #[.string ⟨#[115]⟩, .string ⟨#[120]⟩, .string ⟨#[98]⟩] 9)) = W := ⟨_, rfl⟩
  have HB : Hid (Below w.heap.size w W0) := Lib.hid (by rw [← hW0]; go_grown)
  have HE : Hid (Row W0 w.heap.size 42 #[.string ⟨#[67]⟩, .string key, .int .i64 t, .int .i64 q, .slice A 3 vc]) := Lib.hid (by rw [← hW0]; exact (((Row.made w _ _).alloc _).alloc _))
  have HR : Hid (Row W0 (w.heap.size + 1 + 1) 9 #[.string ⟨#[115]⟩, .string ⟨#[120]⟩, .string ⟨#[98]⟩]) := Lib.hid (by rw [← hW0]; simpa using Row.made ((w.alloc (.cells #[.string ⟨#[67]⟩, .string key, .int .i64 t, .int .i64 q, .slice A 3 vc] 42)).alloc (.cells #[.string ⟨#[120]⟩, .string ⟨#[115]⟩] 9)) 9 #[.string ⟨#[115]⟩, .string ⟨#[120]⟩, .string ⟨#[98]⟩])
  have e0 : W0.cell? ⟨w.heap.size, 0, none⟩ = some (.string ⟨#[67]⟩) := (HE.out.cell 0).trans rfl
  go_enter Try.func95, Try.ntmps95
  go_wp2
  try rw [hW0]
  clear hW0
  go_loopw [6] (fun v6 wx => ∃ k : Nat, k ≤ 3 ∧ v6 = .int .i64 k ∧ W0 = wx ∧ Hid (NoF [⟨#[115]⟩, ⟨#[120]⟩, ⟨#[98]⟩] f k)) (fun v6 _ => 3 - (intOf v6).toNat)
  case atStart => exact ⟨0, by omega, rfl, rfl, Lib.hid (fun _ _ h => absurd h (by omega))⟩
  case round =>
    obtain ⟨k, hk, rfl, rfl, HN⟩ := hrel
    have e4 : W0.cell? ⟨w.heap.size, 4, none⟩ = some (.slice A 3 vc) := (HE.out.cell 4).trans rfl
    by_cases hlt : k < 3
    · have hkl : k < ([⟨#[115]⟩, ⟨#[120]⟩, ⟨#[98]⟩] : List ByteArray).length := hlt
      have s0 : W0.cell? ⟨(w.heap.size + 1 + 1), k, none⟩ = some (.string ([⟨#[115]⟩, ⟨#[120]⟩, ⟨#[98]⟩] : List ByteArray)[k]) := by
        rw [HR.out.cell k]
        match k, hlt with
        | 0, _ => rfl
        | 1, _ => rfl
        | 2, _ => rfl
      obtain ⟨x, hx⟩ : ∃ x, ([⟨#[115]⟩, ⟨#[120]⟩, ⟨#[98]⟩] : List ByteArray)[k] = x := ⟨_, rfl⟩
      rw [hx] at s0
      have HX := Lib.hid hx
      have hkz : (k : Int) < 3 := by omega
      obtain ⟨r, hr⟩ : ∃ r, (x.toList == f.toList) = r := ⟨_, rfl⟩
      have HRR := Lib.hid hr
      clear hx hr
      cases r with
      | true =>
        have hit : idx [⟨#[115]⟩, ⟨#[120]⟩, ⟨#[98]⟩] f = (k : Nat) := idx_hit (l := [⟨#[115]⟩, ⟨#[120]⟩, ⟨#[98]⟩]) (k := k) hkl (by rw [HX.out]; simpa using HRR.out) HN.out
        have HI := Lib.hid hit
        have hr := HRR.out
        clear hit
        go_wp2
        go_ret
        exact ⟨by rw [HI.out]; rfl, HB.out⟩
      | false =>
        have hr := HRR.out
        go_wp2
        go_roundw
        case rel => exact ⟨k + 1, by omega, by go_num, (by first | trivial | rfl), Lib.hid (HN.out.succ hkl (by rw [HX.out]; exact HRR.out))⟩
        case measure => simp [intOf]; omega
    · obtain rfl : k = 3 := by omega
      go_wp2
      go_ret
      exact ⟨by rw [idx_miss (l := [⟨#[115]⟩, ⟨#[120]⟩, ⟨#[98]⟩]) (fun j hj => HN.out j hj (by simpa using hj))]; rfl, HB.out⟩
end Go.Proofs.Ytopbildpeojgoaa.Evl
end

section
namespace Go.Proofs.Ytopbildpeojgoaa.Evl
open Go.RowKit Go.Proofs.Ytopbildpeojgoaa Go.Proofs.Ytopbildpeojgoaa.Ev Go.Proofs.Ytopbildpeojgoaa.Sch Go.Proofs.Ytopbildpeojgoaa.Ty Go.Proofs.Ytopbildpeojgoaa.Num
set_option linter.unusedVariables false
set_option maxRecDepth 100000
def EvT (e : Evt) : Prop := (e.ty = ⟨#[65]⟩ ∧ e.vs.length = 2) ∨ (e.ty = ⟨#[66]⟩ ∧ e.vs.length = 2) ∨ (e.ty = ⟨#[67]⟩ ∧ e.vs.length = 3)
theorem fS_idx {n f : ByteArray} {i : Nat} {t : Ty} (h1 : idx (typesL.map Prod.fst) n = (i : Nat)) (ht : typesL[i]? = some t) : (fieldS typesL n f).1 = idx (t.2.map Prod.fst) f := by
  obtain ⟨hj1, hj2⟩ := idx_lt (l := t.2.map Prod.fst) (nm := f)
  rw [List.length_map] at hj1
  unfold fieldS
  rw [h1, Int.toNat_natCast, ht]
  dsimp only
  rw [if_neg (by omega)]
  by_cases h : idx (t.2.map Prod.fst) f < 0
  · split
    · omega
    · rw [if_pos h]; omega
  · obtain ⟨j, hj⟩ : ∃ j : Nat, idx (t.2.map Prod.fst) f = j := ⟨(idx (t.2.map Prod.fst) f).toNat, by omega⟩
    have hjl : j < t.2.length := by omega
    rw [hj, Int.toNat_natCast, List.getElem?_eq_getElem hjl]
    dsimp only
    rw [if_neg (by omega)]
theorem place_T (e : Evt) (he : EvT e) (A : Option Addr) (vc : Nat) (f : ByteArray) (w : World) : Calls Try.prog 95 #[.agg #[.string e.ty, .string e.key, .int .i64 e.t, .int .i64 e.q, .slice A e.vs.length vc], .string f] w fun r w' => r = .returned (.int .i64 (fieldS typesL e.ty f).1) ∧ Below w.heap.size w w' := by
  obtain ⟨ty, key, t, q, vs⟩ := e
  dsimp only [EvT] at he ⊢
  rcases he with ⟨rfl, hl⟩ | ⟨rfl, hl⟩ | ⟨rfl, hl⟩
  · rw [hl, fS_idx (i := 0) (by rw [idx_data]; rfl) rfl]; exact place_A key t q A vc f w
  · rw [hl, fS_idx (i := 1) (by rw [idx_data]; rfl) rfl]; exact place_B key t q A vc f w
  · rw [hl, fS_idx (i := 2) (by rw [idx_data]; rfl) rfl]; exact place_C key t q A vc f w
theorem place_lt (e : Evt) (he : EvT e) (f : ByteArray) : (fieldS typesL e.ty f).1 < e.vs.length := by
  obtain ⟨ty, key, t, q, vs⟩ := e
  dsimp only [EvT] at he ⊢
  rcases he with ⟨rfl, hl⟩ | ⟨rfl, hl⟩ | ⟨rfl, hl⟩
  · rw [hl, fS_idx (i := 0) (by rw [idx_data]; rfl) rfl]; exact (idx_lt (l := [sx, ss]) (nm := f)).1
  · rw [hl, fS_idx (i := 1) (by rw [idx_data]; rfl) rfl]; exact (idx_lt (l := [sx, ss]) (nm := f)).1
  · rw [hl, fS_idx (i := 2) (by rw [idx_data]; rfl) rfl]; exact (idx_lt (l := [ss, sx, sb]) (nm := f)).1
set_option maxHeartbeats 1500000 in
theorem ref_fld (v en : Value) (l : List Nd) (es : List Bn) (j : Nat) (va fd : ByteArray) (w : World) (hl : Ns w w.heap.size v l) (he : En w w.heap.size en es) (het : ∀ b ∈ es, EvT b.ev) (hj : l[j]? = some ⟨2, 0, 0, ⟨#[]⟩, false, va, fd⟩) :
    Calls Try.prog 33 #[v, en, .int .i64 (j : Int)] w (RfPost w (fldM typesL es va fd) j) := by
  obtain ⟨g, o, n, c, rfl, hjn, hnc, hc9, hg, c0, c1, c2, c3, c4, c5, c6⟩ := ns_at hl hj
  have hX : Below w.heap.size w (w.alloc (.cells #[.int .i64 0, .int .i64 0, .string ⟨#[]⟩, .bool false] 57)) := (Below.refl _ w).alloc (Nat.le_refl _) _
  dsimp only at c0 c1 c2 c3 c4 c5 c6
  have k0 := (hX.cell (p := ⟨g, o + j * 7, none⟩) hg).trans c0
  have k1 := (hX.cell (p := ⟨g, o + j * 7 + 1, none⟩) hg).trans c1
  have k2 := (hX.cell (p := ⟨g, o + j * 7 + 2, none⟩) hg).trans c2
  have k3 := (hX.cell (p := ⟨g, o + j * 7 + 3, none⟩) hg).trans c3
  have k4 := (hX.cell (p := ⟨g, o + j * 7 + 4, none⟩) hg).trans c4
  have k5 := (hX.cell (p := ⟨g, o + j * 7 + 5, none⟩) hg).trans c5
  have k6 := (hX.cell (p := ⟨g, o + j * 7 + 6, none⟩) hg).trans c6
  have HNR : Hid (Rz ((w.alloc (.cells #[.int .i64 0, .int .i64 0, .string ⟨#[]⟩, .bool false] 57)).alloc (.cells #[.int .i64 2, .int .i64 0, .int .i64 0, .string ⟨#[]⟩, .bool false, .string va, .string fd] 86)) w.heap.size ∧ Row ((w.alloc (.cells #[.int .i64 0, .int .i64 0, .string ⟨#[]⟩, .bool false] 57)).alloc (.cells #[.int .i64 2, .int .i64 0, .int .i64 0, .string ⟨#[]⟩, .bool false, .string va, .string fd] 86)) (w.heap.size + 1) 86 #[.int .i64 2, .int .i64 0, .int .i64 0, .string ⟨#[]⟩, .bool false, .string va, .string fd] ∧ Below w.heap.size w ((w.alloc (.cells #[.int .i64 0, .int .i64 0, .string ⟨#[]⟩, .bool false] 57)).alloc (.cells #[.int .i64 2, .int .i64 0, .int .i64 0, .string ⟨#[]⟩, .bool false, .string va, .string fd] 86))) := Lib.hid nrows
  clear c0 c1 c2 c3 c4 c5 c6 hX hl hj
  have hjz : (j : Int) < (n : Int) := by omega
  have HE0 := Lib.hid he
  have HET := Lib.hid het
  obtain ⟨eA, ec, rfl, he1, he2, he3⟩ := he
  clear he3 het
  go_enter Try.func33, Try.ntmps33
  go_wp2_with fail
  refine (refParts_is 2 0 _ rfl).mono ?_
  rintro e w1 ⟨rfl, rfl⟩
  generalize hW : ((w.alloc (.cells #[.int .i64 0, .int .i64 0, .string ⟨#[]⟩, .bool false] 57)).alloc (.cells #[.int .i64 2, .int .i64 0, .int .i64 0, .string ⟨#[]⟩, .bool false, .string va, .string fd] 86)) = W at HNR ⊢
  clear hW k0 k1 k2 k3 k4 k5 k6
  obtain ⟨hz, hr, hb⟩ := HNR.out
  have HZ := Lib.hid hz
  have HB := Lib.hid hb
  have HR := Lib.hid hr
  have HEW := Lib.hid (HE0.out.below hb hb.size)
  have HLN := Lib.hid (show (es.map Bn.nm).length = es.length by simp)
  have n0 : W.cell? ⟨w.heap.size + 1, 0, none⟩ = some (.int .i64 2) := (hr.cell 0).trans rfl
  clear hz hr hb HNR
  go_wp2_with fail
  go_loopw [10, 11] (fun v10 s11 wx => ∃ k : Nat, k ≤ es.length ∧ v10 = .int .i64 k ∧ Hid (Below W.heap.size W wx) ∧ Hid (NoF (es.map Bn.nm) va k)) (fun v10 _ _ => es.length - (intOf v10).toNat)
  case atStart => exact ⟨0, by omega, rfl, Below.refl _ _, fun _ _ h => absurd h (by omega)⟩
  case round =>
    obtain ⟨k, hk, rfl, hbx, hno⟩ := hrel
    have HZX : Hid (Rz wr w.heap.size) := Lib.hid (Row.below HZ.out hbx.out HZ.out.lt)
    have HRX : Hid (Row wr (w.heap.size + 1) 86 #[.int .i64 2, .int .i64 0, .int .i64 0, .string ⟨#[]⟩, .bool false, .string va, .string fd]) := Lib.hid (Row.below HR.out hbx.out HR.out.lt)
    have HBX := Lib.hid (HB.out.trans (hbx.out.mono HB.out.size))
    have n2 : wr.cell? ⟨w.heap.size + 1, 5, none⟩ = some (.string va) := (HRX.out.cell 5).trans rfl
    have n3 : wr.cell? ⟨w.heap.size + 1, 6, none⟩ = some (.string fd) := (HRX.out.cell 6).trans rfl
    by_cases hlt : k < es.length
    · obtain ⟨A', c', e1, _, _, h3⟩ := HEW.out.below hbx.out (Nat.le_refl _)
      injection e1 with e1 _ e3
      subst e1 e3
      obtain ⟨g2, o2, vv, rfl, hg2, c0, c1, c2, c3, c4, c5, hsl⟩ := h3 k hlt
      have hev := HET.out es[k] (List.getElem_mem hlt)
      have hkl : k < (es.map Bn.nm).length := by rw [HLN.out]; exact hlt
      have HG := Lib.hid (show (es.map Bn.nm)[k]'hkl = es[k].nm by simp)
      have HGE := Lib.hid (List.getElem?_eq_getElem hlt)
      have HSL := Lib.hid hsl
      obtain ⟨yA, yc, rfl, _, _, _⟩ := hsl
      obtain ⟨⟨xn, xt, xk, xtt, xq, xv⟩, hx⟩ : ∃ x, es[k] = x := ⟨_, rfl⟩
      rw [hx] at c0 c1 c2 c3 c4 c5 hev HG HGE HSL
      dsimp only at c0 c1 c2 c3 c4 c5 hev HG HSL
      obtain ⟨r, hr⟩ : ∃ r, (xn.toList == va.toList) = r := ⟨_, rfl⟩
      have HRR := Lib.hid hr
      have hkz : (k : Int) < (es.length : Int) := by omega
      have HPL := Lib.hid (fun X => place_T ⟨xt, xk, xtt, xq, xv⟩ hev yA yc fd X)
      have hevT := hev
      clear h3 hx hev
      cases r with
      | true =>
        have hit : idx (es.map Bn.nm) va = ((k : Nat) : Int) := idx_hit (k := k) hkl (by rw [HG.out]; simpa using HRR.out) hno.out
        have hfl : fldM typesL es va fd = getM typesL ⟨xt, xk, xtt, xq, xv⟩ fd := by rw [fldM_at hit HGE.out]
        clear hit
        obtain ⟨px, hpx⟩ : ∃ px, (fieldS typesL xt fd).1 = px := ⟨_, rfl⟩
        obtain ⟨R, hR⟩ : ∃ R, fldM typesL es va fd = R := ⟨_, rfl⟩
        rw [hpx] at HPL
        have hq : (if px < 0 then none else xv[px.toNat]?) = R := by rw [← hR, hfl]; unfold getM; dsimp only; rw [hpx]
        have hpb : px < xv.length := by rw [← hpx]; exact place_lt ⟨xt, xk, xtt, xq, xv⟩ hevT fd
        have HQ := Lib.hid hq
        have HPB := Lib.hid hpb
        rw [hR]
        have hr := HRR.out
        have H5 : Hid (∀ X, Below wr.heap.size wr X → X.cell? ⟨g2, o2 + k * 6 + 5, none⟩ = some (.slice yA xv.length yc)) := Lib.hid (fun X hX => (hX.cell (p := ⟨g2, _, none⟩) (Nat.lt_of_lt_of_le hg2 hbx.out.size)).trans c5)
        clear hfl hpx hR hq hpb hevT
        have f2 : wr.cell? ⟨g2, o2 + k * 6 + 1 + 1, none⟩ = some (.string xk) := c2
        have f3 : wr.cell? ⟨g2, o2 + k * 6 + 1 + 2, none⟩ = some (.int .i64 xtt) := c3
        have f4 : wr.cell? ⟨g2, o2 + k * 6 + 1 + 3, none⟩ = some (.int .i64 xq) := c4
        have f5 : wr.cell? ⟨g2, o2 + k * 6 + 1 + 4, none⟩ = some (.slice yA xv.length yc) := c5
        clear c2 c3 c4 c5
        go_wp2
        go_quiet (fail)
        go_upto_region 12 with fail
        go_region_law (
          (go_simp
           go_at_call 95
           refine (HPL.out _).mono ?_
           rintro e w3 ⟨rfl, hb⟩
           have HB3 : Hid (Below wr.heap.size wr w3) := Lib.hid ((show Below wr.heap.size wr _ from by first | exact below_drewN (Below.refl _ _) _ | go_grown).trans (hb.mono (show Below wr.heap.size wr _ from by first | exact below_drewN (Below.refl _ _) _ | go_grown).size))
           clear hb))
        all_goals
          have HBW := Lib.hid (HBX.out.trans (HB3.out.mono HBX.out.size))
          have HZ3 : Hid (Rz w3 w.heap.size) := Lib.hid (Row.below HZX.out HB3.out HZX.out.lt)
          obtain ⟨hlt7, p70, p71, p72, p73, f70, f71, f72, f73⟩ := HZ3.out.facts
          by_cases hp : px < 0
          · have hRn : R = none := by rw [← HQ.out, if_pos hp]
            have HRN := Lib.hid hRn
            have hd : decide (px < 0) = true := decide_eq_true hp
            clear hRn
            go_wp2
            obtain ⟨k0, k1, k2, k3⟩ := four (put4 HZ3.out (.int .i64 0) (.int .i64 0) (.string ⟨#[]⟩) (.bool false))
            exact bodyPost_ret (v := .tuple #[.agg #[.int .i64 0, .int .i64 0, .string ⟨#[]⟩, .bool false], .bool false, .int .i64 (j : Int)]) (by simp [results, Try.results33, go_sem, k0, k1, k2, k3]; try rfl) rfl (rfpost_no HRN.out (by first | exact below4 HBW.out (w.heap.size) (Nat.le_refl _) _ _ _ _ | exact (below4 HBW.out (w.heap.size) (Nat.le_refl _) _ _ _ _).drew))
          · obtain ⟨k2, rfl⟩ : ∃ k2 : Nat, px = k2 := ⟨px.toNat, by omega⟩
            have hk2 : k2 < xv.length := by have := HPB.out; omega
            have hk2z : (k2 : Int) < (xv.length : Int) := by omega
            have hd : decide ((k2 : Int) < 0) = false := decide_eq_false (by omega)
            obtain ⟨A2, c2', e9, _, _, hv3⟩ := HSL.out
            injection e9 with e9 _ _
            subst e9
            obtain ⟨g4, o4, rfl, hg4, hcv⟩ := hv3 k2 hk2
            have hRy : R = some xv[k2] := by rw [← HQ.out, if_neg (by omega), Int.toNat_natCast, List.getElem?_eq_getElem hk2]
            obtain ⟨⟨zk, zi, zs, zb⟩, hz⟩ : ∃ z, xv[k2] = z := ⟨_, rfl⟩
            rw [hz] at hRy hcv
            have HRY := Lib.hid hRy
            have d5 := H5.out w3 HB3.out
            have z0 := (HB3.out.cell (p := ⟨g4, o4 + k2 * 4 + 0, none⟩) (Nat.lt_of_lt_of_le hg4 hbx.out.size)).trans (hcv 0 _ rfl)
            have z1 := (HB3.out.cell (p := ⟨g4, o4 + k2 * 4 + 1, none⟩) (Nat.lt_of_lt_of_le hg4 hbx.out.size)).trans (hcv 1 _ rfl)
            have z2 := (HB3.out.cell (p := ⟨g4, o4 + k2 * 4 + 2, none⟩) (Nat.lt_of_lt_of_le hg4 hbx.out.size)).trans (hcv 2 _ rfl)
            have z3 := (HB3.out.cell (p := ⟨g4, o4 + k2 * 4 + 3, none⟩) (Nat.lt_of_lt_of_le hg4 hbx.out.size)).trans (hcv 3 _ rfl)
            simp only [Nat.add_zero] at z0
            dsimp only at z0 z1 z2 z3
            clear hRy hcv hz hp
            go_wp2
            obtain ⟨k0, k1, k2, k3⟩ := four (put4 HZ3.out (.int .i64 zk) (.int .i64 zi) (.string zs) (.bool zb))
            exact bodyPost_ret (v := .tuple #[.agg #[.int .i64 zk, .int .i64 zi, .string zs, .bool zb], .bool true, .int .i64 (j : Int)]) (by simp [results, Try.results33, go_sem, k0, k1, k2, k3]; try rfl) rfl (rfpost_yes HRY.out (by first | exact below4 HBW.out (w.heap.size) (Nat.le_refl _) _ _ _ _ | exact (below4 HBW.out (w.heap.size) (Nat.le_refl _) _ _ _ _).drew))
      | false =>
        clear hevT
        go_wp2
        go_quiet (fail)
        go_wp2
        go_roundw
        case rel => exact ⟨k + 1, by omega, by go_num, Lib.hid (below_drewN hbx.out _), hno.out.succ hkl (by rw [HG.out]; exact HRR.out)⟩
        case measure => simp [intOf]; omega
    · obtain rfl : k = es.length := by omega
      have hno' : fldM typesL es va fd = none := fldM_no (by rw [idx_miss (fun j hj => hno.out j hj (by rw [HLN.out] at hj; exact hj))]; decide)
      have HNO := Lib.hid hno'
      obtain ⟨hlt5, p50, p51, p52, p53, f50, f51, f52, f53⟩ := HZX.out.facts
      clear hlt hno'
      go_wp2
      obtain ⟨k0, k1, k2, k3⟩ := four (put4 HZX.out (.int .i64 0) (.int .i64 0) (.string ⟨#[]⟩) (.bool false))
      exact bodyPost_ret (v := .tuple #[.agg #[.int .i64 0, .int .i64 0, .string ⟨#[]⟩, .bool false], .bool false, .int .i64 (j : Int)]) (by simp [results, Try.results33, go_sem, k0, k1, k2, k3]; try rfl) rfl (rfpost_no HNO.out (by first | exact below4 HBX.out (w.heap.size) (Nat.le_refl _) _ _ _ _ | exact (below4 HBX.out (w.heap.size) (Nat.le_refl _) _ _ _ _).drew))
end Go.Proofs.Ytopbildpeojgoaa.Evl
end
