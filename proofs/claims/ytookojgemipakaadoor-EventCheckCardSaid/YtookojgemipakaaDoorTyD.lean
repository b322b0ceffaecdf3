/- Predicates: lists of parts, each behind those that it is of. -/
import Derived.Test.YtookojgemipakaaDoorTyC
namespace Go.Proofs.YtookojgemipakaaDoor.Ty
open Go.RowKit Go.Proofs.YtookojgemipakaaDoor Go.Proofs.YtookojgemipakaaDoor.Sch
set_option linter.unusedVariables false
set_option maxRecDepth 100000
/-- A part that has what it needs. -/
inductive OkN : Nd → Prop
  | const {k i : Int} {s : ByteArray} {b : Bool} (h : OkV k i s b) : OkN ⟨1, k, i, s, b, ⟨#[]⟩, ⟨#[]⟩⟩
  | field {v f : ByteArray} (hv : nameB v.data.toList = true) (hf : nameB f.data.toList = true) : OkN ⟨2, 0, 0, ⟨#[]⟩, false, v, f⟩
  | op (o : Int) (h1 : 3 ≤ o) (h2 : o ≤ 15) : OkN ⟨o, 0, 0, ⟨#[]⟩, false, ⟨#[]⟩, ⟨#[]⟩⟩
theorem OkN.parts {n : Nd} (h : OkN n) : 0 ≤ partsI n.op ∧ partsI n.op ≤ 2 := by
  cases h with
  | const h => show 0 ≤ partsI 1 ∧ partsI 1 ≤ 2; decide
  | field hv hf => show 0 ≤ partsI 2 ∧ partsI 2 ≤ 2; decide
  | op o h1 h2 =>
    show 0 ≤ partsI o ∧ partsI o ≤ 2
    unfold partsI
    split
    · omega
    · split
      · omega
      · rw [if_pos (by omega)]; omega
theorem own_ok {n : Nd} (h : OkN n) (w : World) : Calls Tryd.prog 45 #[.agg #[.int .i64 n.op, .int .i64 n.k, .int .i64 n.i, .string n.s, .bool n.b, .string n.v, .string n.f]] w fun e w' => e = .returned (.bool true) ∧ Below w.heap.size w w' := by
  cases h with
  | const h => exact own_const h w
  | field hv hf => exact own_field hv hf w
  | op o h1 h2 => exact own_op o (by simp; omega) (by simp; omega) w
/-- Parts as they lie in memory. -/
def Ns (w : World) (B : Nat) (v : Value) (l : List Nd) : Prop :=
  ∃ A c, v = .slice A l.length c ∧ l.length ≤ c ∧ c ≤ 9223372036854775807 ∧ ∀ k (h : k < l.length), ∃ g o, A = some ⟨g, o, none⟩ ∧ g < B ∧ ∀ j u, (l[k].cells)[j]? = some u → w.cell? ⟨g, o + k * 7 + j, none⟩ = some u
theorem Ns.below {w w' : World} {B B' : Nat} {v : Value} {l : List Nd} (h : Ns w B v l) (hb : Below B w w') (hB : B ≤ B') : Ns w' B' v l := by
  obtain ⟨A, c, rfl, h1, h2, h3⟩ := h
  refine ⟨A, c, rfl, h1, h2, fun k hk => ?_⟩
  obtain ⟨g, o, e, hg, hc⟩ := h3 k hk
  exact ⟨g, o, e, by omega, fun j u hj => (hb.cell (p := ⟨g, o + k * 7 + j, none⟩) hg).trans (hc j u hj)⟩
/-- How many things are there, behind parts. -/
def dep (l : List Nd) : Int := (l.map fun n => 1 - partsI n.op).sum
theorem dep_snoc (l : List Nd) (n : Nd) : dep (l ++ [n]) = dep l + (1 - partsI n.op) := by
  unfold dep
  rw [List.map_append, List.sum_append]
  simp
structure Good (l : List Nd) : Prop where
  len : l.length ≤ 64
  ok : ∀ k (h : k < l.length), OkN l[k]
  low : ∀ k (h : k < l.length), partsI l[k].op ≤ dep (l.take k)
  one : dep l = 1
theorem dep_take {l : List Nd} {k : Nat} (h : k < l.length) : dep (l.take (k + 1)) = dep (l.take k) + (1 - partsI l[k].op) := by
  rw [List.take_succ_eq_append_getElem h, dep_snoc]
theorem Good.bd {l : List Nd} (h : Good l) : ∀ k, k ≤ l.length → 0 ≤ dep (l.take k) ∧ dep (l.take k) ≤ k
  | 0, _ => by simp [dep]
  | k + 1, hk => by
    have ih := h.bd k (by omega)
    have h1 := h.low k (by omega)
    have h2 := (h.ok k (by omega)).parts
    rw [dep_take (by omega)]
    omega
set_option maxHeartbeats 2000000 in
theorem tmay_yes (v : Value) (l : List Nd) (w : World) (hl : Ns w w.heap.size v l) (hg : Good l) :
    Calls Tryd.prog 27 #[v] w fun e w' => e = .returned (.bool true) ∧ Below w.heap.size w w' := by
  have HL := Lib.hid hl
  obtain ⟨A, c, rfl, hnc, hcm, hx0⟩ := hl
  obtain ⟨n, hn⟩ : ∃ n, l.length = n := ⟨_, rfl⟩
  have h64 := hg.len
  rw [hn] at HL hnc h64 ⊢
  have HN := Lib.hid hn
  have HG := Lib.hid hg
  clear hx0 hn hg
  go_enter Tryd.func27, Tryd.ntmps27
  go_wp2
  go_loopw [12, 3, 5, 6] (fun v12 v3 s5 s6 wx => ∃ k : Nat, ∃ d : Int, k ≤ n ∧ v12 = .int .i64 k ∧ v3 = .int .i64 d ∧ Hid (dep (l.take k) = d) ∧ Hid (Below w.heap.size w wx)) (fun v12 _ _ _ _ => n - (intOf v12).toNat)
  case atStart => exact ⟨0, 0, by omega, rfl, rfl, Lib.hid rfl, Lib.hid (Below.refl _ _)⟩
  case round =>
    obtain ⟨k, d, hkn, rfl, rfl, HD, HB⟩ := hrel
    have hbd := HG.out.bd k (by rw [HN.out]; exact hkn)
    rw [HD.out] at hbd
    obtain ⟨hd0, hd1⟩ := hbd
    by_cases hlt : k < n
    · have hk1 : (k : Int) < (n : Int) := by omega
      have hkl : k < l.length := by rw [HN.out]; exact hlt
      obtain ⟨A', c', e1, hx1, hx2, h3⟩ := HL.out.below HB.out (Nat.le_refl _)
      injection e1 with e1 e2 e3
      subst e1 e3
      clear e2 hx1 hx2
      obtain ⟨g, o, rfl, hgw, hcl⟩ := h3 k hkl
      have hok := HG.out.ok k hkl
      have hlow := HG.out.low k hkl
      have hp2 := hok.parts
      have hdt := dep_take hkl
      rw [HD.out] at hlow hdt
      obtain ⟨nd, hnd⟩ : ∃ nd, l[k] = nd := ⟨_, rfl⟩
      rw [hnd] at hcl hok hlow hp2 hdt
      obtain ⟨op, kd, i, s, b, vv, ff⟩ := nd
      obtain ⟨p, hp⟩ : ∃ p, partsI op = p := ⟨_, rfl⟩
      dsimp only at hlow hp2 hdt
      rw [hp] at hlow hp2 hdt
      obtain ⟨hp0, hp2⟩ := hp2
      have HP := Lib.hid hp
      have HOK := Lib.hid hok
      have HDT := Lib.hid hdt
      have c0 := hcl 0 (.int .i64 op) rfl
      have c1 := hcl 1 (.int .i64 kd) rfl
      have c2 := hcl 2 (.int .i64 i) rfl
      have c3 := hcl 3 (.string s) rfl
      have c4 := hcl 4 (.bool b) rfl
      have c5 := hcl 5 (.string vv) rfl
      have c6 := hcl 6 (.string ff) rfl
      simp only [Nat.add_zero] at c0
      clear hcl h3 hnd hp hok hdt
      have hq1 : decide (p < 0) = false := decide_eq_false (by omega)
      have hq2 : decide (d < p) = false := decide_eq_false (by omega)
      obtain ⟨V, rfl⟩ : ∃ V, V = wr := ⟨_, rfl⟩
      go_wp2_with fail
      refine (parts_is op p _ HP.out).mono ?_
      rintro e w1 ⟨rfl, rfl⟩
      go_wp2_with fail
      refine (own_ok (n := ⟨op, kd, i, s, b, vv, ff⟩) HOK.out _).mono ?_
      rintro e w2 ⟨rfl, hb2⟩
      have HB2 := Lib.hid (HB.out.trans ((((Below.refl _ V).alloc (Nat.le_refl _) _).trans (hb2.mono (by simp))).mono HB.out.size))
      clear hb2
      go_wp2
      go_roundw
      case rel => exact ⟨k + 1, d + (1 - p), by omega, by go_num, rfl, HDT, HB2⟩
      case measure => simp [intOf]; omega
    · obtain rfl : k = n := by omega
      have hk1 : ¬ (k : Int) < (k : Int) := by omega
      have hone := HG.out.one
      have hd := HD.out
      rw [List.take_of_length_le (by rw [HN.out]; exact Nat.le_refl _), hone] at hd
      subst hd
      go_wp2
      go_ret
      exact ⟨rfl, HB.out⟩
theorem tmay_nil (w : World) : Calls Tryd.prog 27 #[.slice none 0 0] w fun e w' => e = .returned (.bool false) ∧ w = w' := by
  go_enter Tryd.func27, Tryd.ntmps27
  go_wp2
  go_loopw [12, 3] (fun v12 v3 wx => v12 = .int .i64 0 ∧ v3 = .int .i64 0 ∧ w = wx) (fun _ _ _ => 0)
  case atStart => exact ⟨rfl, rfl, rfl⟩
  case round =>
    obtain ⟨rfl, rfl, rfl⟩ := hrel
    go_wp2
    go_ret
    exact ⟨rfl, rfl⟩
end Go.Proofs.YtookojgemipakaaDoor.Ty
