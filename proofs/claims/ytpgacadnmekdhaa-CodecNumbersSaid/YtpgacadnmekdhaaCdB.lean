/- A writer's calls. -/
import Derived.Test.YtpgacadnmekdhaaCdA
namespace Go.Proofs.Ytpgacadnmekdhaa.Cd
open Go.RowKit Go.Proofs.Ytpgacadnmekdhaa
set_option linter.unusedVariables false
set_option maxRecDepth 100000
theorem info_parts {p : Program} {t : TypeId} {z : Option Value} {s b : Nat} (h : (p.info? t).map (fun i => (i.zero, i.size, i.bytes)) = some (z, s, b)) : ∃ i, p.info? t = some i ∧ i.zero = z ∧ i.size = s ∧ i.bytes = b := by
  cases hi : p.info? t with
  | none => rw [hi] at h; cases h
  | some i =>
    rw [hi] at h
    simp at h
    exact ⟨i, rfl, h.1, h.2.1, h.2.2⟩
theorem put_any (w0 w : World) (b : Nat) (bs news : List UInt8) (h : Wr w0 w b bs) (A : Option Addr) (m c : Nat) (hm : news.length = m) (hl : Lb w A news) (hc : bs.length + m ≤ 1000000) :
    Calls Try.prog 96 #[.pointer (some ⟨b, 0, none⟩), .slice A m c] w fun e w' => e = .returned (.tuple #[]) ∧ Wr w0 w' b (bs ++ news) := by
  obtain ⟨v, ob, hr, hs, hg⟩ := h.sl
  obtain ⟨vA, vc, rfl, hv1, hv2⟩ := hs.form
  have c0 := (hr.cell 0).trans rfl
  have H := Lib.hid h
  have HR := Lib.hid hr
  have HS := Lib.hid hs
  have HG := Lib.hid hg
  have HL := Lib.hid hl.lies
  have HM := Lib.hid hm
  have hne : ob ≠ some b := fun e => by
    subst e
    obtain ⟨c, hr'⟩ := seg_row hs
    exact row_ne hr hr' (by decide) rfl
  have HNE := Lib.hid hne
  obtain ⟨i0, hi0, hz0, hz1, hz2⟩ := info_parts u8_info
  clear h hr hs hg hl hne hm
  go_enter Try.func96, Try.ntmps96
  go_wp2_with (at_builtin; refine wpList_append_lies _ rfl _ _ 58 rfl i0 (.int .u8 0) 1 Try.underlying58 hi0 hz0 hz1 hz2 rfl rfl HS.out _ A m c _ rfl (HM.out ▸ HL.out) (fun k => bc_one _) (by unfold maxLen; omega) (by omega) ?_; intro v2 w2 ob2 hs2 ht2 ho2; obtain ⟨A2, cap2, rfl, hn2, _⟩ := hs2.form; have r2 := HR.out.turns ht2 HNE.out; have d0 := (r2.cell 0).trans rfl; have f0 := r2.free 0)
  go_end0
  have hT : Turns w w2 (fun k => ob = some k) := ht2
  have hb2 : Below w0.heap.size w0 w2 := hT.below H.out.be H.out.be.size (fun k hk e => by have := HG.out k e; omega)
  have hg2 : ∀ g, ob2 = some g → w0.heap.size ≤ g := by
    intro g hg
    rcases ho2 with rfl | ⟨g', rfl, hg'⟩
    · exact HG.out g hg
    · cases hg; have := H.out.be.size; omega
  have hne2 : ob2 ≠ some b := fun e => by
    rcases ho2 with rfl | ⟨g', rfl, hg'⟩
    · exact HNE.out e
    · cases e; have := HR.out.lt; omega
  refine ⟨rfl, hb2.setCell (p := ⟨b, 0, none⟩) H.out.ge _, H.out.ge, _, ob2, by simpa using r2.put 0 (.slice A2 (bs.length + m) cap2), ?_, hg2⟩
  have hs3 := hs2.past (p := ⟨b, 0, none⟩) hne2 (.slice A2 (bs.length + m) cap2)
  rw [← HM.out, range_bcs, ← bcs_app] at hs3
  rw [List.length_append, ← HM.out]
  exact hs3
theorem lb_one {w : World} {x : UInt8} {u : Value} (h : u = bc x) : Lb (w.alloc (.cells #[u] 5)) (some ⟨w.heap.size, 0, none⟩) [x] := fun k y hk => by
  have hk0 : k = 0 := by
    have := (List.getElem?_eq_some_iff.1 hk).1
    simp at this
    omega
  subst hk0
  simp at hk
  subst hk h
  exact ⟨_, _, rfl, by simp, by simp⟩
theorem uint_any (w0 w : World) (b : Nat) (bs : List UInt8) (h : Wr w0 w b bs) (n : Nat) (hn : n < 18446744073709551616) (hc : bs.length + 10 ≤ 1000000) :
    Calls Try.prog 31 #[.pointer (some ⟨b, 0, none⟩), .int .u64 n] w fun e w' => e = .returned (.tuple #[]) ∧ Wr w0 w' b (bs ++ ub n) := by
  have H := Lib.hid h
  have h10 := ub_ten hn
  clear h
  go_enter Try.func31, Try.ntmps31
  go_wp2
  go_loopw [1] (fun v wr => ∃ (m : Nat) (pre : List UInt8), v = .int .u64 m ∧ m ≤ n ∧ Hid (pre ++ ub m = ub n ∧ Wr w0 wr b (bs ++ pre))) (fun v _ => (intOf v).toNat)
  case atStart => exact ⟨n, [], rfl, Nat.le_refl _, Lib.hid ⟨rfl, by simpa using H.out⟩⟩
  case round =>
    clear H
    obtain ⟨m, pre, rfl, hmn, hP⟩ := hrel
    have HP := Lib.hid hP.out
    clear hP
    by_cases hm : m < 128
    · have hm1 : ¬ (128 : Int) ≤ (m : Int) := by omega
      go_wp2_with fail
      have hu : (Value.int .u8 (m : Int)) = bc (UInt8.ofNat m) := by
        unfold bc
        congr 1
        simp
        omega
      have h1 := ub_small hm
      have hlen : (bs ++ pre).length + 1 ≤ 1000000 := by
        have := congrArg List.length HP.out.1
        rw [h1] at this
        simp at this ⊢
        omega
      refine (put_any w0 _ b (bs ++ pre) [UInt8.ofNat m] (HP.out.2.call ((Below.refl _ wr).alloc (Nat.le_refl _) _)) _ 1 1 rfl (lb_one hu) hlen).mono ?_
      rintro e w2 ⟨rfl, hw2⟩
      have hw3 : Wr w0 w2 b (bs ++ ub n) := by
        rw [← HP.out.1, h1, ← List.append_assoc]
        exact hw2
      go_wp2
      go_end0
      exact ⟨rfl, hw3⟩
    · have hm1 : (128 : Int) ≤ (m : Int) := by omega
      go_wp2_with fail
      have hb : bits .or .u8 ((m : Int) % 256) 128 = ((m % 128 + 128 : Nat) : Int) := by
        rw [or128 _ (by omega)]
        omega
      have hu : (Value.int .u8 (bits .or .u8 ((m : Int) % 256) 128)) = bc (UInt8.ofNat (m % 128 + 128)) := by
        rw [hb]
        unfold bc
        congr 1
        simp
        omega
      have h1 := ub_big hm
      have hlen : (bs ++ pre).length + 1 ≤ 1000000 := by
        have := congrArg List.length HP.out.1
        rw [h1] at this
        simp at this ⊢
        omega
      refine (put_any w0 _ b (bs ++ pre) [UInt8.ofNat (m % 128 + 128)] (HP.out.2.call ((Below.refl _ wr).alloc (Nat.le_refl _) _)) _ 1 1 rfl (lb_one hu) hlen).mono ?_
      rintro e w2 ⟨rfl, hw2⟩
      have HQ : Hid ((pre ++ [UInt8.ofNat (m % 128 + 128)]) ++ ub (m / 128) = ub n ∧ Wr w0 w2 b (bs ++ (pre ++ [UInt8.ofNat (m % 128 + 128)]))) := ⟨by
        rw [← HP.out.1, h1, List.append_assoc]
        rfl, by rw [← List.append_assoc]; exact hw2⟩
      clear hw2 hu hb h1 hlen HP
      go_wp2
      go_roundw
      case rel => exact ⟨m / 128, pre ++ [UInt8.ofNat (m % 128 + 128)], by go_num, by omega, HQ⟩
      case measure => simp [intOf]; omega
end Go.Proofs.Ytpgacadnmekdhaa.Cd
