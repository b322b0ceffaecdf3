/- The numbers of calls; whether they rise. -/
import Derived.Test.YtpgacadnmekdhaaHiI
namespace Go.Proofs.Ytpgacadnmekdhaa.Hi
open Go.RowKit Go.Proofs.Ytpgacadnmekdhaa Go.Maps
set_option linter.unusedVariables false
set_option maxRecDepth 100000
def tks (xs : List Sp) : List Int := (xs.map (·.tick)).filter (fun t => decide (0 < t))
theorem tks_push (xs : List Sp) (x : Sp) : tks (xs ++ [x]) = tks xs ++ if 0 < x.tick then [x.tick] else [] := by
  unfold tks
  rw [List.map_append, List.filter_append]
  by_cases h : 0 < x.tick
  · simp [h]
  · simp [h]
def risB (L : List Int) : Bool := L.zipIdx.all (fun p => decide (p.1 = (p.2 : Int) + 1))
theorem risB_push (L : List Int) (t : Int) : risB (L ++ [t]) = (risB L && decide (t = (L.length : Int) + 1)) := by
  unfold risB
  rw [List.zipIdx_append, List.all_append]
  simp
theorem int64_info : (Try.prog.info? 2).map (fun i => (i.zero, i.size, i.bytes)) = some (some (.int .i64 0), 1, 8) := by kernel_rfl
/-- Numbers that a call has made. -/
structure Nm (w0 w : World) (v : Value) (L : List Int) : Prop where
  be : Below w0.heap.size w0 w
  sg : ∃ ob, Seg w 2 1 v L.length (L.map (Value.int .i64)) ob ∧ ∀ g, ob = some g → w0.heap.size ≤ g
theorem Nm.call {w0 w w' : World} {v : Value} {L : List Int} (h : Nm w0 w v L) (g : Below w.heap.size w w') : Nm w0 w' v L := by
  obtain ⟨ob, h1, h2⟩ := h.sg
  exact ⟨h.be.trans (g.mono h.be.size), ob, h1.turns (Turns.of_below g) (fun _ _ x => x), h2⟩
theorem Nm.alloc {w0 w : World} {v : Value} {L : List Int} (h : Nm w0 w v L) (x : Obj) : Nm w0 (w.alloc x) v L := h.call ((Below.refl _ w).alloc (Nat.le_refl _) x)
theorem Nm.push {w0 w w2 : World} {v2 : Value} {L : List Int} {x : Int} {ob ob2 : Option Nat} {o : Obj} (hb : Below w0.heap.size w0 w) (hob : ∀ g, ob = some g → w0.heap.size ≤ g)
    (hs : Seg w2 2 1 v2 (L.length + 1) (L.map (Value.int .i64) ++ [.int .i64 x]) ob2) (ht : Turns (w.alloc o) w2 (fun k => ob = some k)) (ho : ob2 = ob ∨ ∃ g, ob2 = some g ∧ (w.alloc o).heap.size ≤ g) : Nm w0 w2 v2 (L ++ [x]) := by
  have hz := hb.size
  refine ⟨ht.below (hb.alloc hz o) (by simp; omega) (fun k hk e => by have := hob k e; omega), ob2, by simpa using hs, fun g hg => ?_⟩
  rcases ho with rfl | ⟨g', rfl, hg'⟩
  · exact hob g hg
  · cases hg
    simp at hg'
    omega
theorem one_news64 (w : World) (x : Value) (a : Nat) (ha : w.heap.size = a) : ∀ j u, [x][j]? = some u → (w.alloc (.cells #[x] 2)).cell? ((⟨a, 0, none⟩ : Addr).add j) = some u := by
  subst ha
  intro j u hj
  match j, hj with
  | 0, hj => simp at hj; subst hj; simp [Addr.add]
/-- Spans that lie somewhere. -/
def Ls (w : World) (A : Option Addr) (xs : List Sp) : Prop := ∀ i x, xs[i]? = some x → ∃ g o, A = some ⟨g, o, none⟩ ∧ g < w.heap.size ∧ ∀ j u, x.cells[j]? = some u → w.cell? ⟨g, o + i * 13 + j, none⟩ = some u
theorem Ls.call {w w' : World} {A : Option Addr} {es : List Sp} (h : Ls w A es) (g : Below w.heap.size w w') : Ls w' A es := fun i e he => by
  obtain ⟨b, o, ea, hl, hc⟩ := h i e he
  exact ⟨b, o, ea, Nat.lt_of_lt_of_le hl g.size, fun j u hj => (g.cell (p := ⟨b, o + i * 13 + j, none⟩) hl).trans (hc j u hj)⟩
theorem ls_seg {w : World} {A : Option Addr} {n c : Nat} {xs : List Sp} {ob : Option Nat} (h : Seg w 43 13 (.slice A n c) n (scells xs) ob) (hn : n = xs.length) : Ls w A xs := fun i x hx => by
  have hi : i < xs.length := (List.getElem?_eq_some_iff.1 hx).1
  obtain ⟨g, o, cap, e, hob, _, _, hc, _⟩ := h.shape (by omega)
  injection e with e1 _ e3
  subst e1
  exact ⟨g, o, rfl, h.lt g hob, fun j u hj => by rw [Nat.add_assoc]; exact hc _ _ (scells_get xs i x j u hx hj)⟩
set_option maxHeartbeats 2000000 in
theorem tickets_any (A : Option Addr) (n c : Nat) (xs : List Sp) (w : World) (h : Ls w A xs) (hn : xs.length = n) (hnc : n ≤ c) (hc9 : c ≤ 9223372036854775807) (hn9 : n ≤ 1000) :
    Calls Try.prog 23 #[.slice A n c] w fun en w' => ∃ v, en = .returned v ∧ Nm w w' v (tks xs) := by
  obtain ⟨i0, hi0, hz0, hz1, hz2⟩ := info_parts int64_info
  have H := Lib.hid h
  have HN := Lib.hid hn
  clear h hn
  go_enter Try.func23, Try.ntmps23
  go_wp2
  go_loopw [8, 3, 5] (fun v8 v3 s5 wr => ∃ k : Nat, k ≤ n ∧ v8 = .int .i64 k ∧ Hid (Nm w wr v3 (tks (xs.take k)))) (fun v8 _ _ _ => n - (intOf v8).toNat)
  case atStart => exact ⟨0, by omega, rfl, Lib.hid ⟨Below.refl _ _, none, by simpa [tks] using Seg.nil w 2 1, fun g h => by cases h⟩⟩
  case round =>
    obtain ⟨k, hkn, rfl, hS⟩ := hrel
    have HS := Lib.hid hS.out
    clear hS
    by_cases hlt : k < n
    · have hki : (k : Int) < (n : Int) := by omega
      obtain ⟨x, hx⟩ : ∃ x, xs[k]? = some x := ⟨_, List.getElem?_eq_getElem (by rw [HN.out]; exact hlt)⟩
      obtain ⟨g, o, rfl, hg, hcl⟩ := (H.out.call HS.out.be) k x hx
      have htake : xs.take (k + 1) = xs.take k ++ [x] := by rw [List.take_add_one, hx]; rfl
      have hlen : (tks (xs.take k)).length ≤ k := by
        unfold tks
        exact Nat.le_trans (List.length_filter_le _ _) (by rw [List.length_map]; exact List.length_take_le _ _)
      obtain ⟨xc, xn, xcall, xturn, xreply, xerr, xtick⟩ := x
      have c0 := hcl 0 (.int .i64 xc) rfl
      have c1 := hcl 1 (.int .i64 xn) rfl
      have c2 := hcl 2 (.int .i64 xcall) rfl
      have c3 := hcl 3 (.int .i64 xturn) rfl
      have c4 := hcl 4 (.int .i64 xreply) rfl
      have c5 := hcl 5 (.int .i64 xerr) rfl
      have c6 := hcl 6 (.int .i64 xtick) rfl
      have c7 := hcl 7 (.int .i64 0) rfl
      have c8 := hcl 8 (.int .i64 0) rfl
      have c9 := hcl 9 (.int .i64 0) rfl
      have c10 := hcl 10 (.int .i64 0) rfl
      have c11 := hcl 11 (.int .i64 0) rfl
      have c12 := hcl 12 (.int .i64 0) rfl
      simp only [Nat.add_zero] at c0
      have hpush := tks_push (xs.take k) ⟨xc, xn, xcall, xturn, xreply, xerr, xtick⟩
      dsimp only at hpush
      obtain ⟨L, hL⟩ : ∃ L, tks (xs.take k) = L := ⟨_, rfl⟩
      rw [hL] at hpush hlen HS
      rw [← htake] at hpush
      have HP := Lib.hid hpush
      have HS2 := Lib.hid (HS.out.alloc (.cells #[.int .i64 xc, .int .i64 xn, .int .i64 xcall, .int .i64 xturn, .int .i64 xreply, .int .i64 xerr, .int .i64 xtick, .int .i64 0, .int .i64 0, .int .i64 0, .int .i64 0, .int .i64 0, .int .i64 0] 43))
      obtain ⟨ob, hsg, hobg⟩ := HS2.out.sg
      obtain ⟨vA, vc, rfl, _, _⟩ := hsg.form
      have HSG := Lib.hid hsg
      have HOB := Lib.hid hobg
      clear hcl hx htake hpush hL hsg hobg HS
      by_cases hpos : 0 < xtick
      · go_wp2_with (at_builtin; (refine wpList_append_seg _ rfl _ _ 36 rfl 2 i0 (.int .i64 0) 1 8 Try.underlying36 hi0 hz0 hz1 hz2 rfl (by decide) _ _ _ _ rfl (HSG.out.alloc _) ⟨wr.heap.size + 1, 0, none⟩ 1 1 [.int .i64 xtick] rfl rfl (one_news64 _ _ _ (by simp)) (by simp [Value.oneCell']) (by decide) (by unfold maxLen; omega) (by omega) ?_); intro v2 w3 ob2 hs2 ht2 ho2)
        have hQ : Nm w w3 v2 (L ++ [xtick]) := Nm.push HS2.out.be HOB.out hs2 ht2 ho2
        have HQ := Lib.hid hQ
        go_roundw
        case rel => exact ⟨k + 1, by omega, by go_num, by rw [HP.out, if_pos hpos]; exact HQ⟩
        case measure => simp [intOf]; omega
      · go_wp2
        go_roundw
        case rel => exact ⟨k + 1, by omega, by go_num, by rw [HP.out, if_neg hpos, List.append_nil]; exact HS2⟩
        case measure => simp [intOf]; omega
    · obtain rfl : k = n := by omega
      have hki : ¬ (k : Int) < (k : Int) := by omega
      have htake : xs.take k = xs := List.take_of_length_le (by rw [HN.out]; exact Nat.le_refl _)
      rw [htake] at HS
      clear htake
      go_wp2
      go_ret
      exact ⟨_, rfl, HS.out⟩
theorem rising_any (A : Option Addr) (n c : Nat) (L : List Int) (w : World) (h : Lies w w.heap.size A n (fun k => .int .i64 (L.getD k 0))) (hn : L.length = n) (hnc : n ≤ c) (hc9 : c ≤ 9223372036854775807) (hn9 : n ≤ 1000) :
    Calls Try.prog 25 #[.slice A n c] w fun en w' => en = .returned (.bool (risB L)) ∧ w = w' := by
  have H := Lib.hid h
  have HN := Lib.hid hn
  clear h hn
  go_enter Try.func25, Try.ntmps25
  go_wp2
  go_loopw [7, 3, 4] (fun v7 s3 s4 wr => ∃ k : Nat, k ≤ n ∧ v7 = .int .i64 k ∧ wr = w ∧ Hid (risB (L.take k) = true)) (fun v7 _ _ _ => n - (intOf v7).toNat)
  case atStart => exact ⟨0, by omega, rfl, rfl, Lib.hid rfl⟩
  case round =>
    obtain ⟨k, hkn, rfl, rfl, hS⟩ := hrel
    have HS := Lib.hid hS.out
    clear hS
    by_cases hlt : k < n
    · have hki : (k : Int) < (n : Int) := by omega
      obtain ⟨g, o, rfl, hg, hcl⟩ := H.out k hlt
      obtain ⟨x, hx⟩ : ∃ x, L[k]? = some x := ⟨_, List.getElem?_eq_getElem (by rw [HN.out]; exact hlt)⟩
      have hgd : L.getD k 0 = x := by simp [List.getD, hx]
      have hcx : wr.cell? ⟨g, o + k, none⟩ = some (.int .i64 x) := by rw [hcl]; dsimp only; rw [hgd]
      clear hcl
      have htake : L.take (k + 1) = L.take k ++ [x] := by rw [List.take_add_one, hx]; rfl
      have hr := risB_push (L.take k) x
      have hlk : (L.take k).length = k := by rw [List.length_take, HN.out]; omega
      rw [← htake, HS.out, hlk] at hr
      have HR := Lib.hid hr
      have HX := Lib.hid hx
      clear htake hr hlk hx hgd
      by_cases he : x = (k : Int) + 1
      · subst he
        go_wp2
        go_roundw
        case rel => exact ⟨k + 1, by omega, by go_num, by first | rfl | trivial, Lib.hid (by rw [HR.out]; simp)⟩
        case measure => simp [intOf]; omega
      · have he' : (x != (k : Int) + 1) = true := by simpa using he
        have hno : risB L = false := by
          have hd : L = L.take (k + 1) ++ L.drop (k + 1) := (List.take_append_drop _ _).symm
          rw [hd]
          unfold risB
          rw [List.zipIdx_append, List.all_append]
          have := HR.out
          unfold risB at this
          rw [this]
          simp [he]
        have HNO := Lib.hid hno
        clear hno
        go_wp2
        go_ret
        exact ⟨ret_bool HNO.out.symm, rfl⟩
    · obtain rfl : k = n := by omega
      have hki : ¬ (k : Int) < (k : Int) := by omega
      have htake : L.take k = L := List.take_of_length_le (by rw [HN.out]; exact Nat.le_refl _)
      rw [htake] at HS
      clear htake
      go_wp2
      go_ret
      exact ⟨ret_bool HS.out.symm, rfl⟩
end Go.Proofs.Ytpgacadnmekdhaa.Hi
