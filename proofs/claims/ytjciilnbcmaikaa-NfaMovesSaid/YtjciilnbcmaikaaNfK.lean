/- Where beginnings may be: a number that is one, or the first that is none. -/
import Derived.Test.YtjciilnbcmaikaaNfJ
namespace Go.Proofs.Ytjciilnbcmaikaa.Nf
open Go.RowKit Go.Proofs.Ytjciilnbcmaikaa Go.Proofs.Ytjciilnbcmaikaa.Pa Go.Proofs.Ytjciilnbcmaikaa.Pc Go.Proofs.Ytjciilnbcmaikaa.Pq
set_option linter.unusedVariables false
set_option maxRecDepth 100000

def Atd (L : List (Int × Int)) (k : Nat) (a b : Int) (ok : Bool) : Prop := (ok = true ∧ L[k]? = some (a, b)) ∨ (ok = false ∧ L.length ≤ k ∧ a = 0 ∧ b = 0)
theorem moves_none (nb g o n c sg so sc : Nat) (win cap : Int) (E : Nat → ElV) (L : List (Int × Int)) (w : World) (h : NR w nb g o n c win cap E sg so sc L) (k : Nat) (hk : L.length ≤ k) :
    Calls Try.prog 53 #[.pointer (some ⟨nb, 0, none⟩), .int .i64 k] w (MvR L [] w) := by
  have H := Lib.hid h
  have hki : (L.length : Int) ≤ (k : Int) := by omega
  clear h
  go_enter Try.func53, Try.ntmps53
  go_wp2_with fail
  refine (at_no nb g o n c sg so sc win cap E L _ H.out k hki).mono ?_
  rintro e w1 ⟨rfl, hb⟩
  go_wp2
  go_ret
  exact ⟨_, [], rfl, BI.nil (hb.alloc hb.size _), Nums.nil L⟩
section
variable (nb g o n c sg so sc : Nat) (win cap : Int) (E : Nat → ElV) (L : List (Int × Int)) (w : World) (h : NR w nb g o n c win cap E sg so sc L)
include h
theorem len_is (N : Nat) (hN : L.length = N) : Calls Try.prog 51 #[.pointer (some ⟨nb, 0, none⟩)] w fun e w' => e = .returned (.int .i64 N) ∧ w = w' := by
  subst hN
  exact len_any nb g o n c sg so sc win cap E L w h
theorem at_any (k : Nat) : Calls Try.prog 52 #[.pointer (some ⟨nb, 0, none⟩), .int .i64 k] w fun e w' => ∃ a b ok, e = .returned (.tuple #[.agg #[.int .i64 a, .int .i64 b], .bool ok]) ∧ Atd L k a b ok ∧ Below w.heap.size w w' := by
  by_cases hk : k < L.length
  · have h0 : L[k]? = some L[k] := List.getElem?_eq_getElem hk
    refine (at_yes nb g o n c sg so sc win cap E L w h k _ h0).mono ?_
    rintro e w' ⟨rfl, hb⟩
    exact ⟨_, _, _, rfl, .inl ⟨rfl, h0⟩, hb⟩
  · refine (at_no nb g o n c sg so sc win cap E L w h k (by omega)).mono ?_
    rintro e w' ⟨rfl, hb⟩
    exact ⟨_, _, _, rfl, .inr ⟨rfl, by omega, rfl, rfl⟩, hb⟩
end
theorem mv_spec (nb g o n c sg so sc : Nat) (win cap : Int) (E : Nat → ElV) (hn : n ≤ 100) (h0 : 0 < n) (hE : Keeps E n) (k : Nat) (a b : Int) (ok : Bool) (ha : Atd (sts E n) k a b ok) :
    ∃ W, (∀ w, NR w nb g o n c win cap E sg so sc (sts E n) → Calls Try.prog 53 #[.pointer (some ⟨nb, 0, none⟩), .int .i64 k] w (MvR (sts E n) W w)) ∧
      W.length ≤ 2 ∧ (ok = false → W = []) ∧ (ok = true → ∃ e x : Nat, a = e ∧ b = x ∧ e < n ∧ (E e).neg = false ∧ (x : Int) ≤ (E e).mx ∧ W = mvW E n (a, b) e) := by
  rcases ha with ⟨rfl, hk⟩ | ⟨rfl, hk, rfl, rfl⟩
  · obtain ⟨hn0, hA⟩ := hE
    have key : ∃ e x : Nat, (a, b) = ((e : Int), (x : Int)) ∧ e < n ∧ (E e).neg = false ∧ (x : Int) ≤ (E e).mx := by
      rcases sts_mem E n _ (List.mem_of_getElem? hk) with h | ⟨e, he, h1, h2, h3, h4⟩
      · exact ⟨0, 0, h, h0, hn0, by have := hA 0 h0; omega⟩
      · have h1 : a = (e : Int) := h1
        have h3 : 1 ≤ b := h3
        have h4 : b ≤ (E e).mx := h4
        exact ⟨e, b.toNat, by rw [h1, Int.toNat_of_nonneg (by omega)], he, h2, by rw [Int.toNat_of_nonneg (by omega)]; exact h4⟩
    obtain ⟨e, x, hs, he, hne, hx⟩ := key
    refine ⟨mvW E n (a, b) e, fun w h => ?_, ?_, (fun x => by cases x), fun _ => ⟨e, x, congrArg Prod.fst hs, congrArg Prod.snd hs, he, hne, hx, rfl⟩⟩
    · obtain ⟨e', x', hs', _, _, _, hm⟩ := moves_any nb g o n c sg so sc win cap E w h hn h0 ⟨hn0, hA⟩ k (a, b) hk
      obtain rfl : e' = e := by rw [hs] at hs'; have := congrArg Prod.fst hs'; simp at this; omega
      exact hm
    · unfold mvW
      rw [List.length_append]
      split <;> split <;> simp
  · exact ⟨[], fun w h => moves_none nb g o n c sg so sc win cap E _ w h k hk, by simp, fun _ => rfl, fun x => by cases x⟩
/-- The law between its steps: the query, where beginnings may be. -/
structure LawI (w0 w : World) (qv g o n c : Nat) (win cap : Int) (E E' : Nat → ElV) (nb gg oo cc sg so sc : Nat) : Prop where
  pi : PI w0 w qv g o n c win cap E
  nr : NR w nb gg oo n cc win cap E' sg so sc (sts E' n)
theorem LawI.call {w0 w w' : World} {qv g o n c : Nat} {win cap : Int} {E E' : Nat → ElV} {nb gg oo cc sg so sc : Nat} (h : LawI w0 w qv g o n c win cap E E' nb gg oo cc sg so sc) (hb : Below w.heap.size w w') : LawI w0 w' qv g o n c win cap E E' nb gg oo cc sg so sc := ⟨h.pi.call hb, h.nr.call hb⟩
/-- A list of states of one's own. -/
structure WI (w0 w : World) (v : Value) (W : List (Int × Int)) : Prop where
  sg : ∃ ob, Seg w 90 2 v W.length (stC W) ob ∧ ∀ g, ob = some g → w0.heap.size ≤ g
  be : Below w0.heap.size w0 w
theorem WI.call {w0 w w' : World} {v : Value} {W : List (Int × Int)} (h : WI w0 w v W) (hb : Below w.heap.size w w') : WI w0 w' v W := by
  obtain ⟨ob, h1, h2⟩ := h.sg
  exact ⟨⟨ob, h1.turns (Turns.of_below hb) (fun _ _ h => h), h2⟩, h.be.trans (hb.mono h.be.size)⟩
theorem WI.more {w0 w w2 : World} {v2 : Value} {W : List (Int × Int)} {s : Int × Int} {ob ob2 : Option Nat} (hob : ∀ g, ob = some g → w0.heap.size ≤ g) (hb : Below w0.heap.size w0 w)
    (hs : Seg w2 90 2 v2 (W.length + 1) (stC W ++ [.int .i64 s.1, .int .i64 s.2]) ob2) (ht : Turns w w2 (fun k => ob = some k)) (ho : ob2 = ob ∨ ∃ g, ob2 = some g ∧ w.heap.size ≤ g) : WI w0 w2 v2 (W ++ [s]) := by
  have hz := hb.size
  refine ⟨⟨ob2, ?_, fun g hg => ?_⟩, ht.below hb hz (fun k hk e => ?_)⟩
  · rw [List.length_append]
    simp only [stC, List.flatMap_append] at hs ⊢
    simpa using hs
  · rcases ho with h | ⟨g', h, h'⟩
    · exact hob g (by rw [← h, hg])
    · rw [h] at hg; injection hg with hg; omega
  · have := hob k e; omega
theorem nxt_is (f : Nat → Bool) (e j n : Nat) (he : e < j) (hj : j < n) (hf : f j = false) (hb : ∀ i, e < i → i < j → f i = true) : nxt f e n = j := by
  rcases nxt_spec f e n with ⟨_, h⟩ | ⟨r, h, hr, ha, hn, hx⟩
  · have := h j hj (by omega); rw [hf] at this; cases this
  · rcases Nat.lt_trichotomy r j with h2 | h2 | h2
    · have := hb r (by omega) h2; rw [hn] at this; cases this
    · rw [h, h2]
    · have := hx j h2 (by omega); rw [hf] at this; cases this
theorem nxt_not (f : Nat → Bool) (e n : Nat) (hb : ∀ i, e < i → i < n → f i = true) : nxt f e n = -1 := by
  rcases nxt_spec f e n with ⟨h, _⟩ | ⟨r, h, hr, ha, hn, hx⟩
  · exact h
  · have := hb r (by omega) hr; rw [hn] at this; cases this
theorem WI.lies {w0 w : World} {v : Value} {W : List (Int × Int)} (h : WI w0 w v W) : ∃ A c, v = .slice A W.length c ∧ ∀ j s, W[j]? = some s → ∃ g o, A = some ⟨g, o, none⟩ ∧ g < w.heap.size ∧ w.cell? ⟨g, o + j * 2, none⟩ = some (.int .i64 s.1) ∧ w.cell? ⟨g, o + j * 2 + 1, none⟩ = some (.int .i64 s.2) := by
  obtain ⟨ob, hs, _⟩ := h.sg
  obtain ⟨A, c, rfl, _, _⟩ := hs.form
  refine ⟨A, c, rfl, fun j s hj => ?_⟩
  obtain ⟨g, o, cap, hv, hg, _, _, hc, _⟩ := hs.shape (by have := (List.getElem?_eq_some_iff.1 hj).1; omega)
  injection hv with e1 _ _
  obtain ⟨a, b⟩ := stC_at W j s hj
  exact ⟨g, o, e1, hs.lt g hg, hc _ _ a, by rw [Nat.add_assoc]; exact hc _ _ b⟩
end Go.Proofs.Ytjciilnbcmaikaa.Nf
