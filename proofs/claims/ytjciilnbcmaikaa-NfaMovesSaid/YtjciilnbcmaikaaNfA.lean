/- Where beginnings may be: the states, in memory. -/
import Derived.Test.YtjciilnbcmaikaaPcC
import Derived.Test.YtjciilnbcmaikaaPaB
namespace Go.Proofs.Ytjciilnbcmaikaa.Nf
open Go.RowKit Go.Proofs.Ytjciilnbcmaikaa Go.Proofs.Ytjciilnbcmaikaa.Pa Go.Proofs.Ytjciilnbcmaikaa.Pc
set_option linter.unusedVariables false
set_option maxRecDepth 100000

def elemS (E : Nat → ElV) (k : Nat) (m : Nat) : List (Int × Int) := (List.range m).map fun (c : Nat) => ((k : Int), (c : Int) + 1)
def sts (E : Nat → ElV) : Nat → List (Int × Int)
  | 0 => [(0, 0)]
  | k + 1 => sts E k ++ (if (E k).neg then [] else elemS E k (E k).mx.toNat)
theorem elemS_len (E : Nat → ElV) (k m : Nat) : (elemS E k m).length = m := by simp [elemS]
theorem elemS_succ (E : Nat → ElV) (k m : Nat) : elemS E k (m + 1) = elemS E k m ++ [((k : Int), (m : Int) + 1)] := by simp [elemS, List.range_succ]
theorem sts_len (E : Nat → ElV) (n : Nat) (h : ∀ k, k < n → (E k).mx ≤ 4) : ∀ k, k ≤ n → 1 ≤ (sts E k).length ∧ (sts E k).length ≤ 1 + 4 * k
  | 0, _ => by simp [sts]
  | k + 1, hk => by
    have h1 := sts_len E n h k (by omega)
    have h2 := h k (by omega)
    simp only [sts, List.length_append]
    split
    · simp; omega
    · rw [elemS_len]; omega
theorem sts_skip (E : Nat → ElV) (a : Nat) : ∀ b, a ≤ b → (∀ j, a ≤ j → j < b → (E j).neg = true) → sts E b = sts E a
  | 0, h, _ => by obtain rfl : a = 0 := by omega
                  rfl
  | b + 1, h, hn => by
    by_cases e : a = b + 1
    · rw [e]
    · simp only [sts, hn b (by omega) (by omega)]
      simp only [if_true, List.append_nil]
      exact sts_skip E a b (by omega) (fun j h1 h2 => hn j h1 (by omega))
theorem nxt_spec (neg : Nat → Bool) (a : Int) : ∀ n, (nxt neg a n = -1 ∧ ∀ j : Nat, j < n → a < (j : Int) → neg j = true) ∨ ∃ r : Nat, nxt neg a n = r ∧ r < n ∧ a < (r : Int) ∧ neg r = false ∧ ∀ j : Nat, j < r → a < (j : Int) → neg j = true
  | 0 => .inl ⟨rfl, fun j h => by omega⟩
  | n + 1 => by
    rcases nxt_spec neg a n with ⟨h, hj⟩ | ⟨r, h, hr, ha, hn, hj⟩
    · by_cases e : a < (n : Int) ∧ neg n = false
      · refine .inr ⟨n, ?_, by omega, e.1, e.2, hj⟩
        simp only [nxt, h]; rw [if_pos ⟨by omega, e⟩]
      · refine .inl ⟨?_, fun j hjn haj => ?_⟩
        · simp only [nxt, h]; rw [if_neg (fun x => e x.2)]
        · by_cases e2 : j = n
          · subst e2
            cases hx : neg j with
            | true => rfl
            | false => exact absurd ⟨haj, hx⟩ e
          · exact hj j (by omega) haj
    · refine .inr ⟨r, ?_, by omega, ha, hn, hj⟩
      simp only [nxt, h]; rw [if_neg (by omega)]
def stC (L : List (Int × Int)) : List Value := L.flatMap fun s => [.int .i64 s.1, .int .i64 s.2]
theorem stC_len (L : List (Int × Int)) : (stC L).length = L.length * 2 := by
  induction L with
  | nil => rfl
  | cons a L ih => simp only [stC, List.flatMap_cons, List.length_append, List.length_cons] at ih ⊢; rw [ih]; simp; omega
theorem stC_at (L : List (Int × Int)) (k : Nat) (s : Int × Int) (h : L[k]? = some s) : (stC L)[k * 2]? = some (.int .i64 s.1) ∧ (stC L)[k * 2 + 1]? = some (.int .i64 s.2) := by
  induction L generalizing k with
  | nil => simp at h
  | cons a L ih =>
    cases k with
    | zero => simp at h; subst h; exact ⟨rfl, rfl⟩
    | succ k =>
      have := ih k (by simpa using h)
      simp only [stC, List.flatMap_cons] at this ⊢
      rw [show (k + 1) * 2 = k * 2 + 2 from by omega, show k * 2 + 2 + 1 = k * 2 + 1 + 2 from by omega]
      exact this
/-- Where beginnings may be, at nb: a query of its own, and the states. -/
structure NF (w0 w : World) (nb g o n c : Nat) (win cap : Int) (E : Nat → ElV) (v : Value) (L : List (Int × Int)) : Prop where
  row : Row w nb 163 #[.slice (some ⟨g, o, none⟩) n c, .int .i64 win, .int .i64 cap, v]
  le : LE w g o n E
  sg : ∃ ob, Seg w 90 2 v L.length (stC L) ob ∧ ∀ b, ob = some b → w0.heap.size ≤ b ∧ b ≠ nb ∧ b ≠ g
  be : Below w0.heap.size w0 w
  ge : w0.heap.size ≤ nb ∧ w0.heap.size ≤ g ∧ nb ≠ g
section
variable {w0 w w' : World} {nb g o n c : Nat} {win cap : Int} {E : Nat → ElV} {v : Value} {L : List (Int × Int)}
theorem NF.call (h : NF w0 w nb g o n c win cap E v L) (t : Below w.heap.size w w') : NF w0 w' nb g o n c win cap E v L := by
  obtain ⟨ob, h1, h2⟩ := h.sg
  exact ⟨h.row.below t h.row.lt, h.le.call t, ⟨ob, h1.turns (Turns.of_below t) (fun _ _ x => x), h2⟩, h.be.trans (t.mono h.be.size), h.ge⟩
theorem NF.more (h : NF w0 w nb g o n c win cap E v L) {wx w2 : World} {ob ob2 : Option Nat} {v2 : Value} {s : Int × Int} (hob : ∀ b, ob = some b → w0.heap.size ≤ b ∧ b ≠ nb ∧ b ≠ g) (hx : Below w.heap.size w wx)
    (hs : Seg w2 90 2 v2 (L.length + 1) (stC L ++ [.int .i64 s.1, .int .i64 s.2]) ob2) (ht : Turns wx w2 (fun k => ob = some k)) (ho : ob2 = ob ∨ ∃ b, ob2 = some b ∧ wx.heap.size ≤ b) :
    NF w0 (w2.setCell ⟨nb, 3, none⟩ v2) nb g o n c win cap E v2 (L ++ [s]) := by
  have h1 := h.call hx
  have z := h.be.size
  have z2 := hx.size
  have zr := h.row.lt
  have zl := h.le.lt
  have ob2ge : ∀ b, ob2 = some b → w0.heap.size ≤ b ∧ b ≠ nb ∧ b ≠ g := fun b hb => by
    rcases ho with x | ⟨b', x, y⟩
    · exact hob b (by rw [← x, hb])
    · rw [x] at hb; injection hb with hb; omega
  have tt : Turns w2 (w2.setCell ⟨nb, 3, none⟩ v2) (fun k => k = nb) := (Turns.refl w2 _).put nb 3 v2 (fun _ => rfl)
  refine ⟨(h1.row.turns ht (fun x => (hob nb x).2.1 rfl)).put 3 v2, (h1.le.turns ht (fun x => (hob g x).2.2 rfl)).turns tt (fun x => h.ge.2.2 x.symm), ⟨ob2, ?_, ob2ge⟩, ((ht.below h1.be h1.be.size (fun k hk x => by have := hob k x; omega))).setCell (p := ⟨nb, 3, none⟩) h.ge.1 _, h.ge⟩
  have := hs.turns tt (fun b hb x => (ob2ge b hb).2.1 x)
  rw [List.length_append]
  simp only [stC, List.flatMap_append] at this ⊢
  simpa using this
end
theorem state_info : (Try.prog.info? 90).map (fun i => (i.zero, i.size, i.bytes)) = some (some (.agg #[.int .i64 0, .int .i64 0]), 2, 16) := by kernel_rfl
theorem two_news (w : World) (a0 a1 : Value) (a : Nat) (ha : w.heap.size = a) : ∀ j u, [a0, a1][j]? = some u → (w.alloc (.cells #[a0, a1] 90)).cell? ((⟨a, 0, none⟩ : Addr).add j) = some u := by
  subst ha
  intro j u hj
  rw [show ((⟨w.heap.size, 0, none⟩ : Addr).add j) = ⟨w.heap.size, j, none⟩ from by simp [Addr.add]; omega]
  exact ((Row.made w 90 #[a0, a1]).cell j).trans (by simpa using hj)
end Go.Proofs.Ytjciilnbcmaikaa.Nf
