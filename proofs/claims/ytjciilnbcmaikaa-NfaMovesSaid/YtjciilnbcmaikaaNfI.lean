/- Where beginnings may be, of a query that was made: all in one. -/
import Derived.Test.YtjciilnbcmaikaaNfH
namespace Go.Proofs.Ytjciilnbcmaikaa.Nf
open Go.RowKit Go.Proofs.Ytjciilnbcmaikaa Go.Proofs.Ytjciilnbcmaikaa.Pa Go.Proofs.Ytjciilnbcmaikaa.Pc
set_option linter.unusedVariables false
set_option maxRecDepth 100000

theorem nxt_ext {f g : Nat → Bool} (a : Int) : ∀ n, (∀ k, k < n → f k = g k) → nxt f a n = nxt g a n
  | 0, _ => rfl
  | n + 1, h => by simp only [nxt, nxt_ext a n (fun k hk => h k (by omega)), h n (by omega)]
theorem sts_ext {E E' : Nat → ElV} : ∀ n, (∀ k, k < n → Pc.Alike (E' k) (E k)) → sts E' n = sts E n
  | 0, _ => rfl
  | n + 1, h => by simp only [sts, sts_ext n (fun k hk => h k (by omega)), (h n (by omega)).2.1, (h n (by omega)).2.2.2.1, show elemS E' = elemS E from rfl]
theorem hasW_more (E : Nat → ElV) (n e : Nat) (x : Int) (he : e < n) (hn : (E e).neg = false) (hx : 0 ≤ x) : hasW (sts E n) ((e : Int), x + 1) = if x < (E e).mx then [((e : Int), x + 1)] else [] := by
  unfold hasW
  by_cases h : x < (E e).mx
  · rw [if_pos h, if_pos (mem_sts E e (x + 1) hn (by omega) (by omega) n he)]
  · rw [if_neg h, if_neg]
    intro hm
    rcases sts_mem E n _ hm with h1 | ⟨e', h1, h2, h3, h4, h5⟩
    · have := congrArg Prod.snd h1; simp at this; omega
    · have : e = e' := by have h2 : (e : Int) = (e' : Int) := h2; omega
      subst this
      have h5 : x + 1 ≤ (E e).mx := h5
      omega
theorem hasW_next (E : Nat → ElV) (n : Nat) (a : Int) (h0 : ∀ k, k < n → 1 ≤ (E k).mx) : hasW (sts E n) (nxt (negs E) a n, 1) = if 0 ≤ nxt (negs E) a n then [(nxt (negs E) a n, 1)] else [] := by
  unfold hasW
  rcases nxt_spec (negs E) a n with ⟨h, _⟩ | ⟨r, h, hr, _, hn, _⟩
  · rw [h, if_neg, if_neg (by omega)]
    intro hm
    rcases sts_mem E n _ hm with h1 | ⟨e', _, h2, _⟩
    · have := congrArg Prod.snd h1; simp at this
    · have h2 : (-1 : Int) = (e' : Int) := h2; omega
  · rw [h, if_pos (mem_sts E r 1 hn (by omega) (h0 r hr) n hr), if_pos (by omega)]
theorem first_next (E : Nat → ElV) (n : Nat) (h0 : (E 0).neg = false) (hn : 0 < n) : mvW E n (0, 0) 0 = if 0 < (E 0).mx then [(0, 1)] ++ (if (E 0).mn ≤ 0 ∧ 0 ≤ nxt (negs E) ((0 : Nat) : Int) n then [(nxt (negs E) ((0 : Nat) : Int) n, 1)] else []) else (if (E 0).mn ≤ 0 ∧ 0 ≤ nxt (negs E) ((0 : Nat) : Int) n then [(nxt (negs E) ((0 : Nat) : Int) n, 1)] else []) := by
  unfold mvW
  by_cases h : (0 : Int) < (E 0).mx
  · rw [if_pos h, if_pos h]; rfl
  · rw [if_neg h, if_neg h]; rfl
/-- What a query's elements keep to. -/
def Keeps (E : Nat → ElV) (n : Nat) : Prop := (E 0).neg = false ∧ ∀ k, k < n → 1 ≤ (E k).mn ∧ (E k).mn ≤ (E k).mx ∧ (E k).mx ≤ 3
/-- The moves behind whatever state, as the states and their elements say. -/
theorem moves_any (nb g o n c sg so sc : Nat) (win cap : Int) (E : Nat → ElV) (w : World) (h : NR w nb g o n c win cap E sg so sc (sts E n)) (hn : n ≤ 100) (h0 : 0 < n) (hE : Keeps E n) (k : Nat) (s : Int × Int) (hk : (sts E n)[k]? = some s) :
    ∃ (e x : Nat), s = ((e : Int), (x : Int)) ∧ e < n ∧ (E e).neg = false ∧ (x : Int) ≤ (E e).mx ∧
    Calls Try.prog 53 #[.pointer (some ⟨nb, 0, none⟩), .int .i64 k] w (MvR (sts E n) (mvW E n s e) w) := by
  obtain ⟨hn0, hA⟩ := hE
  rcases sts_mem E n s (List.mem_of_getElem? hk) with rfl | ⟨e, he, h1, h2, h3, h4⟩
  · refine ⟨0, 0, rfl, h0, hn0, by have := hA 0 h0; omega, ?_⟩
    have := moves_first nb g o n c sg so sc win cap E w h hn hn0 h0 (by have := hA 0 h0; omega) k 0 hk
    rw [show mvW E n (0, 0) 0 = [(0, 1)] from by
      have := hA 0 h0
      unfold mvW
      rw [if_pos (by show (0 : Int) < _; omega), if_neg (by intro hx; have := hx.1; have : (E 0).mn ≤ 0 := this; omega)]
      rfl]
    exact this
  · obtain ⟨a, b⟩ := s
    obtain rfl : a = (e : Int) := h1
    have h3 : 1 ≤ b := h3
    have h4 : b ≤ (E e).mx := h4
    have hk3 := hA e he
    obtain ⟨x, rfl⟩ : ∃ x : Nat, b = (x : Int) := ⟨b.toNat, by omega⟩
    refine ⟨e, x, rfl, he, h2, h4, ?_⟩
    have := moves_more nb g o n c sg so sc win cap E _ w h hn k e x hk he (by omega) (decide ((E e).mn ≤ (x : Int))) rfl
    rw [hasW_more E n e x he h2 (by omega), hasW_next E n e (fun k hk => by have := hA k hk; omega)] at this
    have hw : (if decide ((E e).mn ≤ (x : Int)) = true then (if 0 ≤ nxt (negs E) e n then [(nxt (negs E) e n, (1 : Int))] else []) else []) = (if (E e).mn ≤ (x : Int) ∧ 0 ≤ nxt (negs E) e n then [(nxt (negs E) e n, 1)] else []) := by
      by_cases z : (E e).mn ≤ (x : Int) <;> by_cases y : 0 ≤ nxt (negs E) e n <;> simp [z, y]
    rw [hw] at this
    exact this
end Go.Proofs.Ytjciilnbcmaikaa.Nf
