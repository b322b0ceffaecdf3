/- Numbers' bytes; what a writer and a reader hold. -/
import Derived.Test.YtpgacadnmekdhaaTab
import Derived.Test.YtpgacadnmekdhaaApp
import Derived.Test.YtpgacadnmekdhaaApp2
import Derived.Laws.BitsLemmas
import Derived.Laws.IdiomStrings
import Derived.Laws.BytesArg
namespace Go.Proofs.Ytpgacadnmekdhaa.Cd
open Go.RowKit Go.Proofs.Ytpgacadnmekdhaa
set_option linter.unusedVariables false
set_option maxRecDepth 100000
/-- A number's bytes. -/
def ub (n : Nat) : List UInt8 := if n < 128 then [UInt8.ofNat n] else UInt8.ofNat (n % 128 + 128) :: ub (n / 128)
termination_by n
decreasing_by omega
theorem ub_small {n : Nat} (h : n < 128) : ub n = [UInt8.ofNat n] := by rw [ub, if_pos h]
theorem ub_big {n : Nat} (h : ¬ n < 128) : ub n = UInt8.ofNat (n % 128 + 128) :: ub (n / 128) := by rw [ub, if_neg h]
theorem ub_len : ∀ (k n : Nat), n < 128 ^ (k + 1) → (ub n).length ≤ k + 1
  | 0, n, h => by
    rw [ub_small (by simpa using h)]
    simp
  | k + 1, n, h => by
    by_cases hs : n < 128
    · rw [ub_small hs]; simp
    · rw [ub_big hs, List.length_cons]
      have := ub_len k (n / 128) (by rw [Nat.div_lt_iff_lt_mul (by decide)]; rw [Nat.pow_succ] at h; exact h)
      omega
theorem ub_ten {n : Nat} (h : n < 18446744073709551616) : (ub n).length ≤ 10 := ub_len 9 n (Nat.lt_trans h (by decide))
theorem ub_pos (n : Nat) : 0 < (ub n).length := by
  rw [ub]
  split <;> simp
/-- A number with a sign. -/
def zig (n : Int) : Nat := if 0 ≤ n then (2 * n).toNat else (2 * (-1 - n) + 1).toNat
def tb (s : List UInt8) : List UInt8 := ub s.length ++ s
def rb (b : Bool) : List UInt8 := if b then [1] else [0]
def bc (b : UInt8) : Value := .int .u8 (b.toNat : Int)
def bcs (bs : List UInt8) : List Value := bs.map bc
theorem bcs_len (bs : List UInt8) : (bcs bs).length = bs.length := by simp [bcs]
theorem bcs_app (a b : List UInt8) : bcs (a ++ b) = bcs a ++ bcs b := by simp [bcs]
theorem bcs_get {bs : List UInt8} {i : Nat} {x : UInt8} (h : bs[i]? = some x) : (bcs bs)[i]? = some (bc x) := by simp [bcs, h]
theorem or128 (x : Int) (h : 0 ≤ x ∧ x < 256) : bits .or .u8 x 128 = x % 128 + 128 := by
  have key : ∀ n : Fin 256, bits .or .u8 (n.val : Int) 128 = (n.val : Int) % 128 + 128 := by decide
  have := key ⟨x.toNat, by omega⟩
  simpa [show ((x.toNat : Nat) : Int) = x by omega] using this
theorem not128 (x : Int) (h : 0 ≤ x ∧ x < 256) : bits .andNot .u8 x 128 = x % 128 := by
  have key : ∀ n : Fin 256, bits .andNot .u8 (n.val : Int) 128 = (n.val : Int) % 128 := by decide
  have := key ⟨x.toNat, by omega⟩
  simpa [show ((x.toNat : Nat) : Int) = x by omega] using this
theorem or_high (x y : Int) (k : Nat) (hx : 0 ≤ x ∧ x < 2 ^ k) (hy : 0 ≤ y ∧ y * 2 ^ k < 18446744073709551616) (hxk : x < 18446744073709551616) : bits .or .u64 x (y * 2 ^ k) = x + y * 2 ^ k := by
  have hpos : (0 : Int) < 2 ^ k := by
    have : (0 : Int) < ((2 ^ k : Nat) : Int) := by exact_mod_cast Nat.two_pow_pos k
    simpa using this
  have h0 : 0 ≤ y * 2 ^ k := Int.mul_nonneg hy.1 (Int.le_of_lt hpos)
  have hw : ∀ n : Int, 0 ≤ n → n < 2 ^ 64 → IntKind.u64.wrap n = n := fun n h₀ h₁ => by rw [IntKind.wrap_u64]; omega
  have hc : bits .or .u64 (y * 2 ^ k) x = y * 2 ^ k + x := bits_join .u64 64 (by decide) hw k (y * 2 ^ k) x h0 (Int.mul_emod_left _ _) (by simpa using hy.2) hx.1 hx.2 (by simpa using hxk)
  have hcomm : bits .or .u64 x (y * 2 ^ k) = bits .or .u64 (y * 2 ^ k) x := by simp [bits, BitVec.or_comm]
  rw [hcomm, hc, Int.add_comm]
theorem seg_row {w : World} {e : TypeId} {size n : Nat} {v : Value} {xs : List Value} {g : Nat} (h : Seg w e size v n xs (some g)) : ∃ c, Row w g e c := by
  obtain ⟨_, A, cap, _, _, _, ⟨_, h2, _⟩ | ⟨g', o, cur, _, h2, h3, _⟩⟩ := h
  · cases h2
  · cases h2; exact ⟨_, h3⟩
theorem row_ne {w : World} {b b' : Nat} {t t' : TypeId} {c c' : Array Value} (h : Row w b t c) (g : Row w b' t' c') (hn : t ≠ t') : b ≠ b' := by
  intro e
  subst e
  unfold Row at h g
  rw [h] at g
  cases g
  exact hn rfl
/-- A writer at b that holds bs. -/
structure Wr (w0 w : World) (b : Nat) (bs : List UInt8) : Prop where
  be : Below w0.heap.size w0 w
  ge : w0.heap.size ≤ b
  sl : ∃ v ob, Row w b 60 #[v] ∧ Seg w 5 1 v bs.length (bcs bs) ob ∧ ∀ g, ob = some g → w0.heap.size ≤ g
theorem Wr.call {w0 w w' : World} {b : Nat} {bs : List UInt8} (h : Wr w0 w b bs) (g : Below w.heap.size w w') : Wr w0 w' b bs := by
  obtain ⟨v, ob, h1, h2, h3⟩ := h.sl
  exact ⟨h.be.trans (g.mono h.be.size), h.ge, v, ob, h1.below g h1.lt, h2.turns (Turns.of_below g) (fun _ _ x => x), h3⟩
theorem Wr.drewN {w0 w : World} {b : Nat} {bs : List UInt8} (h : Wr w0 w b bs) (n : Nat) : Wr w0 (w.drewN n) b bs := h.call (below_drewN (Below.refl _ w) n)
/-- Bytes that lie somewhere. -/
def Lb (w : World) (A : Option Addr) (bs : List UInt8) : Prop := ∀ k x, bs[k]? = some x → ∃ g o, A = some ⟨g, o, none⟩ ∧ g < w.heap.size ∧ w.cell? ⟨g, o + k, none⟩ = some (bc x)
theorem Lb.call {w w' : World} {A : Option Addr} {bs : List UInt8} (h : Lb w A bs) (g : Below w.heap.size w w') : Lb w' A bs := fun k x hx => by
  obtain ⟨b, o, e, hl, hc⟩ := h k x hx
  exact ⟨b, o, e, Nat.lt_of_lt_of_le hl g.size, (g.cell (p := ⟨b, o + k, none⟩) hl).trans hc⟩
theorem Lb.nil (w : World) (A : Option Addr) : Lb w A [] := fun k x h => by simp at h
theorem Lb.lies {w : World} {A : Option Addr} {bs : List UInt8} (h : Lb w A bs) : Lies w w.heap.size A bs.length (fun k => bc (bs.getD k 0)) := fun k hk => by
  obtain ⟨g, o, e, hl, hc⟩ := h k bs[k] (List.getElem?_eq_getElem hk)
  exact ⟨g, o, e, hl, by rw [hc]; simp [List.getD, List.getElem?_eq_getElem hk]⟩
theorem range_bcs (bs : List UInt8) : (List.range bs.length).map (fun k => bc (bs.getD k 0)) = bcs bs := by
  apply List.ext_getElem?
  intro i
  rw [List.getElem?_map]
  by_cases h : i < bs.length
  · rw [List.getElem?_range h]
    simp [bcs, List.getD, List.getElem?_eq_getElem h]
  · rw [List.getElem?_eq_none (by simp; omega), List.getElem?_eq_none (by simp [bcs]; omega)]
    rfl
theorem bc_one (b : UInt8) : (bc b).oneCell' = true := rfl
theorem u8_info : (Try.prog.info? 5).map (fun i => (i.zero, i.size, i.bytes)) = some (some (.int .u8 0), 1, 1) := by kernel_rfl
theorem wpList_append_lies {P : Program} {e : TypeId} {v : Value} {n : Nat} {xs : List Value} {ob : Option Nat} {ops : Array Oper} {rest : List Oper} {o : Oper} {a : Act} {Q : Exit → Act → World → Prop} (w : World) (hgd : o.guard = none) (s x : Operand) (t : TypeId)
    (hop : o.op = .call { callee := .builtin .append, args := #[s, x], argTypes := #[t, t] })
    (i : TypeInfo) (z : Value) (bytes : Nat) (ht : P.underlying t = some (.slice e)) (hi : P.info? e = some i) (hz : i.zero = some z)
    (hsize : i.size = 1) (hby : i.bytes = bytes) (hzs : z.cells.size = 1) (hs : a.eval s = v) (h : Seg w e 1 v n xs ob)
    (B : Nat) (A : Option Addr) (m c : Nat) (f : Nat → Value) (hx : a.eval x = .slice A m c) (hl : Lies w B A m f) (h1 : ∀ k, (f k).oneCell' = true) (h63 : n + m ≤ maxLen) (hbytes : (n + m) * bytes ≤ 140737488355328)
    (hK : ∀ v' w' ob', Seg w' e 1 v' (n + m) (xs ++ (List.range m).map f) ob' → Turns w w' (fun k => ob = some k) → (ob' = ob ∨ ∃ g, ob' = some g ∧ w.heap.size ≤ g) → wpList P ops Q rest (a.put o.dst v') w') :
    wpList P ops Q (o :: rest) a w := by
  refine wpList_plain hgd fun K hK' => ?_
  obtain ⟨v', w', ob', hrun, r1, r2, r3⟩ := run_append_lies (P := P) t o.type i z bytes ht hi hz hsize hby hzs h B A m c f hl h1 h63 hbytes
  unfold Oper.wp
  simp [execOp, hop, resolve, invoke, builtin, hs, hx, hrun, Result.andThen]
  exact hK' _ _ (hK v' w' ob' r1 r2 r3)
end Go.Proofs.Ytpgacadnmekdhaa.Cd
