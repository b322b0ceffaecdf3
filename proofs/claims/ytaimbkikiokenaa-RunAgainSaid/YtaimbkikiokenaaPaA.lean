/- Elements in memory, read: what is next, what must not be there, which is the last. -/
import Derived.Test.YtaimbkikiokenaaTab
import Derived.Test.YtaimbkikiokenaaBits2
import Derived.Deep.DeepCutAuto
namespace Go.Proofs.Ytaimbkikiokenaa.Pa
open Go.RowKit Go.Proofs.Ytaimbkikiokenaa
set_option linter.unusedVariables false
set_option maxRecDepth 100000

structure ElV where
  v : ByteArray
  tA : Option Addr
  tn : Nat
  tc : Nat
  neg : Bool
  mn : Int
  mx : Int
  pA : Option Addr
  pn : Nat
  pc : Nat
def ElV.val (e : ElV) : Nat → Value
  | 0 => .string e.v
  | 1 => .slice e.tA e.tn e.tc
  | 2 => .bool e.neg
  | 3 => .int .i64 e.mn
  | 4 => .int .i64 e.mx
  | _ => .slice e.pA e.pn e.pc
/-- n elements from ⟨g, o⟩ on. -/
structure LE (w : World) (g o n : Nat) (E : Nat → ElV) : Prop where
  row : ∃ cs, Row w g 62 cs ∧ ∀ k, k < n → ∀ j, j < 6 → cs[o + k * 6 + j]? = some ((E k).val j)
section
variable {w w' : World} {g o n : Nat} {E : Nat → ElV}
theorem LE.cell (h : LE w g o n E) {k j : Nat} (hk : k < n) (hj : j < 6) : w.cell? ⟨g, o + k * 6 + j, none⟩ = some ((E k).val j) := by
  obtain ⟨cs, h1, h2⟩ := h.row
  exact (h1.cell _).trans (h2 k hk j hj)
theorem LE.neg (h : LE w g o n E) {k : Nat} (hk : k < n) : w.cell? ⟨g, o + k * 6 + 2, none⟩ = some (.bool (E k).neg) := h.cell hk (j := 2) (by omega)
theorem LE.free (h : LE w g o n E) (k : Nat) : w.frozen? ⟨g, k, none⟩ = false := by obtain ⟨cs, h1, _⟩ := h.row; exact h1.free k
theorem LE.lt (h : LE w g o n E) : g < w.heap.size := by obtain ⟨cs, h1, _⟩ := h.row; exact h1.lt
theorem LE.turns {S : Nat → Prop} (h : LE w g o n E) (t : Turns w w' S) (hs : ¬ S g) : LE w' g o n E := by obtain ⟨cs, h1, h2⟩ := h.row; exact ⟨cs, h1.turns t hs, h2⟩
theorem LE.call (h : LE w g o n E) (t : Below w.heap.size w w') : LE w' g o n E := h.turns (Turns.of_below t) (fun h => h)
theorem LE.alloc (h : LE w g o n E) (x : Obj) : LE (w.alloc x) g o n E := by obtain ⟨cs, h1, h2⟩ := h.row; exact ⟨cs, h1.alloc x, h2⟩
theorem LE.drew (h : LE w g o n E) : LE w.drew g o n E := h.row |> fun ⟨cs, h1, h2⟩ => ⟨cs, h1, h2⟩
theorem LE.drewN (h : LE w g o n E) (q : Nat) : LE (w.drewN q) g o n E := h.row |> fun ⟨cs, h1, h2⟩ => ⟨cs, h1, h2⟩
theorem LE.past (h : LE w g o n E) {p : Addr} (hp : g ≠ p.block) (u : Value) : LE (w.setCell p u) g o n E := by obtain ⟨cs, h1, h2⟩ := h.row; exact ⟨cs, h1.past hp u, h2⟩
theorem LE.congr {E' : Nat → ElV} (h : LE w g o n E) (he : ∀ k, k < n → E k = E' k) : LE w g o n E' := by obtain ⟨cs, h1, h2⟩ := h.row; exact ⟨cs, h1, fun k hk j hj => by rw [← he k hk]; exact h2 k hk j hj⟩
def setNeg (E : Nat → ElV) (k : Nat) (b : Bool) : Nat → ElV := fun i => if i = k then { E i with neg := b } else E i
theorem LE.put (h : LE w g o n E) {k : Nat} (hk : k < n) (b : Bool) : LE (w.setCell ⟨g, o + k * 6 + 2, none⟩ (.bool b)) g o n (setNeg E k b) := by
  obtain ⟨cs, h1, h2⟩ := h.row
  refine ⟨_, h1.put (o + k * 6 + 2) (.bool b), fun i hi j hj => ?_⟩
  have h3 := h2 i hi j hj
  rw [Array.getElem?_setIfInBounds]
  by_cases e : o + k * 6 + 2 = o + i * 6 + j
  · have e1 : i = k := by omega
    have e2 : j = 2 := by omega
    subst e1 e2
    rw [if_pos rfl, if_pos (Array.getElem?_eq_some_iff.1 h3).1]
    unfold setNeg; rw [if_pos rfl]; rfl
  · rw [if_neg e, h3]
    unfold setNeg
    by_cases e1 : i = k
    · rw [if_pos e1]
      have e2 : j ≠ 2 := by omega
      rcases (show j = 0 ∨ j = 1 ∨ j = 3 ∨ j = 4 ∨ j = 5 from by omega) with rfl | rfl | rfl | rfl | rfl <;> rfl
    · rw [if_neg e1]
end
section
variable (neg : Nat → Bool) (at' : Int)
/-- Of the first k, those behind a place must all not be there. -/
def opn : Nat → Bool
  | 0 => true
  | k + 1 => opn k && (decide ((k : Int) ≤ at') || neg k)
def bet : Nat → List Int
  | 0 => []
  | k + 1 => bet k ++ (if at' < (k : Int) ∧ neg k = true ∧ opn neg at' k = true then [(k : Int)] else [])
def nxt : Nat → Int
  | 0 => -1
  | k + 1 => if nxt k < 0 ∧ at' < (k : Int) ∧ neg k = false then (k : Int) else nxt k
def lst : Nat → Int
  | 0 => -1
  | k + 1 => if neg k = false then (k : Int) else lst k
theorem early (k : Nat) (h : ∀ j : Nat, j < k → (j : Int) ≤ at') : opn neg at' k = true ∧ bet neg at' k = [] ∧ nxt neg at' k = -1 := by
  induction k with
  | zero => exact ⟨rfl, rfl, rfl⟩
  | succ k ih =>
    obtain ⟨a, b, c⟩ := ih (fun j hj => h j (by omega))
    have := h k (by omega)
    refine ⟨?_, ?_, ?_⟩
    · simp only [opn, a, Bool.true_and, Bool.or_eq_true, decide_eq_true_eq]; exact .inl this
    · simp only [bet, b]; rw [if_neg (by omega)]; rfl
    · simp only [nxt, c]; rw [if_neg (by omega)]
theorem on_neg {k : Nat} (ha : at' < (k : Int)) (hn : neg k = true) (ho : opn neg at' k = true) (hx : nxt neg at' k = -1) :
    opn neg at' (k + 1) = true ∧ bet neg at' (k + 1) = bet neg at' k ++ [(k : Int)] ∧ nxt neg at' (k + 1) = -1 := by
  refine ⟨?_, ?_, ?_⟩
  · simp only [opn, ho, hn, Bool.or_true, Bool.and_true]
  · simp only [bet]; rw [if_pos ⟨ha, hn, ho⟩]
  · simp only [nxt, hx, hn]; simp
theorem shut {k : Nat} (ha : at' < (k : Int)) (hn : neg k = false) (hx : nxt neg at' k = -1) (m : Nat) (hm : k < m) : opn neg at' m = false ∧ bet neg at' m = bet neg at' k ∧ nxt neg at' m = k := by
  induction m with
  | zero => omega
  | succ m ih =>
    by_cases e : k = m
    · subst e
      refine ⟨?_, ?_, ?_⟩
      · simp only [opn, hn, Bool.or_false]
        rw [decide_eq_false (by omega), Bool.and_false]
      · simp only [bet]; rw [if_neg (by simp [hn])]; simp
      · simp only [nxt, hx]; rw [if_pos ⟨by omega, ha, hn⟩]
    · obtain ⟨a, b, c⟩ := ih (by omega)
      refine ⟨?_, ?_, ?_⟩
      · simp only [opn, a, Bool.false_and]
      · simp only [bet, b]; rw [if_neg (by simp [a])]; simp
      · simp only [nxt, c]; rw [if_neg (by omega)]
theorem nxt_lo : ∀ k : Nat, -1 ≤ nxt neg at' k ∧ nxt neg at' k < (k : Int)
  | 0 => by simp [nxt]
  | k + 1 => by have := nxt_lo k; simp only [nxt]; split <;> omega
theorem lst_lo : ∀ k : Nat, -1 ≤ lst neg k ∧ lst neg k < (k : Int)
  | 0 => by simp [lst]
  | k + 1 => by have := lst_lo k; simp only [lst]; split <;> omega
theorem bet_len : ∀ k : Nat, (bet neg at' k).length ≤ k
  | 0 => Nat.le_refl _
  | k + 1 => by have := bet_len k; simp only [bet, List.length_append]; split <;> simp <;> omega
theorem lst_at {k : Nat} (h : neg k = false) : lst neg (k + 1) = k := if_pos h
theorem lst_past {k : Nat} (h : neg k = true) : lst neg (k + 1) = lst neg k := if_neg (by simp [h])
end
/-- A list of ints of the call's own. -/
structure BI (w0 w : World) (v : Value) (L : List Int) : Prop where
  sg : ∃ ob, Seg w 3 1 v L.length (L.map (Value.int .i64)) ob ∧ ∀ g, ob = some g → w0.heap.size ≤ g
  be : Below w0.heap.size w0 w
theorem int_info : (Try.prog.info? 3).map (fun i => (i.zero, i.size, i.bytes)) = some (some (.int .i64 0), 1, 8) := by kernel_rfl
theorem one_newsI (w : World) (x : Value) (a : Nat) (ha : w.heap.size = a) : ∀ j u, [x][j]? = some u → (w.alloc (.cells #[x] 3)).cell? ((⟨a, 0, none⟩ : Addr).add j) = some u := by
  subst ha
  intro j u hj
  match j, hj with
  | 0, hj => simp at hj; subst hj; simp [Addr.add]
theorem BI.call {w0 w w' : World} {v : Value} {L : List Int} (h : BI w0 w v L) (hb : Below w.heap.size w w') : BI w0 w' v L := by
  obtain ⟨ob, h1, h2⟩ := h.sg
  exact ⟨⟨ob, h1.turns (Turns.of_below hb) (fun _ _ h => h), h2⟩, h.be.trans (hb.mono h.be.size)⟩
theorem BI.more {w0 w w2 : World} {v2 : Value} {L : List Int} {x : Int} {ob ob2 : Option Nat} (hob : ∀ g, ob = some g → w0.heap.size ≤ g) (hb : Below w0.heap.size w0 w)
    (hs : Seg w2 3 1 v2 (L.length + 1) (L.map (Value.int .i64) ++ [.int .i64 x]) ob2) (ht : Turns w w2 (fun k => ob = some k)) (ho : ob2 = ob ∨ ∃ g, ob2 = some g ∧ w.heap.size ≤ g) : BI w0 w2 v2 (L ++ [x]) := by
  have hz := hb.size
  refine ⟨⟨ob2, by simpa using hs, fun g hg => ?_⟩, ht.below hb hz (fun k hk e => ?_)⟩
  · rcases ho with h | ⟨g', h, h'⟩
    · exact hob g (by rw [← h, hg])
    · rw [h] at hg; injection hg with hg; omega
  · have := hob k e; omega
def behN (n : Nat) (at' : Int) : Nat := (min (max at' (-1)) n + 1).toNat
theorem behN_is (n : Nat) (at' : Int) : (at' < (n : Int) ∧ (behN n at' : Int) = max at' (-1) + 1 ∧ behN n at' ≤ n) ∨ ((n : Int) ≤ at' ∧ behN n at' = n + 1) := by unfold behN; omega
theorem behind_any (A : Option Addr) (n c : Nat) (win cap at' : Int) (w : World) (hn : n ≤ 1000) (ha : -9223372036854775808 ≤ at' ∧ at' ≤ 9223372036854775807) :
    Calls Try.prog 102 #[.agg #[.slice A n c, .int .i64 win, .int .i64 cap], .int .i64 at'] w fun e w' => e = .returned (.int .i64 (behN n at')) ∧ Below w.heap.size w w' := by
  rcases (show (at' < -1 ∧ behN n at' = 0) ∨ (-1 ≤ at' ∧ at' < (n : Int) ∧ (behN n at' : Int) = at' + 1) ∨ ((n : Int) ≤ at' ∧ behN n at' = n + 1) from by unfold behN; omega) with ⟨h, e⟩ | ⟨h, h', e⟩ | ⟨h, e⟩
  all_goals
    have HE := Lib.hid e
    clear e
    go_enter Try.func102, Try.ntmps102
    go_wp2
    all_goals
      go_ret
      exact ⟨ret_int (by have := HE.out; omega), by go_grown⟩
end Go.Proofs.Ytaimbkikiokenaa.Pa
