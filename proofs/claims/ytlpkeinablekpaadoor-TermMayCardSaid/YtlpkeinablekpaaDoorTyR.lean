/- Predicates of numbers, by picks. -/
import Derived.Test.YtlpkeinablekpaaDoorTyU
import Derived.Test.YtlpkeinablekpaaDoorOpen
import Derived.Deep.DeepCutAuto
import Derived.Deep.CutBlock
namespace Go.Proofs.YtlpkeinablekpaaDoor.Ty
open Go.RowKit Go.Proofs.YtlpkeinablekpaaDoor Go.Proofs.YtlpkeinablekpaaDoor.Sch
set_option linter.unusedVariables false
set_option maxRecDepth 100000
theorem node_info : (Tryd.prog.info? 25).map (fun i => (i.zero, i.size, i.bytes)) = some (some (.agg #[.int .i64 0, .int .i64 0, .int .i64 0, .string ByteArray.empty, .bool false, .string ByteArray.empty, .string ByteArray.empty]), 7, 80) := by kernel_rfl
theorem and65535 (n : Int) : bits .and .i64 n 65535 = n % 65536 := by
  have hm : (BitVec.ofInt 64 65535).toNat = 2 ^ 16 - 1 := by decide
  have key : (BitVec.ofInt 64 n &&& BitVec.ofInt 64 65535).toNat = (n % ((2 ^ 64 : Nat) : Int)).toNat % 2 ^ 16 := by
    rw [BitVec.toNat_and, BitVec.toNat_ofInt, hm, Nat.and_two_pow_sub_one_eq_mod]
  show IntKind.i64.wrap ((BitVec.ofInt 64 n &&& BitVec.ofInt 64 65535).toNat : Nat) = n % 65536
  rw [key, IntKind.wrap_i64]
  omega
/-- A list of parts that a call has made. -/
structure Gn (w w' : World) (v : Value) (L : List Nd) : Prop where
  ex : ∃ ob, Seg w' 25 7 v L.length (ncells L) ob ∧ ∀ g, ob = some g → w.heap.size ≤ g
  be : Below w.heap.size w w'
/-- It comes to a kind, whatever the variables stand for. -/
def PN (kd : Int) (B : Nat) (L : List Nd) : Prop := ∀ x y z, PL typesL (scN x y z) kd B L
def MadePost (w : World) (kd : Int) (B a M : Nat) (e : Ending) (w' : World) : Prop := ∃ v L, ∃ a' : Nat, e = .returned (.tuple #[v, .int .i64 a']) ∧ Gn w w' v L ∧ PN kd B L ∧ a' ≤ a + M
theorem pn_num (z : Int) (h : (z == -9223372036854775808) = false) (hi : -9223372036854775808 ≤ z ∧ z ≤ 9223372036854775807) : PN 1 1 [⟨1, 1, z, ⟨#[]⟩, false, ⟨#[]⟩, ⟨#[]⟩⟩] := fun _ _ _ => .leaf _ (.const (.num z h)) rfl (fun _ => rfl) hi
theorem vAt_name (i : Nat) : nameB (vAt i).data.toList = true := by
  unfold vAt
  split
  · rfl
  · split <;> rfl
theorem pn_field (i : Nat) (hi : i < 3) : PN 1 1 [⟨2, 0, 0, ⟨#[]⟩, false, vAt i, sx⟩] := fun x y z => .leaf _ (.field (vAt_name i) rfl) rfl (fun _ => by
  unfold partK
  dsimp only
  rw [if_neg (by decide), if_pos rfl]
  exact fieldN x y z i hi sx _ askx)
theorem run_append_zero {P : Program} {w : World} {e : TypeId} {size : Nat} {v : Value} {n : Nat} {xs : List Value} {ob : Option Nat} (t ty : TypeId) (i : TypeInfo) (ht : P.underlying t = some (.slice e)) (hi : P.info? e = some i) (h : Seg w e size v n xs ob) (A : Option Addr) (c : Nat) :
    (Builtin.append_ #[t, t] ty #[v, .slice A 0 c]).run P w = .ok v w := by
  obtain ⟨D, cap, rfl, hn, _⟩ := h.form
  cases A with
  | none => cases D <;> simp [Builtin.append_, run_underlying ht, sizeOf, typeInfo, hi, Builtin.lenOf, Builtin.firstCells, hn, storeCells]
  | some a =>
    have hf := run_firstCells_some (P := P) w i.size 0 a 0 c [] (by simp) (by simp)
    cases D <;> simp [Builtin.append_, run_underlying ht, sizeOf, typeInfo, hi, Builtin.lenOf, hf, hn, storeCells]
theorem run_append_both {P : Program} {w : World} {e : TypeId} {size : Nat} {v v2 : Value} {n m : Nat} {xs ys : List Value} {ob ob2 : Option Nat} (t ty : TypeId) (i : TypeInfo) (z : Value) (bytes : Nat) (ht : P.underlying t = some (.slice e)) (hi : P.info? e = some i) (hz : i.zero = some z)
    (hsize : i.size = size) (hby : i.bytes = bytes) (hzs : z.cells.size = size) (hsz : 0 < size) (h : Seg w e size v n xs ob) (h2 : Seg w e size v2 m ys ob2) (h1 : ∀ u ∈ ys, u.oneCell' = true) (h63 : n + m ≤ maxLen) (hbytes : (n + m) * bytes ≤ 140737488355328) :
    ∃ v' w' ob', (Builtin.append_ #[t, t] ty #[v, v2]).run P w = .ok v' w' ∧ Seg w' e size v' (n + m) (xs ++ ys) ob' ∧ Turns w w' (fun k => ob = some k) ∧ (ob' = ob ∨ ∃ g, ob' = some g ∧ w.heap.size ≤ g) := by
  rcases Nat.eq_zero_or_pos m with rfl | h0
  · obtain ⟨A, c, rfl, _⟩ := h2.form
    have : ys = [] := List.eq_nil_of_length_eq_zero (by rw [h2.1, Nat.zero_mul])
    subst this
    exact ⟨v, w, ob, run_append_zero t ty i ht hi h A c, by simpa using h, Turns.refl _ _, .inl rfl⟩
  · obtain ⟨g, o, c, rfl, _, _, _, hc, _⟩ := h2.shape h0
    exact run_append_seg t ty i z bytes ht hi hz hsize hby hzs hsz h ⟨g, o, none⟩ m c ys h2.1 (fun j u hj => by rw [Addr.add_lit]; exact hc j u hj) h1 h0 h63 hbytes
theorem wpList_append_both {P : Program} {w : World} {e : TypeId} {size : Nat} {v v2 : Value} {n m : Nat} {xs ys : List Value} {ob ob2 : Option Nat} {ops : Array Oper} {rest : List Oper} {o : Oper} {a : Act} {Q : Exit → Act → World → Prop} (hgd : o.guard = none) (s x : Operand) (t : TypeId)
    (hop : o.op = .call { callee := .builtin .append, args := #[s, x], argTypes := #[t, t] }) (i : TypeInfo) (z : Value) (bytes : Nat) (ht : P.underlying t = some (.slice e)) (hi : P.info? e = some i) (hz : i.zero = some z)
    (hsize : i.size = size) (hby : i.bytes = bytes) (hzs : z.cells.size = size) (hsz : 0 < size) (hs : a.eval s = v) (h : Seg w e size v n xs ob) (hx : a.eval x = v2) (h2 : Seg w e size v2 m ys ob2) (h1 : ∀ u ∈ ys, u.oneCell' = true) (h63 : n + m ≤ maxLen) (hbytes : (n + m) * bytes ≤ 140737488355328)
    (hK : ∀ v' w' ob', Seg w' e size v' (n + m) (xs ++ ys) ob' → Turns w w' (fun k => ob = some k) → (ob' = ob ∨ ∃ g, ob' = some g ∧ w.heap.size ≤ g) → wpList P ops Q rest (a.put o.dst v') w') :
    wpList P ops Q (o :: rest) a w := by
  refine wpList_plain hgd fun K hK' => ?_
  obtain ⟨v', w', ob', hrun, r1, r2, r3⟩ := run_append_both (P := P) t o.type i z bytes ht hi hz hsize hby hzs hsz h h2 h1 h63 hbytes
  unfold Oper.wp
  simp [execOp, hop, resolve, invoke, builtin, hs, hx, hrun, Result.andThen]
  exact hK' _ _ (hK v' w' ob' r1 r2 r3)
theorem ncells_one (l : List Nd) : ∀ u ∈ ncells l, u.oneCell' = true := by
  intro u hu
  obtain ⟨x, _, hx⟩ := List.mem_flatMap.1 hu
  simp [Nd.cells] at hx
  rcases hx with rfl | rfl | rfl | rfl | rfl | rfl | rfl <;> rfl
theorem news_nd (w : World) (nd : Nd) : ∀ j u, nd.cells[j]? = some u → (w.alloc (.cells nd.cells.toArray 25)).cell? ((⟨w.heap.size, 0, none⟩ : Addr).add j) = some u := fun j u hj => by
  rw [Addr.add_lit, Nat.zero_add, (Row.made w 25 nd.cells.toArray).cell]
  simpa using hj
theorem ncells_app (l r : List Nd) : ncells (l ++ r) = ncells l ++ ncells r := by simp [ncells]
theorem ncells_sing (nd : Nd) : ncells [nd] = nd.cells := by simp [ncells]
theorem gn_app {w w1 w5 : World} {ob o5 : Option Nat} {L : List Nd} {nd : Nd} {v : Value} (hb : Below w.heap.size w w1) (ho : ∀ g, ob = some g → w.heap.size ≤ g) (hs : Seg w5 25 7 v (L.length + 1) (ncells L ++ nd.cells) o5) (ht : Turns w1 w5 (fun k => ob = some k))
    (h5 : o5 = ob ∨ ∃ g, o5 = some g ∧ (w1.alloc (.cells nd.cells.toArray 25)).heap.size ≤ g) (hl : (L ++ [nd]).length = L.length + 1) : Gn w w5 v (L ++ [nd]) := by
  refine ⟨⟨o5, by rw [hl, ncells_app, ncells_sing]; exact hs, fun g e => ?_⟩, ht.below hb hb.size (fun k hk e => by have := ho k e; omega)⟩
  rcases h5 with h | ⟨g', h, hg'⟩
  · exact ho g (by rw [← h]; exact e)
  · rw [h] at e; injection e with e; subst e; simp at hg'; have := hb.size; omega
theorem gn_app2 {w w1 w5 : World} {ob o5 : Option Nat} {L R : List Nd} {nd : Nd} {v : Value} (hb : Below w.heap.size w w1) (ho : ∀ g, ob = some g → w.heap.size ≤ g) (hs : Seg w5 25 7 v (L.length + R.length + 1) ((ncells L ++ ncells R) ++ nd.cells) o5) (ht : Turns w1 w5 (fun k => ob = some k))
    (h5 : o5 = ob ∨ ∃ g, o5 = some g ∧ (w1.alloc (.cells nd.cells.toArray 25)).heap.size ≤ g) : Gn w w5 v ((L ++ R) ++ [nd]) :=
  gn_app hb ho (L := L ++ R) (by rw [List.length_append, ncells_app]; exact hs) ht h5 (by simp; omega)
theorem parts_add (i : Nat) (h : i < 3) : partsI (4 + (i : Int)) = 2 := by
  match i, h with
  | 0, _ => rfl
  | 1, _ => rfl
  | 2, _ => rfl
theorem opK_add (i : Nat) (h : i < 3) : opK (4 + (i : Int)) [1, 1] = (1, 0) := by
  match i, h with
  | 0, _ => rfl
  | 1, _ => rfl
  | 2, _ => rfl
theorem gn_row {w o : World} {g : Nat} {nd : Nd} (h : Row o g 25 nd.cells.toArray) (hg : w.heap.size ≤ g) (hb : Below w.heap.size w o) : Gn w o (.slice (some ⟨g, 0, none⟩) 1 1) [nd] := by
  refine ⟨⟨some g, ⟨rfl, _, 1, rfl, Nat.le_refl _, by unfold maxLen; omega, .inr ⟨g, 0, nd.cells.toArray, rfl, rfl, h, ?_, ?_⟩⟩, fun g' e => by injection e with e; omega⟩, hb⟩
  · show 0 + 1 * 7 ≤ _
    simp [Nd.cells]
  · simp [ncells, Nd.cells]
theorem rem6 (x : Nat) : ∃ r : Nat, (x : Int).tmod 6 = (r : Int) ∧ r < 6 := ⟨x % 6, by rw [Int.tmod_eq_emod_of_nonneg (by omega)]; omega, by omega⟩
theorem rem3 (x : Nat) : ∃ r : Nat, ((x : Int) / 16).tmod 3 = (r : Int) ∧ r < 3 := ⟨x / 16 % 3, by rw [Int.tmod_eq_emod_of_nonneg (by omega)]; omega, by omega⟩
theorem nm_cell (w : World) (i : Nat) (hi : i < 3) : (w.alloc (.cells #[.string ⟨#[97]⟩, .string ⟨#[98]⟩, .string ⟨#[99]⟩] 9)).cell? ⟨w.heap.size, i, none⟩ = some (.string (vAt i)) := by
  rw [(Row.made w 9 #[.string ⟨#[97]⟩, .string ⟨#[98]⟩, .string ⟨#[99]⟩]).cell i]
  match i, hi with
  | 0, _ => rfl
  | 1, _ => rfl
  | 2, _ => rfl
set_option maxHeartbeats 8000000 in
theorem number_any (A : Option Addr) (n c : Nat) (f : Nat → Int) (ln : n ≤ c) (lc : c ≤ 9223372036854775807) : ∀ (deep a : Nat) (w : World), a + 2 ^ (deep + 1) ≤ 1000000 → (∃ B, Lies w B A n (fun k => .int .i64 (f k)) ∧ B ≤ w.heap.size) →
    Calls Tryd.prog 39 #[.slice A n c, .int .i64 a, .int .i64 deep] w (MadePost w 1 (2 ^ (deep + 1) - 1) a (2 ^ (deep + 1) - 1)) := by
  intro deep
  induction deep with
  | zero =>
    intro a w ha ⟨B, hl, hB⟩
    have HL := Lib.hid hl
    clear hl
    go_enter Tryd.func39, Tryd.ntmps39
    go_upto_if 16 with fail
    go_cut [8] (fun s8 wx => ∃ x : Nat, s8 = .int .i64 x ∧ x < 65536 ∧ w = wx)
    case first =>
      by_cases han : a < n
      · obtain ⟨g, o, rfl, hg, hc⟩ := HL.out a han
        have hx : bits .and .i64 (f a) 65535 = (((f a % 65536).toNat : Nat) : Int) := by rw [and65535]; omega
        have hai : (a : Int) < (n : Int) := by omega
        go_wp2
        go_meet
        exact ⟨(f a % 65536).toNat, congrArg (Value.int .i64) (by omega), by omega, rfl⟩
      · go_wp2
        go_meet
        exact ⟨0, rfl, by omega, rfl⟩
    case rest =>
      obtain ⟨x, rfl, hx, rfl⟩ := hcut
      obtain ⟨r, hr, hr6⟩ := rem6 x
      obtain ⟨i3, hi3, hi33⟩ := rem3 x
      have hii : (i3 : Int) < 3 := by omega
      have hnm := nm_cell w i3 hi33
      obtain ⟨nm, hnm2⟩ : ∃ nm, vAt i3 = nm := ⟨_, rfl⟩
      rw [hnm2] at hnm
      have HNM := Lib.hid hnm2
      obtain ⟨z, hz, hz31⟩ : ∃ z : Nat, bits .and .i64 ((x : Int) / 16) 31 = (z : Int) ∧ z < 32 := ⟨(x / 16 % 32), by rw [and31]; omega, by omega⟩
      have ha2 : a < 1000000 := Nat.lt_of_lt_of_le (Nat.lt_add_of_pos_right (Nat.two_pow_pos _)) ha
      have hae : IntKind.i64.wrap ((a : Int) + 1) = ((a + 1 : Nat) : Int) := by rw [IntKind.wrap_i64]; omega
      have hpw := Nat.one_le_two_pow (n := 1)
      clear hnm2
      rcases (show r = 0 ∨ r = 1 ∨ r = 2 ∨ r = 3 ∨ r = 4 ∨ r = 5 from by omega) with rfl | rfl | rfl | rfl | rfl | rfl
      · have hr0 : (x : Int).tmod 6 = 0 := hr
        clear hr
        go_wp2
        go_ret2
        exact ⟨_, _, a + 1, rfl, gn_row (nd := ⟨1, 1, (z : Int) - 8, ⟨#[]⟩, false, ⟨#[]⟩, ⟨#[]⟩⟩) (Row.made w _ _) (Nat.le_refl _) ((Below.refl _ w).alloc (Nat.le_refl _) _), fun u v t => (pn_num _ (by simp; omega) (by omega) u v t).more (by omega), by omega⟩
      · have hr0 : (x : Int).tmod 6 = 1 := hr
        clear hr
        go_wp2
        go_ret2
        exact ⟨_, _, a + 1, rfl, gn_row (nd := ⟨2, 0, 0, ⟨#[]⟩, false, nm, sx⟩) (row_at (by simp) _ _) (by omega) (((Below.refl _ w).alloc (Nat.le_refl _) _).alloc (by simp) _), fun u v t => by rw [← HNM.out]; exact (pn_field i3 hi33 u v t).more (by omega), by omega⟩
      · have hr0 : (x : Int).tmod 6 = 2 := hr
        clear hr
        go_wp2
        go_ret2
        exact ⟨_, _, a + 1, rfl, gn_row (nd := ⟨2, 0, 0, ⟨#[]⟩, false, nm, sx⟩) (row_at (by simp) _ _) (by omega) (((Below.refl _ w).alloc (Nat.le_refl _) _).alloc (by simp) _), fun u v t => by rw [← HNM.out]; exact (pn_field i3 hi33 u v t).more (by omega), by omega⟩
      · have hr0 : (x : Int).tmod 6 = 3 := hr
        clear hr
        go_wp2
        go_ret2
        exact ⟨_, _, a + 1, rfl, gn_row (nd := ⟨2, 0, 0, ⟨#[]⟩, false, nm, sx⟩) (row_at (by simp) _ _) (by omega) (((Below.refl _ w).alloc (Nat.le_refl _) _).alloc (by simp) _), fun u v t => by rw [← HNM.out]; exact (pn_field i3 hi33 u v t).more (by omega), by omega⟩
      · have hr0 : (x : Int).tmod 6 = 4 := hr
        clear hr
        go_wp2
        go_ret2
        exact ⟨_, _, a + 1, rfl, gn_row (nd := ⟨2, 0, 0, ⟨#[]⟩, false, nm, sx⟩) (row_at (by simp) _ _) (by omega) (((Below.refl _ w).alloc (Nat.le_refl _) _).alloc (by simp) _), fun u v t => by rw [← HNM.out]; exact (pn_field i3 hi33 u v t).more (by omega), by omega⟩
      · have hr0 : (x : Int).tmod 6 = 5 := hr
        clear hr
        go_wp2
        go_ret2
        exact ⟨_, _, a + 1, rfl, gn_row (nd := ⟨2, 0, 0, ⟨#[]⟩, false, nm, sx⟩) (row_at (by simp) _ _) (by omega) (((Below.refl _ w).alloc (Nat.le_refl _) _).alloc (by simp) _), fun u v t => by rw [← HNM.out]; exact (pn_field i3 hi33 u v t).more (by omega), by omega⟩
  | succ deep ih =>
    intro a w ha ⟨B, hl, hB⟩
    have HL := Lib.hid hl
    have HLB : Hid (∃ B, Lies w B A n (fun k => .int .i64 (f k)) ∧ B ≤ w.heap.size) := Lib.hid ⟨B, hl, hB⟩
    have IH := Lib.hid ih
    clear hl ih
    go_enter Tryd.func39, Tryd.ntmps39
    go_upto_if 16 with fail
    go_cut [8] (fun s8 wx => ∃ x : Nat, s8 = .int .i64 x ∧ x < 65536 ∧ w = wx)
    case first =>
      by_cases han : a < n
      · obtain ⟨g, o, rfl, hg, hc⟩ := HL.out a han
        have hx : bits .and .i64 (f a) 65535 = (((f a % 65536).toNat : Nat) : Int) := by rw [and65535]; omega
        have hai : (a : Int) < (n : Int) := by omega
        go_wp2
        go_meet
        exact ⟨(f a % 65536).toNat, congrArg (Value.int .i64) (by omega), by omega, rfl⟩
      · go_wp2
        go_meet
        exact ⟨0, rfl, by omega, rfl⟩
    case rest =>
      obtain ⟨x, rfl, hx, rfl⟩ := hcut
      obtain ⟨r, hr, hr6⟩ := rem6 x
      obtain ⟨i3, hi3, hi33⟩ := rem3 x
      have hii : (i3 : Int) < 3 := by omega
      have hnm := nm_cell w i3 hi33
      obtain ⟨nm, hnm2⟩ : ∃ nm, vAt i3 = nm := ⟨_, rfl⟩
      rw [hnm2] at hnm
      have HNM := Lib.hid hnm2
      obtain ⟨z, hz, hz31⟩ : ∃ z : Nat, bits .and .i64 ((x : Int) / 16) 31 = (z : Int) ∧ z < 32 := ⟨(x / 16 % 32), by rw [and31]; omega, by omega⟩
      have ha2 : a < 1000000 := Nat.lt_of_lt_of_le (Nat.lt_add_of_pos_right (Nat.two_pow_pos _)) ha
      have hae : IntKind.i64.wrap ((a : Int) + 1) = ((a + 1 : Nat) : Int) := by rw [IntKind.wrap_i64]; omega
      have hpw := Nat.one_le_two_pow (n := deep + 1)
      clear hnm2
      have hp2 : 2 ^ (deep + 1 + 1) = 2 * 2 ^ (deep + 1) := by rw [Nat.pow_succ]; omega
      have hd0 : (((deep + 1 : Nat) : Int) == 0) = false := by simp; omega
      have hdl : deep < 2 ^ (deep + 1) := Nat.lt_of_lt_of_le (Nat.lt_succ_self _) (Nat.le_of_lt Nat.lt_two_pow_self)
      have hd1 : IntKind.i64.wrap (((deep + 1 : Nat) : Int) - 1) = (deep : Int) := by rw [IntKind.wrap_i64]; omega
      have hd2 : ((deep + 1 : Nat) : Int) - 1 = (deep : Int) := by omega
      have hca : ((a + 1 : Nat) : Int) = (a : Int) + 1 := by omega
      have h1 := IH.out (a + 1) w (by omega) HLB.out
      rw [hca] at h1
      have H1 := Lib.hid h1
      obtain ⟨i0, hi0, hz0, hz1, hz2⟩ := info_parts node_info
      clear h1
      rcases (show r = 0 ∨ r = 1 ∨ r = 2 ∨ r = 3 ∨ r = 4 ∨ r = 5 from by omega) with rfl | rfl | rfl | rfl | rfl | rfl
      · have hr0 : (x : Int).tmod 6 = 0 := hr
        clear hr
        go_wp2
        go_ret2
        exact ⟨_, _, a + 1, rfl, gn_row (nd := ⟨1, 1, (z : Int) - 8, ⟨#[]⟩, false, ⟨#[]⟩, ⟨#[]⟩⟩) (Row.made w _ _) (Nat.le_refl _) ((Below.refl _ w).alloc (Nat.le_refl _) _), fun u v t => (pn_num _ (by simp; omega) (by omega) u v t).more (by omega), by omega⟩
      · have hr0 : (x : Int).tmod 6 = 1 := hr
        clear hr
        go_wp2
        go_ret2
        exact ⟨_, _, a + 1, rfl, gn_row (nd := ⟨2, 0, 0, ⟨#[]⟩, false, nm, sx⟩) (row_at (by simp) _ _) (by omega) (((Below.refl _ w).alloc (Nat.le_refl _) _).alloc (by simp) _), fun u v t => by rw [← HNM.out]; exact (pn_field i3 hi33 u v t).more (by omega), by omega⟩
      · have hr0 : (x : Int).tmod 6 = 2 := hr
        clear hr
        go_wp2_with fail
        refine H1.out.mono ?_
        rintro e w1 ⟨v1, L1, a1, rfl, hg1, hp1, ha1⟩
        obtain ⟨ob1, hs1, hown1⟩ := hg1.ex
        have HS1 := Lib.hid hs1
        have HOW1 := Lib.hid hown1
        have HBE1 := Lib.hid hg1.be
        have HPN1 := Lib.hid hp1
        have hl1 : L1.length ≤ 2 ^ (deep + 1) - 1 := (hp1 0 0 0).len
        have HL1 := Lib.hid hl1
        have HA1 := Lib.hid ha1
        obtain ⟨A1, c1, rfl, _, _⟩ := hs1.form
        have h2 := IH.out a1 w1 (by omega) (by obtain ⟨B', hl', hB'⟩ := HLB.out; exact ⟨B', hl'.below (HBE1.out.mono hB'), Nat.le_trans hB' HBE1.out.size⟩)
        have H2 := Lib.hid h2
        clear hs1 hown1 hg1 hp1 hl1 ha1 h2
        go_wp2_with fail
        refine H2.out.mono ?_
        rintro e w2 ⟨v2, L2, a2, rfl, hg2, hp2', ha2'⟩
        obtain ⟨ob2, hs2, hown2⟩ := hg2.ex
        have HS2 := Lib.hid hs2
        have HBE2 := Lib.hid hg2.be
        have HPN2 := Lib.hid hp2'
        have hl2 : L2.length ≤ 2 ^ (deep + 1) - 1 := (hp2' 0 0 0).len
        have HL2 := Lib.hid hl2
        have HA2 := Lib.hid ha2'
        have HS12 := Lib.hid (HS1.out.turns (Turns.of_below hg2.be) (fun _ _ x => x))
        obtain ⟨A2, c2, rfl, _, _⟩ := hs2.form
        clear hs2 hown2 hg2 hp2' hl2 ha2'
        have H64 : Hid (2 ^ (deep + 1) ≤ 1000000) := Lib.hid (by omega)
        go_wp2_with (first
          | (at_builtin; refine wpList_append_both (n := L1.length) (m := L2.length) (xs := ncells L1) (ys := ncells L2) rfl _ _ 29 rfl i0 _ 80 Tryd.underlying29 hi0 hz0 hz1 hz2 rfl (by decide) rfl HS12.out rfl HS2.out (ncells_one _) (by have := HL1.out; have := HL2.out; have := H64.out; unfold maxLen; omega) (by have := HL1.out; have := HL2.out; have := H64.out; omega) ?_; intro v4 w4 o4 hs4 ht4 ho4
             have HS4 := Lib.hid hs4
             have HT4 := Lib.hid ht4
             have HO4 := Lib.hid ho4
             obtain ⟨A4, c4, rfl, _, _⟩ := hs4.form
             clear hs4 ht4 ho4
             go_frame)
          | (at_builtin; refine wpList_append_seg _ rfl _ _ 29 rfl 25 i0 _ 7 80 Tryd.underlying29 hi0 hz0 hz1 hz2 rfl (by decide) _ (L1.length + L2.length) (ncells L1 ++ ncells L2) o4 rfl (HS4.out.alloc _) ⟨w4.heap.size, 0, none⟩ 1 1 (opn (4 + (i3 : Int))).cells rfl rfl (news_nd w4 _) (by simp [opn, Nd.cells, Value.oneCell']) (by decide) (by have := HL1.out; have := HL2.out; have := H64.out; unfold maxLen; omega) (by have := HL1.out; have := HL2.out; have := H64.out; omega) ?_; intro v5 w5 o5 hs5 ht5 ho5
             have HS5 := Lib.hid hs5
             have HT5 := Lib.hid ht5
             have HO5 := Lib.hid ho5
             obtain ⟨A5, c5, rfl, _, _⟩ := hs5.form
             clear hs5 ht5 ho5
             go_frame))
        go_ret2
        have hb2 : Below w.heap.size w w2 := HBE1.out.trans (HBE2.out.mono HBE1.out.size)
        have hb4 : Below w.heap.size w w4 := HT4.out.below hb2 hb2.size (fun k hk e => by have := HOW1.out k e; omega)
        have ho4 : ∀ g, o4 = some g → w.heap.size ≤ g := fun g e => by
          rcases HO4.out with h | ⟨g', h, hg'⟩
          · exact HOW1.out g (by rw [← h]; exact e)
          · rw [h] at e; injection e with e; subst e; have := hb2.size; omega
        refine ⟨_, (L1 ++ L2) ++ [opn (4 + (i3 : Int))], a2, rfl, gn_app2 hb4 ho4 HS5.out ((((Turns.refl w4 (fun k => o4 = some k)).alloc _).trans HT5.out (fun _ _ e => e))) HO5.out, fun u v t => ((HPN1.out u v t).op2 (HPN2.out u v t) (4 + (i3 : Int)) (by omega) (by omega) (parts_add i3 hi33) (opK_add i3 hi33)).more (by omega), by have := HA1.out; have := HA2.out; omega⟩
      · have hr0 : (x : Int).tmod 6 = 3 := hr
        clear hr
        go_wp2_with fail
        refine H1.out.mono ?_
        rintro e w1 ⟨v1, L1, a1, rfl, hg1, hp1, ha1⟩
        obtain ⟨ob1, hs1, hown1⟩ := hg1.ex
        have HS1 := Lib.hid hs1
        have HOW1 := Lib.hid hown1
        have HBE1 := Lib.hid hg1.be
        have HPN1 := Lib.hid hp1
        have hl1 : L1.length ≤ 2 ^ (deep + 1) - 1 := (hp1 0 0 0).len
        have HL1 := Lib.hid hl1
        have HA1 := Lib.hid ha1
        obtain ⟨A1, c1, rfl, _, _⟩ := hs1.form
        have h2 := IH.out a1 w1 (by omega) (by obtain ⟨B', hl', hB'⟩ := HLB.out; exact ⟨B', hl'.below (HBE1.out.mono hB'), Nat.le_trans hB' HBE1.out.size⟩)
        have H2 := Lib.hid h2
        clear hs1 hown1 hg1 hp1 hl1 ha1 h2
        go_wp2_with fail
        refine H2.out.mono ?_
        rintro e w2 ⟨v2, L2, a2, rfl, hg2, hp2', ha2'⟩
        obtain ⟨ob2, hs2, hown2⟩ := hg2.ex
        have HS2 := Lib.hid hs2
        have HBE2 := Lib.hid hg2.be
        have HPN2 := Lib.hid hp2'
        have hl2 : L2.length ≤ 2 ^ (deep + 1) - 1 := (hp2' 0 0 0).len
        have HL2 := Lib.hid hl2
        have HA2 := Lib.hid ha2'
        have HS12 := Lib.hid (HS1.out.turns (Turns.of_below hg2.be) (fun _ _ x => x))
        obtain ⟨A2, c2, rfl, _, _⟩ := hs2.form
        clear hs2 hown2 hg2 hp2' hl2 ha2'
        have H64 : Hid (2 ^ (deep + 1) ≤ 1000000) := Lib.hid (by omega)
        go_wp2_with (first
          | (at_builtin; refine wpList_append_both (n := L1.length) (m := L2.length) (xs := ncells L1) (ys := ncells L2) rfl _ _ 29 rfl i0 _ 80 Tryd.underlying29 hi0 hz0 hz1 hz2 rfl (by decide) rfl HS12.out rfl HS2.out (ncells_one _) (by have := HL1.out; have := HL2.out; have := H64.out; unfold maxLen; omega) (by have := HL1.out; have := HL2.out; have := H64.out; omega) ?_; intro v4 w4 o4 hs4 ht4 ho4
             have HS4 := Lib.hid hs4
             have HT4 := Lib.hid ht4
             have HO4 := Lib.hid ho4
             obtain ⟨A4, c4, rfl, _, _⟩ := hs4.form
             clear hs4 ht4 ho4
             go_frame)
          | (at_builtin; refine wpList_append_seg _ rfl _ _ 29 rfl 25 i0 _ 7 80 Tryd.underlying29 hi0 hz0 hz1 hz2 rfl (by decide) _ (L1.length + L2.length) (ncells L1 ++ ncells L2) o4 rfl (HS4.out.alloc _) ⟨w4.heap.size, 0, none⟩ 1 1 (opn (4 + (i3 : Int))).cells rfl rfl (news_nd w4 _) (by simp [opn, Nd.cells, Value.oneCell']) (by decide) (by have := HL1.out; have := HL2.out; have := H64.out; unfold maxLen; omega) (by have := HL1.out; have := HL2.out; have := H64.out; omega) ?_; intro v5 w5 o5 hs5 ht5 ho5
             have HS5 := Lib.hid hs5
             have HT5 := Lib.hid ht5
             have HO5 := Lib.hid ho5
             obtain ⟨A5, c5, rfl, _, _⟩ := hs5.form
             clear hs5 ht5 ho5
             go_frame))
        go_ret2
        have hb2 : Below w.heap.size w w2 := HBE1.out.trans (HBE2.out.mono HBE1.out.size)
        have hb4 : Below w.heap.size w w4 := HT4.out.below hb2 hb2.size (fun k hk e => by have := HOW1.out k e; omega)
        have ho4 : ∀ g, o4 = some g → w.heap.size ≤ g := fun g e => by
          rcases HO4.out with h | ⟨g', h, hg'⟩
          · exact HOW1.out g (by rw [← h]; exact e)
          · rw [h] at e; injection e with e; subst e; have := hb2.size; omega
        refine ⟨_, (L1 ++ L2) ++ [opn (4 + (i3 : Int))], a2, rfl, gn_app2 hb4 ho4 HS5.out ((((Turns.refl w4 (fun k => o4 = some k)).alloc _).trans HT5.out (fun _ _ e => e))) HO5.out, fun u v t => ((HPN1.out u v t).op2 (HPN2.out u v t) (4 + (i3 : Int)) (by omega) (by omega) (parts_add i3 hi33) (opK_add i3 hi33)).more (by omega), by have := HA1.out; have := HA2.out; omega⟩
      · have hr0 : (x : Int).tmod 6 = 4 := hr
        clear hr
        go_wp2_with fail
        refine H1.out.mono ?_
        rintro e w1 ⟨v1, L1, a1, rfl, hg1, hp1, ha1⟩
        obtain ⟨ob1, hs1, hown1⟩ := hg1.ex
        have HS1 := Lib.hid hs1
        have HOW1 := Lib.hid hown1
        have HBE1 := Lib.hid hg1.be
        have HPN1 := Lib.hid hp1
        have hl1 : L1.length ≤ 2 ^ (deep + 1) - 1 := (hp1 0 0 0).len
        have HL1 := Lib.hid hl1
        have HA1 := Lib.hid ha1
        obtain ⟨A1, c1, rfl, _, _⟩ := hs1.form
        have h2 := IH.out a1 w1 (by omega) (by obtain ⟨B', hl', hB'⟩ := HLB.out; exact ⟨B', hl'.below (HBE1.out.mono hB'), Nat.le_trans hB' HBE1.out.size⟩)
        have H2 := Lib.hid h2
        clear hs1 hown1 hg1 hp1 hl1 ha1 h2
        go_wp2_with fail
        refine H2.out.mono ?_
        rintro e w2 ⟨v2, L2, a2, rfl, hg2, hp2', ha2'⟩
        obtain ⟨ob2, hs2, hown2⟩ := hg2.ex
        have HS2 := Lib.hid hs2
        have HBE2 := Lib.hid hg2.be
        have HPN2 := Lib.hid hp2'
        have hl2 : L2.length ≤ 2 ^ (deep + 1) - 1 := (hp2' 0 0 0).len
        have HL2 := Lib.hid hl2
        have HA2 := Lib.hid ha2'
        have HS12 := Lib.hid (HS1.out.turns (Turns.of_below hg2.be) (fun _ _ x => x))
        obtain ⟨A2, c2, rfl, _, _⟩ := hs2.form
        clear hs2 hown2 hg2 hp2' hl2 ha2'
        have H64 : Hid (2 ^ (deep + 1) ≤ 1000000) := Lib.hid (by omega)
        go_wp2_with (first
          | (at_builtin; refine wpList_append_both (n := L1.length) (m := L2.length) (xs := ncells L1) (ys := ncells L2) rfl _ _ 29 rfl i0 _ 80 Tryd.underlying29 hi0 hz0 hz1 hz2 rfl (by decide) rfl HS12.out rfl HS2.out (ncells_one _) (by have := HL1.out; have := HL2.out; have := H64.out; unfold maxLen; omega) (by have := HL1.out; have := HL2.out; have := H64.out; omega) ?_; intro v4 w4 o4 hs4 ht4 ho4
             have HS4 := Lib.hid hs4
             have HT4 := Lib.hid ht4
             have HO4 := Lib.hid ho4
             obtain ⟨A4, c4, rfl, _, _⟩ := hs4.form
             clear hs4 ht4 ho4
             go_frame)
          | (at_builtin; refine wpList_append_seg _ rfl _ _ 29 rfl 25 i0 _ 7 80 Tryd.underlying29 hi0 hz0 hz1 hz2 rfl (by decide) _ (L1.length + L2.length) (ncells L1 ++ ncells L2) o4 rfl (HS4.out.alloc _) ⟨w4.heap.size, 0, none⟩ 1 1 (opn (4 + (i3 : Int))).cells rfl rfl (news_nd w4 _) (by simp [opn, Nd.cells, Value.oneCell']) (by decide) (by have := HL1.out; have := HL2.out; have := H64.out; unfold maxLen; omega) (by have := HL1.out; have := HL2.out; have := H64.out; omega) ?_; intro v5 w5 o5 hs5 ht5 ho5
             have HS5 := Lib.hid hs5
             have HT5 := Lib.hid ht5
             have HO5 := Lib.hid ho5
             obtain ⟨A5, c5, rfl, _, _⟩ := hs5.form
             clear hs5 ht5 ho5
             go_frame))
        go_ret2
        have hb2 : Below w.heap.size w w2 := HBE1.out.trans (HBE2.out.mono HBE1.out.size)
        have hb4 : Below w.heap.size w w4 := HT4.out.below hb2 hb2.size (fun k hk e => by have := HOW1.out k e; omega)
        have ho4 : ∀ g, o4 = some g → w.heap.size ≤ g := fun g e => by
          rcases HO4.out with h | ⟨g', h, hg'⟩
          · exact HOW1.out g (by rw [← h]; exact e)
          · rw [h] at e; injection e with e; subst e; have := hb2.size; omega
        refine ⟨_, (L1 ++ L2) ++ [opn (4 + (i3 : Int))], a2, rfl, gn_app2 hb4 ho4 HS5.out ((((Turns.refl w4 (fun k => o4 = some k)).alloc _).trans HT5.out (fun _ _ e => e))) HO5.out, fun u v t => ((HPN1.out u v t).op2 (HPN2.out u v t) (4 + (i3 : Int)) (by omega) (by omega) (parts_add i3 hi33) (opK_add i3 hi33)).more (by omega), by have := HA1.out; have := HA2.out; omega⟩
      · have hr0 : (x : Int).tmod 6 = 5 := hr
        clear hr
        go_wp2_with fail
        refine H1.out.mono ?_
        rintro e w1 ⟨v1, L1, a1, rfl, hg1, hp1, ha1⟩
        obtain ⟨ob1, hs1, hown1⟩ := hg1.ex
        have HS1 := Lib.hid hs1
        have HOW1 := Lib.hid hown1
        have HBE1 := Lib.hid hg1.be
        have HPN1 := Lib.hid hp1
        have hl1 : L1.length ≤ 1000000 := by have := (hp1 0 0 0).len; omega
        have HL1 := Lib.hid hl1
        have HA1 := Lib.hid ha1
        obtain ⟨A1, c1, rfl, _, _⟩ := hs1.form
        clear hs1 hown1 hg1 hp1 hl1 ha1
        go_wp2_with (at_builtin; refine wpList_append_seg _ rfl _ _ 29 rfl 25 i0 _ 7 80 Tryd.underlying29 hi0 hz0 hz1 hz2 rfl (by decide) _ L1.length (ncells L1) ob1 rfl (HS1.out.alloc _) ⟨w1.heap.size, 0, none⟩ 1 1 (opn 3).cells rfl rfl (news_nd w1 _) (by simp [opn, Nd.cells, Value.oneCell']) (by decide) (by have := HL1.out; unfold maxLen; omega) (by have := HL1.out; omega) ?_; intro v5 w5 o5 hs5 ht5 ho5; obtain ⟨A5, c5, rfl, _, _⟩ := hs5.form; go_frame)
        go_ret2
        refine ⟨_, L1 ++ [opn 3], a1, rfl, gn_app HBE1.out HOW1.out hs5 ((((Turns.refl w1 (fun k => ob1 = some k)).alloc _).trans ht5 (fun _ _ e => e))) ho5 (by simp), fun u v t => ((HPN1.out u v t).op1 3 (by decide) (by decide) rfl rfl).more (by omega), by have := HA1.out; omega⟩
end Go.Proofs.YtlpkeinablekpaaDoor.Ty
