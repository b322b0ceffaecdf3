/- slices.Clone of texts; pat.Scope. -/
import Derived.Test.YtopbildpeojgoaaCkA
import Derived.Test.YtopbildpeojgoaaTab
import Derived.WalkSpells
import Derived.Deep.RegionLaw
import Derived.Deep.Cut
import Derived.Deep.DeepCutAuto
namespace Go.Proofs.Ytopbildpeojgoaa.Ck
open Go.RowKit Go.Proofs.Ytopbildpeojgoaa Go.Proofs.Ytopbildpeojgoaa.Sch Go.Proofs.Ytopbildpeojgoaa.Ty
set_option linter.unusedVariables false
set_option maxRecDepth 100000
/-- Texts in blocks of P. -/
def SLp (w : World) (P : Nat → Prop) (v : Value) (L : List ByteArray) : Prop :=
  ∃ A c, v = .slice A L.length c ∧ L.length ≤ c ∧ c ≤ 9223372036854775807 ∧ ∀ k (h : k < L.length), ∃ g o, A = some ⟨g, o, none⟩ ∧ P g ∧ g < w.heap.size ∧ w.cell? ⟨g, o + k, none⟩ = some (.string L[k])
theorem SLp.turns {w w' : World} {P P' S : Nat → Prop} {v : Value} {L : List ByteArray} (h : SLp w P v L) (t : Turns w w' S) (hs : ∀ g, g < w.heap.size → P g → ¬ S g ∧ P' g) : SLp w' P' v L := by
  obtain ⟨A, c, rfl, h1, h2, h3⟩ := h
  refine ⟨A, c, rfl, h1, h2, fun k hk => ?_⟩
  obtain ⟨g, o, e, hp, hl, hc⟩ := h3 k hk
  refine ⟨g, o, e, (hs g hl hp).2, Nat.lt_of_lt_of_le hl t.size, ?_⟩
  rw [← hc]
  unfold World.cell?
  rw [t.block g hl (hs g hl hp).1]
theorem SLp.sl {w : World} {P : Nat → Prop} {v : Value} {L : List ByteArray} (h : SLp w P v L) : SL w w.heap.size v L := by
  obtain ⟨A, c, rfl, h1, h2, h3⟩ := h
  refine ⟨A, c, rfl, h1, h2, fun k hk => ?_⟩
  obtain ⟨g, o, e, hp, hl, hc⟩ := h3 k hk
  exact ⟨g, o, e, hl, hc⟩
theorem slp_seg {w : World} {v : Value} {L : List ByteArray} {ob : Option Nat} {P : Nat → Prop} (h : Seg w 9 1 v L.length (L.map Value.string) ob) (hp : ∀ g, ob = some g → P g) : SLp w P v L := by
  obtain ⟨A, c', rfl, h1, h2⟩ := h.form
  refine ⟨_, _, rfl, h1, by unfold maxLen at h2; omega, fun k hk => ?_⟩
  obtain ⟨g, o, cap, e, ho, _, _, hc, _⟩ := h.shape (by omega)
  injection e with e1 e2 e3
  subst e1
  exact ⟨g, o, rfl, hp g ho, h.lt g ho, hc k _ (by simp [hk])⟩
theorem str_info : (Try.prog.info? 9).map (fun i => (i.zero, i.size, i.bytes)) = some (some (.string ⟨#[]⟩), 1, 16) := by kernel_rfl
theorem seg_zeroK (w : World) (e : TypeId) (K : Nat) (A : Option Addr) : Seg w e K (.slice A 0 0) 0 [] none := ⟨by simp, _, 0, rfl, Nat.le_refl _, by unfold maxLen; omega, .inl ⟨rfl, rfl, fun _ => trivial⟩⟩
set_option maxHeartbeats 1000000 in
theorem clone_any (v : Value) (L : List ByteArray) (w : World) (h : SL w w.heap.size v L) (hn : 0 < L.length) (hm : L.length ≤ 1000) :
    Calls Try.prog 100 #[v] w fun e w' => ∃ v', e = .returned v' ∧ SLp w' (fun g => w.heap.size ≤ g) v' L ∧ Below w.heap.size w w' := by
  obtain ⟨A, c, rfl, h1, h2, h3⟩ := h
  obtain ⟨g, o, rfl, hg, hc0⟩ := h3 0 hn
  have q := fun wx => Lib.run_eql_slice_nil (P := Try.prog) wx 71 9 (some ⟨g, o, none⟩) L.length c 0 0 Try.underlying71
  obtain ⟨i0, hi0, hz0, hz1, hz2⟩ := info_parts str_info
  have hnews : ∀ (x : Obj) j u, (L.map Value.string)[j]? = some u → (w.alloc x).cell? ((⟨g, o, none⟩ : Addr).add j) = some u := fun x j u hj => by
    rw [List.getElem?_map] at hj
    obtain ⟨y, hy, rfl⟩ := Option.map_eq_some_iff.1 hj
    obtain ⟨hjl, rfl⟩ := List.getElem?_eq_some_iff.1 hy
    obtain ⟨g', o', e, _, hc⟩ := h3 j hjl
    injection e with e
    injection e with e1 e2
    subst e1 e2
    rw [show ((⟨g, o, none⟩ : Addr).add j) = ⟨g, o + j, none⟩ from by simp [Addr.add]]
    exact Lib.cell?_alloc_some _ hc
  have HNW := Lib.hid hnews
  clear h3 hnews hc0
  go_enter Try.func100, Try.ntmps100
  go_wp2_with (at_builtin; refine wpList_append_seg _ rfl _ _ 71 rfl 9 i0 _ 1 16 Try.underlying71 hi0 hz0 hz1 hz2 rfl (by decide) _ 0 [] none rfl (seg_zeroK _ _ _ _) ⟨g, o, none⟩ L.length c (L.map Value.string) rfl (by simp) (HNW.out _) (by intro u hu; obtain ⟨y, _, rfl⟩ := List.mem_map.1 hu; rfl) hn (by unfold maxLen; omega) (by omega) ?_; intro v2 w2 ob2 hs2 ht2 ho2; have HS3 := Lib.hid hs2; have HT3 := Lib.hid ht2; have HO3 := Lib.hid ho2; clear hs2 ht2 ho2; go_frame)
  go_ret
  have hs := HS3.out
  rw [Nat.zero_add, List.nil_append] at hs
  refine ⟨_, rfl, slp_seg hs (fun g' e => ?_), ?_⟩
  · rcases HO3.out with h | ⟨g2, h, hg2⟩
    · rw [h] at e; cases e
    · rw [h] at e; injection e with e; simp at hg2; omega
  · exact HT3.out.below ((Below.refl _ w).alloc (Nat.le_refl _) _) (by simp) (fun k hk e => by cases e)
/-- What a variable stands for, in memory. -/
structure Sb where
  n : ByteArray
  tv : Value
  L : List ByteArray
def Sb.cells (p : Sb) : List Value := [.string p.n, p.tv]
def pcells (ps : List Sb) : List Value := ps.flatMap Sb.cells
def binds (ps : List Sb) : List Bd := ps.map fun p => (p.n, p.L)
theorem pcells_len (ps : List Sb) : (pcells ps).length = ps.length * 2 := by
  induction ps with
  | nil => rfl
  | cons p ps ih => unfold pcells at ih ⊢; rw [List.flatMap_cons, List.length_append, ih, List.length_cons]; simp [Sb.cells]; omega
theorem pcells_get (ps : List Sb) : ∀ (k : Nat) (h : k < ps.length) (j : Nat) (u : Value), (ps[k].cells)[j]? = some u → (pcells ps)[k * 2 + j]? = some u := by
  induction ps with
  | nil => intro k h; simp at h
  | cons p ps ih =>
    intro k h j u hj
    unfold pcells
    rw [List.flatMap_cons]
    cases k with
    | zero =>
      have hl : j < p.cells.length := (List.getElem?_eq_some_iff.1 hj).1
      rw [Nat.zero_mul, Nat.zero_add, List.getElem?_append_left hl]
      exact hj
    | succ k =>
      rw [List.getElem?_append_right (by simp [Sb.cells]; omega)]
      have e : (k + 1) * 2 + j - p.cells.length = k * 2 + j := by simp [Sb.cells]; omega
      rw [e]
      exact ih k (by simpa using h) j u hj
def SPo (w0 w : World) (v : Value) (ps : List Sb) (ob : Option Nat) : Prop := Seg w 75 2 v ps.length (pcells ps) ob ∧ (∀ g, ob = some g → w0.heap.size ≤ g) ∧ (∀ p ∈ ps, SLp w (fun g => w0.heap.size ≤ g ∧ ob ≠ some g) p.tv p.L) ∧ Below w0.heap.size w0 w
def SP (w0 w : World) (v : Value) (ps : List Sb) : Prop := ∃ ob, SPo w0 w v ps ob
theorem SPo.call {w0 w w' : World} {v : Value} {ps : List Sb} {ob : Option Nat} (h : SPo w0 w v ps ob) (hb : Below w.heap.size w w') : SPo w0 w' v ps ob :=
  ⟨h.1.turns (Turns.of_below hb) (fun _ _ x => x), h.2.1, fun p hp => (h.2.2.1 p hp).turns (Turns.of_below hb) (fun g _ x => ⟨fun x => x, x⟩), h.2.2.2.trans (hb.mono h.2.2.2.size)⟩
theorem SP.bs {w0 w : World} {v : Value} {ps : List Sb} (h : SP w0 w v ps) : Bs w w.heap.size v (binds ps) := by
  obtain ⟨ob, hs, _, hl, _⟩ := h
  obtain ⟨A, c', rfl, h1, h2⟩ := hs.form
  have hlen : (binds ps).length = ps.length := by simp [binds]
  refine ⟨_, c', by rw [hlen], by rw [hlen]; exact h1, by unfold maxLen at h2; omega, fun k hk => ?_⟩
  have hk' : k < ps.length := by rw [← hlen]; exact hk
  obtain ⟨g, o, cap, e, ho, _, _, hc, _⟩ := hs.shape (by omega)
  injection e with e1 e2 e3
  subst e1
  have e0 : (binds ps)[k] = (ps[k].n, ps[k].L) := by simp [binds]
  rw [e0]
  have c0 := hc _ _ (pcells_get ps k hk' 0 _ rfl)
  have c1 := hc _ _ (pcells_get ps k hk' 1 _ rfl)
  exact ⟨g, o, ps[k].tv, rfl, hs.lt g ho, by simpa using c0, by rw [Nat.add_assoc]; exact c1, (hl _ (List.getElem_mem hk')).sl⟩
theorem step_append_seg {P : Program} {e : TypeId} {v : Value} {n size : Nat} {xs : List Value} {ob : Option Nat} {ops : Array Oper} {o : Oper} {a : Act} {K : Act → World → Prop} {Q : Exit → Act → World → Prop} {E : Prop} (w : World) (hgd : o.guard = none) (s x : Operand) (t : TypeId)
    (hop : o.op = .call { callee := .builtin .append, args := #[s, x], argTypes := #[t, t] })
    (i : TypeInfo) (z : Value) (bytes : Nat) (ht : P.underlying t = some (.slice e)) (hi : P.info? e = some i) (hz : i.zero = some z)
    (hsize : i.size = size) (hby : i.bytes = bytes) (hzs : z.cells.size = size) (hsz : 0 < size) (hs : a.eval s = v) (h : Seg w e size v n xs ob)
    (ad : Addr) (m c : Nat) (news : List Value) (hx : a.eval x = .slice (some ad) m c) (hl : news.length = m * size) (hnews : ∀ j u, news[j]? = some u → w.cell? (ad.add j) = some u) (h1 : ∀ u ∈ news, u.oneCell' = true) (hm : 0 < m)
    (h63 : n + m ≤ maxLen) (hbytes : (n + m) * bytes ≤ 140737488355328)
    (hK : ∀ v' w' ob', Seg w' e size v' (n + m) (xs ++ news) ob' → Turns w w' (fun k => ob = some k) → (ob' = ob ∨ ∃ g, ob' = some g ∧ w.heap.size ≤ g) → K (a.put o.dst v') w') :
    if Region.wanted o (yielded ops a.tmps) = true then Oper.wp P o a w K Q else E := by
  rw [if_pos (by simp [Region.wanted, hgd])]
  obtain ⟨v', w', ob', hrun, r1, r2, r3⟩ := run_append_seg (P := P) t o.type i z bytes ht hi hz hsize hby hzs hsz h ad m c news hl hnews h1 hm h63 hbytes
  unfold Oper.wp
  simp [execOp, hop, resolve, invoke, builtin, hs, hx, hrun, Result.andThen]
  exact hK v' w' ob' r1 r2 r3
def scP (es : List Qe) (at' k : Nat) : List Bd := match es[k]? with
  | some e => if k = at' ∨ (k < at' ∧ e.neg = false ∧ e.mx = 1) then [(e.v, e.ts)] else []
  | none => []
/-- What the variables of an element's predicate stand for: of the first k elements. -/
def scopeK (es : List Qe) (at' : Nat) : Nat → List Bd
  | 0 => []
  | k + 1 => scopeK es at' k ++ scP es at' k
def scopeM (es : List Qe) (at' : Nat) : List Bd := scopeK es at' es.length
theorem scopeK_succ (es : List Qe) (at' k : Nat) : scopeK es at' (k + 1) = scopeK es at' k ++ scP es at' k := rfl
theorem scopeK_yes {es : List Qe} {at' k : Nat} {e : Qe} (he : es[k]? = some e) (h : k = at' ∨ (k < at' ∧ e.neg = false ∧ e.mx = 1)) : scopeK es at' (k + 1) = scopeK es at' k ++ [(e.v, e.ts)] := by
  rw [scopeK_succ]
  unfold scP
  rw [he]
  dsimp only
  rw [if_pos h]
theorem scopeK_no {es : List Qe} {at' k : Nat} {e : Qe} (he : es[k]? = some e) (h : ¬ (k = at' ∨ (k < at' ∧ e.neg = false ∧ e.mx = 1))) : scopeK es at' (k + 1) = scopeK es at' k := by
  rw [scopeK_succ]
  unfold scP
  rw [he]
  dsimp only
  rw [if_neg h, List.append_nil]
theorem bind_info : (Try.prog.info? 75).map (fun i => (i.zero, i.size, i.bytes)) = some (some (.agg #[.string ⟨#[]⟩, .slice none 0 0]), 2, 40) := by kernel_rfl
theorem bind_news (w : World) (a b : Value) : ∀ j u, [a, b][j]? = some u → (w.alloc (.cells #[a, b] 75)).cell? ((⟨w.heap.size, 0, none⟩ : Addr).add j) = some u := two_news w _ a b
theorem SPo.push {w0 w W W2 : World} {v v2 : Value} {ps : List Sb} {ob ob2 : Option Nat} {n : ByteArray} {tv : Value} {L : List ByteArray} {o : Obj} (h : SPo w0 w v ps ob) (hb : Below w.heap.size w W) (hl : SLp W (fun g => w.heap.size ≤ g) tv L)
    (hs : Seg W2 75 2 v2 (ps.length + 1) (pcells ps ++ [.string n, tv]) ob2) (ht : Turns (W.alloc o) W2 (fun k => ob = some k)) (ho : ob2 = ob ∨ ∃ g, ob2 = some g ∧ (W.alloc o).heap.size ≤ g) : SP w0 W2 v2 (ps ++ [⟨n, tv, L⟩]) := by
  have hob : ∀ g, ob = some g → g < w.heap.size := fun g e => h.1.lt g e
  have z1 := hb.size
  have z0 := h.2.2.2.size
  have hT : Turns W W2 (fun k => ob = some k) := by
    have := ((Turns.refl W (fun k => ob = some k)).alloc o).trans ht (fun _ _ e => e)
    exact this
  refine ⟨ob2, ?_, fun g e => ?_, fun p hp => ?_, ?_⟩
  · unfold pcells at hs ⊢
    rw [List.length_append, List.flatMap_append]
    simpa [Sb.cells] using hs
  · rcases ho with h1 | ⟨g', h1, hg⟩
    · exact h.2.1 g (by rw [← h1]; exact e)
    · rw [h1] at e; injection e with e; simp at hg; omega
  · have hne : ∀ g, g < W.heap.size → ob ≠ some g → ob2 ≠ some g := fun g hg hn e => by
      rcases ho with h1 | ⟨g', h1, hg'⟩
      · exact hn (by rw [← h1]; exact e)
      · rw [h1] at e; injection e with e; simp at hg'; omega
    rcases List.mem_append.1 hp with hp | hp
    · exact ((h.2.2.1 p hp).turns (Turns.of_below hb) (fun g _ x => ⟨fun x => x, x⟩)).turns hT (fun g hg x => ⟨x.2, x.1, hne g hg x.2⟩)
    · obtain rfl := List.mem_singleton.1 hp
      exact hl.turns hT (fun g hg x => ⟨fun e => by have := hob g e; omega, by omega, hne g hg (fun e => by have := hob g e; omega)⟩)
  · exact hT.below (h.2.2.2.trans (hb.mono z0)) (by omega) (fun k hk e => by have := h.2.1 k e; omega)
theorem SP.be {w0 w : World} {v : Value} {ps : List Sb} (h : SP w0 w v ps) : Below w0.heap.size w0 w := by
  obtain ⟨ob, h⟩ := h
  exact h.2.2.2
end Go.Proofs.Ytopbildpeojgoaa.Ck
