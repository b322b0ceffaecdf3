/- Texts put together: CkH, CkP, CkQ, CkI, CkR. -/
import Derived.Test.YtopbildpeojgoaaCkG
import Derived.Test.YtopbildpeojgoaaTyP
import Derived.Test.YtopbildpeojgoaaTyQ
import Derived.Test.YtopbildpeojgoaaPqC
import Derived.Test.YtopbildpeojgoaaSchI
import Derived.Test.YtopbildpeojgoaaLaw
import Derived.Test.YtopbildpeojgoaaPqD
section
namespace Go.Proofs.Ytopbildpeojgoaa.Ck
open Go.RowKit Go.Proofs.Ytopbildpeojgoaa Go.Proofs.Ytopbildpeojgoaa.Sch Go.Proofs.Ytopbildpeojgoaa.Ty
set_option linter.unusedVariables false
set_option maxRecDepth 100000
def tA : ByteArray := ⟨#[65]⟩
def tB : ByteArray := ⟨#[66]⟩
def tC : ByteArray := ⟨#[67]⟩
def vA : ByteArray := ⟨#[97]⟩
def vB : ByteArray := ⟨#[98]⟩
def vC : ByteArray := ⟨#[99]⟩
def vW : ByteArray := ⟨#[119]⟩
def fx (v : ByteArray) : Nd := ⟨2, 0, 0, ⟨#[]⟩, false, v, ⟨#[120]⟩⟩
def one : Nd := ⟨1, 1, 1, ⟨#[]⟩, false, ⟨#[]⟩, ⟨#[]⟩⟩
def txt : Nd := ⟨1, 2, 0, ⟨#[117]⟩, false, ⟨#[]⟩, ⟨#[]⟩⟩
def prL (v : ByteArray) (j : Nat) : List Nd := match j with
  | 0 => [fx v, one, opn 9]
  | 1 => [fx v, one, opn 4]
  | 2 => [fx v, txt, opn 7]
  | _ => [fx v, one]
def esP (v : ByteArray) (j : Nat) (m : Int) (neg : Bool) : List Qe := [⟨vA, [tA], false, 1, m, []⟩, ⟨vB, [tB], neg, 1, 1, prL v j⟩, ⟨vC, [tC], false, 1, 1, []⟩]
theorem scope_1 (v : ByteArray) (j : Nat) (neg : Bool) : scopeM (esP v j 1 neg) 1 = [(vA, [tA]), (vB, [tB])] := by
  simp [scopeM, scopeK, scP, esP]
theorem scope_2 (v : ByteArray) (j : Nat) (neg : Bool) : scopeM (esP v j 2 neg) 1 = [(vB, [tB])] := by
  simp [scopeM, scopeK, scP, esP]
theorem tyA : typesM typesL [] [tA] = 0 := by
  unfold typesM
  rw [show idx (typesL.map Prod.fst) tA = (0 : Nat) from by rw [idx_data]; rfl, if_neg (by decide), show hasB [] tA = false from by unfold hasB; rw [idx_data]; rfl]
  rfl
theorem tyB : typesM typesL [] [tB] = 0 := by
  unfold typesM
  rw [show idx (typesL.map Prod.fst) tB = (1 : Nat) from by rw [idx_data]; rfl, if_neg (by decide), show hasB [] tB = false from by unfold hasB; rw [idx_data]; rfl]
  rfl
theorem tyC : typesM typesL [] [tC] = 0 := by
  unfold typesM
  rw [show idx (typesL.map Prod.fst) tC = (2 : Nat) from by rw [idx_data]; rfl, if_neg (by decide), show hasB [] tC = false from by unfold hasB; rw [idx_data]; rfl]
  rfl
theorem elem_ok {T : List Ty} {es : List Qe} {at' : Nat} {e : Qe} (h1 : nameB e.v.data.toList = true) (h2 : 0 < e.ts.length) (h3 : e.ts.length ≤ 16) (h4 : ¬ idx (es.map Qe.v) e.v < (at' : Int)) (h5 : typesM T [] e.ts = 0) (h6 : oftenM e.neg e.mn e.mx = true) : elemM T es at' e = predM T (scopeM es at') e.pr := by
  unfold elemM
  rw [if_neg (by rintro (h | h | h)
                 · rw [h1] at h; cases h
                 · omega
                 · omega), if_neg h4, if_neg (by rw [h5]; decide), if_neg (by rw [h6]; decide)]
theorem pred_nil (T : List Ty) (bs : List Bd) : predM T bs [] = 0 := by unfold predM; exact if_pos rfl
theorem query_p (v : ByteArray) (j : Nat) (m : Int) (neg : Bool) (hm : m = 1 ∨ m = 2) : queryM typesL (esP v j m neg) 5 5 = predM typesL (scopeM (esP v j m neg) 1) (prL v j) := by
  have hl : (esP v j m neg).length = 3 := rfl
  have hv : (esP v j m neg).map Qe.v = [vA, vB, vC] := rfl
  have h0 : elemM typesL (esP v j m neg) 0 ⟨vA, [tA], false, 1, m, []⟩ = 0 := by
    have := elem_ok (T := typesL) (es := esP v j m neg) (at' := 0) (e := ⟨vA, [tA], false, 1, m, []⟩) rfl (show 0 < 1 by decide) (show 1 ≤ 16 by decide) (show ¬ idx [vA, vB, vC] vA < ((0 : Nat) : Int) by rw [idx_data]; decide) tyA (by rcases hm with rfl | rfl <;> rfl)
    rw [this]; exact pred_nil _ _
  have h1 : elemM typesL (esP v j m neg) 1 ⟨vB, [tB], neg, 1, 1, prL v j⟩ = predM typesL (scopeM (esP v j m neg) 1) (prL v j) :=
    elem_ok (T := typesL) (es := esP v j m neg) (at' := 1) (e := ⟨vB, [tB], neg, 1, 1, prL v j⟩) rfl (show 0 < 1 by decide) (show 1 ≤ 16 by decide) (show ¬ idx [vA, vB, vC] vB < ((1 : Nat) : Int) by rw [idx_data]; decide) tyB (by cases neg <;> rfl)
  have h2 : elemM typesL (esP v j m neg) 2 ⟨vC, [tC], false, 1, 1, []⟩ = 0 := by
    have := elem_ok (T := typesL) (es := esP v j m neg) (at' := 2) (e := ⟨vC, [tC], false, 1, 1, []⟩) rfl (show 0 < 1 by decide) (show 1 ≤ 16 by decide) (show ¬ idx [vA, vB, vC] vC < ((2 : Nat) : Int) by rw [idx_data]; decide) tyC rfl
    rw [this]; exact pred_nil _ _
  have hE : elemsM typesL (esP v j m neg) 3 0 = predM typesL (scopeM (esP v j m neg) 1) (prL v j) := by
    rw [elemsM_ok (n := 2) (k := 0) rfl h0]
    by_cases hp : predM typesL (scopeM (esP v j m neg) 1) (prL v j) = 0
    · rw [elemsM_ok (n := 1) (k := 1) rfl (by rw [h1]; exact hp), elemsM_ok (n := 0) (k := 2) rfl h2, hp]
      rfl
    · rw [elemsM_no (n := 1) (k := 1) rfl (by rw [h1]; exact hp), h1]
  unfold queryM
  rw [hl, hE, if_neg (by decide), if_neg (by simp [negAt, esP])]
  by_cases hp : predM typesL (scopeM (esP v j m neg) 1) (prL v j) = 0
  · rw [if_neg (by rw [hp]; decide), if_neg (by decide), if_neg (by decide), hp]
  · rw [if_pos hp]
theorem gx {n f : ByteArray} {i j : Nat} {t : Ty} {x : Fld} (h1 : idx (typesL.map Prod.fst) n = (i : Nat)) (ht : typesL[i]? = some t) (h2 : idx (t.2.map Prod.fst) f = (j : Nat)) (hx : t.2[j]? = some x) : fieldS typesL n f = (((j : Nat) : Int), x.2) := by
  unfold fieldS
  rw [h1, Int.toNat_natCast, ht]
  dsimp only
  rw [h2, if_neg (by omega), Int.toNat_natCast, hx]
  dsimp only
  rw [if_neg (by omega)]
theorem gxA : fieldS typesL tA ⟨#[120]⟩ = (0, 1) := gx (i := 0) (j := 0) (by rw [idx_data]; rfl) rfl (by rw [idx_data]; rfl) rfl
theorem gxB : fieldS typesL tB ⟨#[120]⟩ = (0, 1) := gx (i := 1) (j := 0) (by rw [idx_data]; rfl) rfl (by rw [idx_data]; rfl) rfl
theorem fk {bs : List Bd} {v : ByteArray} {i : Nat} {b : Bd} (h : idx (bs.map Prod.fst) v = i) (hb : bs[i]? = some b) (ht : b.2 = [tA] ∨ b.2 = [tB]) : fieldK typesL bs v ⟨#[120]⟩ = (1, 0) := by
  rw [fieldK_at h hb]
  rcases ht with e | e
  · rw [e]; simp [clF, gxA]; rfl
  · rw [e]; simp [clF, gxB]; rfl
theorem good_p {v : ByteArray} (hv : nameB v.data.toList = true) {n : Nd} (hn : OkN n) (hp : partsI n.op = 0) {o : Int} (h1 : 3 ≤ o) (h2 : o ≤ 15) (h3 : partsI o = 2) : Ty.Good [fx v, n, opn o] := by
  refine ⟨by simp, fun j hj => ?_, fun j hj => ?_, ?_⟩
  · match j, hj with
    | 0, _ => exact .field hv rfl
    | 1, _ => exact hn
    | 2, _ => exact .op o h1 h2
  · match j, hj with
    | 0, _ => show partsI 2 ≤ dep []; decide
    | 1, _ => show partsI n.op ≤ (1 - partsI 2) + 0; rw [hp]; decide
    | 2, _ => show partsI o ≤ (1 - partsI 2) + ((1 - partsI n.op) + 0); rw [h3, hp]; decide
  · show (1 - partsI 2) + ((1 - partsI n.op) + ((1 - partsI o) + 0)) = 1
    rw [h3, hp]
    decide
theorem bad_p {v : ByteArray} : ¬ Ty.Good [fx v, one] := fun h => by
  have := h.one
  revert this
  show ¬ ((1 - partsI 2) + ((1 - partsI 1) + 0) = 1)
  decide
theorem kind_seen {bs : List Bd} {v : ByteArray} (hk : fieldK typesL bs v ⟨#[120]⟩ = (1, 0)) (kn : Int) (n : Nd) (hn : ∀ L, partK typesL bs n L = (kn, 0)) (hp : partsI n.op = 0) (o : Int) (h1 : 3 ≤ o) (h3 : partsI o = 2) (r : Int × Int) (hr : opK o [1, kn] = r) : kindS typesL bs [fx v, n, opn o] [] = if r.2 = 0 then (r.1, 0) else (0, r.2) := by
  have e1 : stepK typesL bs [] (fx v) = (1, 0) := by
    unfold stepK partK
    rw [if_neg (show ¬ (fx v).op = 1 from (show ¬ (2 : Int) = 1 by decide)), if_pos (show (fx v).op = 2 from rfl)]
    exact hk
  rw [kindS_cons, e1, if_pos rfl]
  show kindS typesL bs [n, opn o] [1] = _
  have e2 : stepK typesL bs [1] n = (kn, 0) := hn _
  rw [kindS_cons, e2, if_pos rfl, hp]
  show kindS typesL bs [opn o] [1, kn] = _
  have e3 : stepK typesL bs [1, kn] (opn o) = r := by
    unfold stepK partK
    rw [if_neg (show ¬ (opn o).op = 1 from (show ¬ o = 1 by omega)), if_neg (show ¬ (opn o).op = 2 from (show ¬ o = 2 by omega))]
    show opK o (List.drop ([1, kn].length - (partsI o).toNat) [1, kn]) = r
    rw [h3]
    exact hr
  rw [kindS_cons, e3]
  by_cases h : r.2 = 0
  · rw [if_pos h, if_pos h]
    show kindS typesL bs [] (List.take ([1, kn].length - (partsI o).toNat) [1, kn] ++ [r.1]) = _
    rw [h3]
    rfl
  · rw [if_neg h, if_neg h]
theorem kind_unseen {bs : List Bd} {v : ByteArray} (hk : fieldK typesL bs v ⟨#[120]⟩ = (0, 3)) (l : List Nd) : kindS typesL bs (fx v :: l) [] = (0, 3) := by
  have e1 : stepK typesL bs [] (fx v) = (0, 3) := by
    unfold stepK partK
    rw [if_neg (show ¬ (fx v).op = 1 from (show ¬ (2 : Int) = 1 by decide)), if_pos (show (fx v).op = 2 from rfl)]
    exact hk
  rw [kindS_cons, e1]
  rfl
theorem predM_of {T : List Ty} {bs : List Bd} {l : List Nd} (h0 : 0 < l.length) (r : Int × Int) (hr : kindQ T bs l = r) : predM T bs l = if r.2 = 0 ∧ r.1 ≠ 3 then 10 else r.2 := by
  unfold predM
  rw [if_neg (by omega), hr]
def wantS (j : Nat) : Int := match j with
  | 0 => 0
  | 1 => 10
  | 2 => 10
  | _ => 1
def wantN (j : Nat) : Int := match j with
  | 0 => 3
  | 1 => 3
  | 2 => 3
  | _ => 1
theorem ok_one : OkN one := .const (.num 1 (by decide))
theorem ok_txt : OkN txt := .const (.text ⟨#[117]⟩ (by decide))
theorem kindQ_yes {T : List Ty} {bs : List Bd} {l : List Nd} (h : Ty.Good l) : kindQ T bs l = kindS T bs l [] := if_pos h
theorem kindQ_no {T : List Ty} {bs : List Bd} {l : List Nd} (h : ¬ Ty.Good l) : kindQ T bs l = (0, 1) := if_neg h
/-- What a predicate of CheckPreds comes to, where its variable may be had. -/
theorem pred_seen {bs : List Bd} {v : ByteArray} (hv : nameB v.data.toList = true) (hk : fieldK typesL bs v ⟨#[120]⟩ = (1, 0)) (j : Nat) : predM typesL bs (prL v j) = wantS j := by
  match j with
  | 0 => exact (predM_of (l := prL v 0) (show 0 < 3 by decide) (3, 0) ((kindQ_yes (good_p hv ok_one rfl (o := 9) (by decide) (by decide) rfl)).trans (kind_seen hk 1 one (fun _ => rfl) rfl 9 (by decide) rfl (3, 0) rfl))).trans (by decide)
  | 1 => exact (predM_of (l := prL v 1) (show 0 < 3 by decide) (1, 0) ((kindQ_yes (good_p hv ok_one rfl (o := 4) (by decide) (by decide) rfl)).trans (kind_seen hk 1 one (fun _ => rfl) rfl 4 (by decide) rfl (1, 0) rfl))).trans (by decide)
  | 2 => exact (predM_of (l := prL v 2) (show 0 < 3 by decide) (0, 10) ((kindQ_yes (good_p hv ok_txt rfl (o := 7) (by decide) (by decide) rfl)).trans (kind_seen hk 2 txt (fun _ => rfl) rfl 7 (by decide) rfl (0, 10) rfl))).trans (by decide)
  | j + 3 => exact (predM_of (l := prL v (j + 3)) (show 0 < 2 by decide) (0, 1) (kindQ_no bad_p)).trans (show (if (1 : Int) = 0 ∧ (0 : Int) ≠ 3 then (10 : Int) else 1) = 1 by decide)
theorem pred_unseen {bs : List Bd} {v : ByteArray} (hv : nameB v.data.toList = true) (hk : fieldK typesL bs v ⟨#[120]⟩ = (0, 3)) (j : Nat) : predM typesL bs (prL v j) = wantN j := by
  match j with
  | 0 => exact (predM_of (l := prL v 0) (show 0 < 3 by decide) (0, 3) ((kindQ_yes (good_p hv ok_one rfl (o := 9) (by decide) (by decide) rfl)).trans (kind_unseen hk _))).trans (by decide)
  | 1 => exact (predM_of (l := prL v 1) (show 0 < 3 by decide) (0, 3) ((kindQ_yes (good_p hv ok_one rfl (o := 4) (by decide) (by decide) rfl)).trans (kind_unseen hk _))).trans (by decide)
  | 2 => exact (predM_of (l := prL v 2) (show 0 < 3 by decide) (0, 3) ((kindQ_yes (good_p hv ok_txt rfl (o := 7) (by decide) (by decide) rfl)).trans (kind_unseen hk _))).trans (by decide)
  | j + 3 => exact (predM_of (l := prL v (j + 3)) (show 0 < 2 by decide) (0, 1) (kindQ_no bad_p)).trans (show (if (1 : Int) = 0 ∧ (0 : Int) ≠ 3 then (10 : Int) else 1) = 1 by decide)
theorem scope_m {v : ByteArray} {j : Nat} {m : Int} {neg : Bool} (hm : m = 1 ∨ m = 2) : scopeM (esP v j m neg) 1 = if m = 1 then [(vA, [tA]), (vB, [tB])] else [(vB, [tB])] := by
  rcases hm with rfl | rfl
  · exact scope_1 _ _ _
  · exact scope_2 _ _ _
theorem q_b (j : Nat) (m : Int) (neg : Bool) (hm : m = 1 ∨ m = 2) : queryM typesL (esP vB j m neg) 5 5 = wantS j := by
  rw [query_p vB j m neg hm, scope_m hm]
  refine pred_seen rfl ?_ j
  rcases hm with rfl | rfl
  · exact fk (i := 1) (b := (vB, [tB])) (by rw [idx_data]; rfl) rfl (.inr rfl)
  · exact fk (i := 0) (b := (vB, [tB])) (by rw [idx_data]; rfl) rfl (.inr rfl)
theorem q_a1 (j : Nat) (neg : Bool) : queryM typesL (esP vA j 1 neg) 5 5 = wantS j := by
  rw [query_p vA j 1 neg (.inl rfl), scope_1]
  exact pred_seen rfl (fk (i := 0) (b := (vA, [tA])) (by rw [idx_data]; rfl) rfl (.inl rfl)) j
theorem q_a2 (j : Nat) (neg : Bool) : queryM typesL (esP vA j 2 neg) 5 5 = wantN j := by
  rw [query_p vA j 2 neg (.inr rfl), scope_2]
  exact pred_unseen rfl (fieldK_no (by rw [idx_data]; decide)) j
theorem q_c (j : Nat) (m : Int) (neg : Bool) (hm : m = 1 ∨ m = 2) : queryM typesL (esP vC j m neg) 5 5 = wantN j := by
  rw [query_p vC j m neg hm, scope_m hm]
  refine pred_unseen rfl ?_ j
  rcases hm with rfl | rfl
  · exact fieldK_no (by rw [idx_data]; decide)
  · exact fieldK_no (by rw [idx_data]; decide)
theorem q_w (j : Nat) (m : Int) (neg : Bool) (hm : m = 1 ∨ m = 2) : queryM typesL (esP vW j m neg) 5 5 = wantN j := by
  rw [query_p vW j m neg hm, scope_m hm]
  refine pred_unseen rfl ?_ j
  rcases hm with rfl | rfl
  · exact fieldK_no (by rw [idx_data]; decide)
  · exact fieldK_no (by rw [idx_data]; decide)
end Go.Proofs.Ytopbildpeojgoaa.Ck
end

section
namespace Go.Proofs.Ytopbildpeojgoaa.Ck
open Go.RowKit Go.Proofs.Ytopbildpeojgoaa Go.Proofs.Ytopbildpeojgoaa.Sch Go.Proofs.Ytopbildpeojgoaa.Ty
set_option linter.unusedVariables false
set_option maxRecDepth 100000
def toN (n : Pq.Nd) : Nd := ⟨n.op, n.kind, n.i, n.s, n.b, n.var, n.field⟩
def toQ (e : Pq.El) : Qe := ⟨e.v, e.ts, e.neg, e.mn, e.mx, e.nds.map toN⟩
theorem toN_cells (n : Pq.Nd) : (toN n).cells = n.cells := rfl
theorem mem_scope {es : List Qe} {at' : Nat} {b : Bd} : ∀ n, b ∈ scopeK es at' n ↔ ∃ k e, k < n ∧ es[k]? = some e ∧ (k = at' ∨ (k < at' ∧ e.neg = false ∧ e.mx = 1)) ∧ b = (e.v, e.ts)
  | 0 => ⟨fun h => by simp [scopeK] at h, fun ⟨k, e, h, _⟩ => absurd h (by omega)⟩
  | n + 1 => by
    rw [scopeK_succ, List.mem_append, mem_scope n]
    constructor
    · rintro (⟨k, e, h1, h2⟩ | h)
      · exact ⟨k, e, by omega, h2⟩
      · unfold scP at h
        split at h
        · rename_i e he
          split at h
          · rename_i hc
            exact ⟨n, e, by omega, he, hc, List.mem_singleton.1 h⟩
          · cases h
        · cases h
    · rintro ⟨k, e, h1, h2, h3, h4⟩
      rcases Nat.lt_or_ge k n with h | h
      · exact .inl ⟨k, e, h, h2, h3, h4⟩
      · obtain rfl : k = n := by omega
        refine .inr ?_
        unfold scP
        rw [h2]
        dsimp only
        rw [if_pos h3, h4]
        exact List.mem_singleton.2 rfl
theorem idx_mem {l : List ByteArray} {nm : ByteArray} (h : nm ∈ l) : ∃ j : Nat, idx l nm = j ∧ j < l.length := by
  unfold idx
  split
  · rename_i k hk
    exact ⟨k, rfl, (List.findIdx?_eq_some_iff_getElem.1 hk).1⟩
  · rename_i hk
    have := List.findIdx?_eq_none_iff.1 hk nm h
    simp at this
theorem ask_ty (k : Nat) (f : ByteArray) (kd : Int) (h : (f = sx ∧ kd = 1) ∨ (f = ss ∧ kd = 2)) : askL (Pq.tyL k) f = (kd, 0) := by
  have hA : (⟨#[65]⟩ : ByteArray) = nA := rfl
  have hB : (⟨#[66]⟩ : ByteArray) = nB := rfl
  have hC : (⟨#[67]⟩ : ByteArray) = nC := rfl
  rcases h with ⟨rfl, rfl⟩ | ⟨rfl, rfl⟩
  · unfold Pq.tyL
    split <;> simp [askL, Ty.ask, clF, hA, hB, hC, gAx, gBx, gCx]
  · unfold Pq.tyL
    split <;> simp [askL, Ty.ask, clF, hA, hB, hC, gAs, gBs, gCs]
theorem fieldK_in {bs : List Bd} {v f : ByteArray} {kd : Int} (hall : ∀ b ∈ bs, ∃ k, b.2 = Pq.tyL k) (hv : ∃ b ∈ bs, b.1 = v) (h : (f = sx ∧ kd = 1) ∨ (f = ss ∧ kd = 2)) : fieldK typesL bs v f = (kd, 0) := by
  obtain ⟨b0, hb0, rfl⟩ := hv
  obtain ⟨j, hj, hjl⟩ := idx_mem (List.mem_map_of_mem (f := Prod.fst) hb0)
  rw [List.length_map] at hjl
  obtain ⟨k, hk⟩ := hall _ (List.getElem_mem hjl)
  rw [fieldK_at hj (List.getElem?_eq_getElem hjl), hk]
  exact ask_ty k f kd h
theorem parts_c {o : Int} (h1 : 7 ≤ o) (h2 : o ≤ 12) : partsI o = 2 := by
  unfold partsI
  rw [if_neg (by omega), if_neg (by omega), if_pos (by omega)]
theorem opK_c {o k : Int} (h1 : 7 ≤ o) (h2 : o ≤ 12) : opK o [k, k] = (3, 0) := by
  unfold opK
  rw [if_neg (by omega), if_neg (by omega)]
  simp [Ty.ask]
theorem pl_fld {bs : List Bd} {v f : ByteArray} {kd : Int} (hv : nameB v.data.toList = true) (hf : nameB f.data.toList = true) (hk : fieldK typesL bs v f = (kd, 0)) : PL typesL bs kd 1 [⟨2, 0, 0, ⟨#[]⟩, false, v, f⟩] :=
  PL.leaf _ (.field hv hf) rfl (fun _ => hk)
theorem pl_num (bs : List Bd) (z : Int) (h0 : 0 ≤ z) (h1 : z ≤ 3) : PL typesL bs 1 1 [⟨1, 1, z, ⟨#[]⟩, false, ⟨#[]⟩, ⟨#[]⟩⟩] :=
  PL.leaf _ (.const (.num z (by simp; omega))) rfl (fun _ => rfl) ⟨by show _ ≤ z; omega, by show z ≤ _; omega⟩
theorem pl_str (bs : List Bd) (s : ByteArray) (h : s.size ≤ 64) : PL typesL bs 2 1 [⟨1, 2, 0, s, false, ⟨#[]⟩, ⟨#[]⟩⟩] :=
  PL.leaf _ (.const (.text s h)) rfl (fun _ => rfl)
theorem pl_pred {bs : List Bd} {v o : ByteArray} (x : Int) (hv : nameB v.data.toList = true) (ho : nameB o.data.toList = true) (v1 : fieldK typesL bs v sx = (1, 0)) (v2 : fieldK typesL bs v ss = (2, 0)) (o1 : fieldK typesL bs o sx = (1, 0)) (o2 : fieldK typesL bs o ss = (2, 0)) :
    (Pq.predL x v o).map toN = [] ∨ PL typesL bs 3 64 ((Pq.predL x v o).map toN) := by
  have c1 : 7 ≤ 7 + x / 64 % 6 := by omega
  have c2 : 7 + x / 64 % 6 ≤ 12 := by omega
  have e1 : 7 ≤ 7 + x / 64 % 2 := by omega
  have e2 : 7 + x / 64 % 2 ≤ 12 := by omega
  have n0 := pl_num bs (x / 16 % 4) (by omega) (by omega)
  have n1 := pl_num bs 1 (by omega) (by omega)
  have fv := pl_fld hv (show nameB sx.data.toList = true from rfl) v1
  have gv := pl_fld hv (show nameB ss.data.toList = true from rfl) v2
  have fo := pl_fld ho (show nameB sx.data.toList = true from rfl) o1
  have go' := pl_fld ho (show nameB ss.data.toList = true from rfl) o2
  have C : ∀ {k : Int} {B D : Nat} {l r : List Nd}, PL typesL bs k B l → PL typesL bs k D r → PL typesL bs 3 (B + D + 1) ((l ++ r) ++ [opn (7 + x / 64 % 6)]) := fun h g => h.op2 g _ (by omega) (by omega) (parts_c c1 c2) (opK_c c1 c2)
  unfold Pq.predL
  split
  · exact .inl rfl
  · exact .inr ((C fv n0).more (by decide))
  · exact .inr (((gv.op2 (pl_str bs ⟨#[117]⟩ (by decide)) (7 + x / 64 % 2) (by omega) (by omega) (parts_c e1 e2) (opK_c e1 e2))).more (by decide))
  · exact .inr (((C fv n0).op1 13 (by decide) (by decide) rfl rfl).more (by decide))
  · exact .inr ((C (fv.op2 n1 4 (by decide) (by decide) rfl rfl) fo).more (by decide))
  · exact .inr (((gv.op2 go' 7 (by decide) (by decide) rfl rfl).op2 (C fv n0) 15 (by decide) (by decide) rfl rfl).more (by decide))
  · exact .inr (((C fv fo).op2 (go'.op2 (pl_str bs ⟨#[118]⟩ (by decide)) 8 (by decide) (by decide) rfl rfl) 14 (by decide) (by decide) rfl rfl).more (by decide))
theorem predM_pl {bs : List Bd} {l : List Nd} (h : l = [] ∨ PL typesL bs 3 64 l) : predM typesL bs l = 0 := by
  rcases h with rfl | h
  · exact pred_nil _ _
  · have hpos : 0 < l.length := by
      have := h.one
      cases l with
      | nil => simp [dep] at this
      | cons a l => simp
    rw [predM_of hpos (3, 0) ((kindQ_yes (h.good (by decide))).trans h.kind)]
    rfl
theorem name_var (i : Nat) : nameB (Pq.varOf i).data.toList = true := by
  unfold Pq.varOf
  split <;> rfl
theorem ty_l (k : Nat) : typesM typesL [] (Pq.tyL k) = 0 := by
  have iA : idx (typesL.map Prod.fst) ⟨#[65]⟩ = (0 : Nat) := by rw [idx_data]; rfl
  have iB : idx (typesL.map Prod.fst) ⟨#[66]⟩ = (1 : Nat) := by rw [idx_data]; rfl
  have iC : idx (typesL.map Prod.fst) ⟨#[67]⟩ = (2 : Nat) := by rw [idx_data]; rfl
  have h0 : ∀ nm, hasB [] nm = false := fun nm => by unfold hasB; rw [idx_data]; rfl
  have hAB : hasB [⟨#[65]⟩] ⟨#[66]⟩ = false := by unfold hasB; rw [idx_data]; rfl
  have hBC : hasB [⟨#[66]⟩] ⟨#[67]⟩ = false := by unfold hasB; rw [idx_data]; rfl
  have hABC : hasB [⟨#[65]⟩, ⟨#[66]⟩] ⟨#[67]⟩ = false := by unfold hasB; rw [idx_data]; rfl
  unfold Pq.tyL
  split <;> simp [typesM, iA, iB, iC, h0, hAB, hBC, hABC]
end Go.Proofs.Ytopbildpeojgoaa.Ck
end

section
namespace Go.Proofs.Ytopbildpeojgoaa.Ck
open Go.RowKit Go.Proofs.Ytopbildpeojgoaa Go.Proofs.Ytopbildpeojgoaa.Sch Go.Proofs.Ytopbildpeojgoaa.Ty
set_option linter.unusedVariables false
set_option maxRecDepth 100000
theorem elemsM_zero {T : List Ty} {es : List Qe} (h : ∀ k e, es[k]? = some e → elemM T es k e = 0) : ∀ n k, elemsM T es n k = 0
  | 0, _ => rfl
  | n + 1, k => by
    cases he : es[k]? with
    | none =>
      show (match es[k]? with | some e => if elemM T es k e = 0 then elemsM T es n (k + 1) else elemM T es k e | none => 0) = 0
      rw [he]
    | some e => rw [elemsM_ok he (h k e he)]; exact elemsM_zero h n (k + 1)
theorem var_ne : ∀ i j : Nat, i < 4 → j < i → (Pq.varOf j).data.toList ≠ (Pq.varOf i).data.toList := by
  intro i j hi hj
  match i, hi, j, hj with
  | 1, _, 0, _ => decide
  | 2, _, 0, _ => decide
  | 2, _, 1, _ => decide
  | 3, _, 0, _ => decide
  | 3, _, 1, _ => decide
  | 3, _, 2, _ => decide
theorem idx_ge {l : List ByteArray} {i : Nat} (hi : i < 4) (h : ∀ j (hj : j < l.length), j < i → l[j] = Pq.varOf j) : ¬ idx l (Pq.varOf i) < (i : Int) ∨ idx l (Pq.varOf i) < 0 := by
  rw [idx_data]
  unfold idxD
  split
  · rename_i k hk
    obtain ⟨hkl, hk2, _⟩ := List.findIdx?_eq_some_iff_getElem.1 hk
    refine .inl fun hlt => ?_
    have hki : k < i := by omega
    rw [h k hkl hki] at hk2
    exact var_ne i k hi hki (by simpa using hk2)
  · exact .inr (by decide)
theorem map_get {es : List Pq.El} {k : Nat} {q : Qe} (h : (es.map toQ)[k]? = some q) : ∃ e, es[k]? = some e ∧ q = toQ e := by
  rw [List.getElem?_map] at h
  obtain ⟨e, h1, h2⟩ := Option.map_eq_some_iff.1 h
  exact ⟨e, h1, h2.symm⟩
theorem fields_ok {es : List Pq.El} {n : Nat} (hg : Pq.Good n es) {i : Nat} {bs : List Bd} (hbs : bs = scopeM (es.map toQ) i) {v : ByteArray} (hv : ∃ b ∈ bs, b.1 = v) : fieldK typesL bs v sx = (1, 0) ∧ fieldK typesL bs v ss = (2, 0) := by
  have hall : ∀ b ∈ bs, ∃ k, b.2 = Pq.tyL k := by
    intro b hb
    rw [hbs] at hb
    obtain ⟨k, q, _, hq, _, rfl⟩ := (mem_scope _).1 hb
    obtain ⟨e, he, rfl⟩ := map_get hq
    exact (hg.con k e he).1
  exact ⟨fieldK_in hall hv (.inl ⟨rfl, rfl⟩), fieldK_in hall hv (.inr ⟨rfl, rfl⟩)⟩
theorem elem_zero {es : List Pq.El} {n : Nat} (hg : Pq.Good n es) (hl : es.length ≤ 4) {i : Nat} {e : Pq.El} (he : es[i]? = some e) : elemM typesL (es.map toQ) i (toQ e) = 0 := by
  obtain ⟨hil, hie⟩ := List.getElem?_eq_some_iff.1 he
  obtain ⟨⟨k, hk⟩, x, o, _, _, hn, ho⟩ := hg.con i e he
  have hv := hg.var i e he
  have hlo := hg.lo e (by rw [← hie]; exact List.getElem_mem hil)
  have htl := Pq.tyL_len k
  have hsc : ∃ b ∈ scopeM (es.map toQ) i, b.1 = e.v := ⟨(e.v, e.ts), (mem_scope _).2 ⟨i, toQ e, by simpa using hil, by rw [List.getElem?_map, he]; rfl, .inl rfl, rfl⟩, rfl⟩
  have hso : ∃ b ∈ scopeM (es.map toQ) i, b.1 = o := by
    rcases ho with rfl | ⟨rfl, e0, h0, hm⟩
    · exact hsc
    · have hv0 : e0.v = ⟨#[97]⟩ := hg.var 0 e0 h0
      rcases Nat.eq_zero_or_pos i with h | h
      · subst h
        rw [he] at h0
        injection h0 with h0
        subst h0
        rw [← hv0]
        exact hsc
      · have hn0 : e0.neg = false := by
          cases hb : e0.neg with
          | false => rfl
          | true => exact absurd (hg.neg 0 e0 h0 hb).1 (by omega)
        exact ⟨(e0.v, e0.ts), (mem_scope _).2 ⟨0, toQ e0, by simp; omega, by rw [List.getElem?_map, h0]; rfl, .inr ⟨h, hn0, hm⟩, rfl⟩, hv0⟩
  obtain ⟨v1, v2⟩ := fields_ok hg rfl hsc
  obtain ⟨o1, o2⟩ := fields_ok hg rfl hso
  have hvn : nameB e.v.data.toList = true := by rw [hv]; exact name_var i
  have hon : nameB o.data.toList = true := by
    rcases ho with rfl | ⟨rfl, _⟩
    · exact hvn
    · rfl
  have hnames : (es.map toQ).map Qe.v = es.map Pq.El.v := by rw [List.map_map]; rfl
  have hge : ¬ idx ((es.map toQ).map Qe.v) e.v < (i : Int) := by
    rw [hnames, hv]
    obtain ⟨j, hj, hjl⟩ := idx_mem (l := es.map Pq.El.v) (nm := Pq.varOf i) (by rw [← hv, ← hie]; exact List.mem_map_of_mem (List.getElem_mem hil))
    rcases idx_ge (l := es.map Pq.El.v) (i := i) (by omega) (fun j hj hji => by
      have hjl : j < es.length := by simpa using hj
      rw [List.getElem_map]
      exact hg.var j _ (List.getElem?_eq_getElem hjl)) with h | h
    · exact h
    · rw [hj] at h; omega
  have := elem_ok (T := typesL) (es := es.map toQ) (at' := i) (e := toQ e) hvn (by show 0 < e.ts.length; rw [hk]; omega) (by show e.ts.length ≤ 16; rw [hk]; omega) hge (by show typesM typesL [] e.ts = 0; rw [hk]; exact ty_l k) (by
    show oftenM e.neg e.mn e.mx = true
    unfold oftenM
    cases hb : e.neg with
    | true => simp [hlo.2.2.2 hb]
    | false => simp; omega)
  rw [this]
  show predM typesL (scopeM (es.map toQ) i) (e.nds.map toN) = 0
  rw [hn]
  exact predM_pl (pl_pred x hvn hon v1 v2 o1 o2)
theorem query_ok {es : List Pq.El} (hg : Pq.Good es.length es) (h1 : 1 ≤ es.length) (hl : es.length ≤ 4) {win cap : Int} (hw1 : 1 ≤ win) (hw2 : win ≤ 16) (hc : 1 ≤ cap ∧ cap ≤ 1000) : queryM typesL (es.map toQ) win cap = 0 := by
  have hlen : (es.map toQ).length = es.length := by simp
  have hE := elemsM_zero (T := typesL) (es := es.map toQ) (fun k q hq => by
    obtain ⟨e, he, rfl⟩ := map_get hq
    exact elem_zero hg hl he) es.length 0
  have hneg : ∀ k e, es[k]? = some e → negAt (es.map toQ) k = e.neg := fun k e he => by
    unfold negAt
    rw [List.getElem?_map, he]
    rfl
  have n0 : negAt (es.map toQ) 0 = false := by
    rw [hneg 0 _ (List.getElem?_eq_getElem (by omega))]
    cases hb : es[0].neg with
    | false => rfl
    | true => exact absurd (hg.neg 0 _ (List.getElem?_eq_getElem (by omega)) hb).1 (by omega)
  have nl : negAt (es.map toQ) (es.length - 1) = false := by
    rw [hneg (es.length - 1) _ (List.getElem?_eq_getElem (by omega))]
    cases hb : es[es.length - 1].neg with
    | false => rfl
    | true => exact absurd (hg.neg (es.length - 1) _ (List.getElem?_eq_getElem (by omega)) hb).2 (by omega)
  unfold queryM
  rw [hlen, if_neg (by omega), if_neg (fun h => h.elim (fun h => by omega) (fun h => h.elim (fun h => by rw [n0] at h; cases h) (fun h => by rw [nl] at h; cases h))), if_neg (by rw [hE]; decide), if_neg (by omega), if_neg (by omega)]
end Go.Proofs.Ytopbildpeojgoaa.Ck
end

section
namespace Go.Proofs.Ytopbildpeojgoaa.Ck
open Go.RowKit Go.Proofs.Ytopbildpeojgoaa Go.Proofs.Ytopbildpeojgoaa.Sch Go.Proofs.Ytopbildpeojgoaa.Ty
set_option linter.unusedVariables false
set_option maxRecDepth 100000
theorem typesL_len : ∀ t ∈ typesL, t.2.length ≤ 1000000 := by
  intro t ht
  simp [typesL] at ht
  rcases ht with rfl | rfl | rfl <;> simp
def es1 : List Qe := [⟨vA, [tA], false, 1, 1, []⟩]
theorem q_one (win cap : Int) (hc : cap = 1) : queryM typesL es1 win cap = if win < 1 ∨ 4294967296 < win then 13 else 0 := by
  subst hc
  have hv : es1.map Qe.v = [vA] := rfl
  have h0 : elemM typesL es1 0 ⟨vA, [tA], false, 1, 1, []⟩ = 0 := by
    have := elem_ok (T := typesL) (es := es1) (at' := 0) (e := ⟨vA, [tA], false, 1, 1, []⟩) rfl (show 0 < 1 by decide) (show 1 ≤ 16 by decide) (show ¬ idx [vA] vA < ((0 : Nat) : Int) by rw [idx_data]; decide) tyA rfl
    rw [this]; exact pred_nil _ _
  have hE : elemsM typesL es1 1 0 = 0 := by rw [elemsM_ok (n := 0) (k := 0) rfl h0]; rfl
  unfold queryM
  rw [show es1.length = 1 from rfl, hE, if_neg (by decide), if_neg (by simp [negAt, es1]), if_neg (by decide)]
  split
  · rfl
  · rw [if_neg (by decide)]
theorem sl_row1 {w : World} {g : Nat} {s : ByteArray} (h : Row w g 9 #[.string s]) : SL w w.heap.size (.slice (some ⟨g, 0, none⟩) 1 1) [s] :=
  ⟨_, 1, rfl, Nat.le_refl _, by omega, fun k hk => ⟨g, 0, rfl, h.lt, by
    obtain rfl : k = 0 := by simp at hk; omega
    exact (h.cell 0).trans rfl⟩⟩
theorem ns_zero (w : World) (B : Nat) : Ns w B (.slice none 0 0) [] := ⟨none, 0, rfl, by simp, by omega, fun k hk => by simp at hk⟩
theorem qs_one {w : World} {g : Nat} {v : ByteArray} {ts : List ByteArray} {neg : Bool} {mn mx : Int} {pr : List Nd} {tv pv : Value} (h : Row w g 73 #[.string v, tv, .bool neg, .int .i64 mn, .int .i64 mx, pv]) (ht : SL w w.heap.size tv ts) (hp : Ns w w.heap.size pv pr) : Qs w w.heap.size (.slice (some ⟨g, 0, none⟩) 1 1) [⟨v, ts, neg, mn, mx, pr⟩] := by
  refine ⟨_, 1, rfl, Nat.le_refl _, by omega, fun k hk => ?_⟩
  obtain rfl : k = 0 := by simp at hk; omega
  exact ⟨g, 0, tv, pv, rfl, h.lt, (h.cell 0).trans rfl, (h.cell 1).trans rfl, (h.cell 2).trans rfl, (h.cell 3).trans rfl, (h.cell 4).trans rfl, (h.cell 5).trans rfl, ht, hp⟩
theorem qs_three {w : World} {g : Nat} {v1 v2 v3 : ByteArray} {t1 t2 t3 : List ByteArray} {n1 n2 n3 : Bool} {a1 b1 a2 b2 a3 b3 : Int} {p1 p2 p3 : List Nd} {tv1 tv2 tv3 pv1 pv2 pv3 : Value}
    (h : Row w g 73 #[.string v1, tv1, .bool n1, .int .i64 a1, .int .i64 b1, pv1, .string v2, tv2, .bool n2, .int .i64 a2, .int .i64 b2, pv2, .string v3, tv3, .bool n3, .int .i64 a3, .int .i64 b3, pv3])
    (ht1 : SL w w.heap.size tv1 t1) (ht2 : SL w w.heap.size tv2 t2) (ht3 : SL w w.heap.size tv3 t3) (hp1 : Ns w w.heap.size pv1 p1) (hp2 : Ns w w.heap.size pv2 p2) (hp3 : Ns w w.heap.size pv3 p3) :
    Qs w w.heap.size (.slice (some ⟨g, 0, none⟩) 3 3) [⟨v1, t1, n1, a1, b1, p1⟩, ⟨v2, t2, n2, a2, b2, p2⟩, ⟨v3, t3, n3, a3, b3, p3⟩] := by
  refine ⟨_, 3, rfl, Nat.le_refl _, by omega, fun k hk => ?_⟩
  match k, hk with
  | 0, _ => exact ⟨g, 0, tv1, pv1, rfl, h.lt, (h.cell 0).trans rfl, (h.cell 1).trans rfl, (h.cell 2).trans rfl, (h.cell 3).trans rfl, (h.cell 4).trans rfl, (h.cell 5).trans rfl, ht1, hp1⟩
  | 1, _ => exact ⟨g, 0, tv2, pv2, rfl, h.lt, (h.cell 6).trans rfl, (h.cell 7).trans rfl, (h.cell 8).trans rfl, (h.cell 9).trans rfl, (h.cell 10).trans rfl, (h.cell 11).trans rfl, ht2, hp2⟩
  | 2, _ => exact ⟨g, 0, tv3, pv3, rfl, h.lt, (h.cell 12).trans rfl, (h.cell 13).trans rfl, (h.cell 14).trans rfl, (h.cell 15).trans rfl, (h.cell 16).trans rfl, (h.cell 17).trans rfl, ht3, hp3⟩
  | k + 3, h => exact absurd (show k + 3 < 3 from h) (by omega)
set_option maxHeartbeats 4000000 in
theorem awake_any (w : World) : Calls Try.prog 45 #[] w fun e w' => e = .returned (.bool true) ∧ Below w.heap.size w w' := by
  go_enter Try.func45, Try.ntmps45
  go_wp2_with fail
  refine (types_any _).mono ?_
  rintro e w1 ⟨v1, rfl, ht1, hb1⟩
  have HT1 := Lib.hid ht1
  clear ht1
  go_wp2_with fail
  refine (new_any _ typesL _ _ HT1.out (Nat.le_refl _)).mono ?_
  rintro e w2 ⟨p, c, rfl, hr, hsc, _, hb2⟩
  obtain rfl := typesL_ok hr
  have HS2 := Lib.hid (hsc rfl)
  have HB2 := Lib.hid (hb1.trans (hb2.mono hb1.size))
  clear hb1 hb2 hr hsc
  go_wp2_with fail
  generalize hW : ((((w2.alloc (.cells #[.string ⟨#[65]⟩] 9)).alloc _).alloc _).alloc _) = W
  have hX : Below w2.heap.size w2 W := by rw [← hW]; exact ((((Below.refl _ _).alloc (Nat.le_refl _) _).alloc (by simp) _).alloc (by simp; omega) _).alloc (by simp; omega) _
  have r0 : Row W w2.heap.size 9 #[.string ⟨#[65]⟩] := by rw [← hW]; exact (((Row.made w2 _ _).alloc _).alloc _).alloc _
  have r1 : Row W (w2.heap.size + 1) 73 #[.string ⟨#[97]⟩, .slice (some ⟨w2.heap.size, 0, none⟩) 1 1, .bool false, .int .i64 1, .int .i64 1, .slice none 0 0] := by rw [← hW]; exact ((row_at (by simp) _ _).alloc _).alloc _
  have r3 : Row W (w2.heap.size + 1 + 1 + 1) 67 #[.slice (some ⟨w2.heap.size + 1, 0, none⟩) 1 1, .int .i64 0, .int .i64 1] := by rw [← hW]; exact row_at (by simp) _ _
  have hq : Qs W W.heap.size (.slice (some ⟨w2.heap.size + 1, 0, none⟩) 1 1) es1 := qs_one r1 (sl_row1 r0) (ns_zero _ _)
  have HQ := Lib.hid hq
  have HS := Lib.hid (HS2.out.below hX hX.size)
  have HB := Lib.hid (HB2.out.trans (hX.mono HB2.out.size))
  have R3 := Lib.hid r3
  clear r0 r1 r3 hX hq hW
  have h1 := query_any p typesL _ 5 1 es1 W HS.out typesL_len HQ.out
  rw [q_one 5 1 rfl, if_neg (by decide)] at h1
  refine h1.mono ?_
  rintro e w3 ⟨rfl, hb3⟩
  have HB3 := Lib.hid (HB.out.trans (hb3.mono HB.out.size))
  have R33 := Lib.hid (Row.below R3.out hb3 R3.out.lt)
  have h2 := query_any p typesL _ 0 1 es1 w3 (HS.out.below hb3 hb3.size) typesL_len (HQ.out.below hb3 hb3.size)
  rw [q_one 0 1 rfl, if_pos (by decide)] at h2
  have H2 := Lib.hid h2
  have d0 : w3.cell? ⟨w2.heap.size + 1 + 1 + 1, 0, none⟩ = some (.slice (some ⟨w2.heap.size + 1, 0, none⟩) 1 1) := (R33.out.cell 0).trans rfl
  have d1 : w3.cell? ⟨w2.heap.size + 1 + 1 + 1, 1, none⟩ = some (.int .i64 0) := (R33.out.cell 1).trans rfl
  have d2 : w3.cell? ⟨w2.heap.size + 1 + 1 + 1, 2, none⟩ = some (.int .i64 1) := (R33.out.cell 2).trans rfl
  clear h1 h2 hb3
  go_wp2_with fail
  refine H2.out.mono ?_
  rintro e w4 ⟨rfl, hb4⟩
  have HB4 := Lib.hid (HB3.out.trans (hb4.mono HB3.out.size))
  clear hb4 d0 d1 d2
  go_wp2
  go_ret
  exact ⟨rfl, HB4.out⟩
end Go.Proofs.Ytopbildpeojgoaa.Ck
end

section
namespace Go.Proofs.Ytopbildpeojgoaa.Ck
open Go.RowKit Go.Proofs.Ytopbildpeojgoaa Go.Proofs.Ytopbildpeojgoaa.Sch Go.Proofs.Ytopbildpeojgoaa.Ty
set_option linter.unusedVariables false
set_option maxRecDepth 100000
theorem lies_mono {w : World} {B B' : Nat} {A : Option Addr} {n : Nat} {v : Nat → Value} (h : Lies w B A n v) (hB : B ≤ B') : Lies w B' A n v := fun k hk => by
  obtain ⟨g, o, e, hg, hc⟩ := h k hk
  exact ⟨g, o, e, Nat.lt_of_lt_of_le hg hB, hc⟩
theorem flat_get (es : List Pq.El) : ∀ (k : Nat) (h : k < es.length) (j : Nat) (u : Value), (es[k].cells)[j]? = some u → (es.flatMap Pq.El.cells)[k * 6 + j]? = some u := by
  induction es with
  | nil => intro k h; simp at h
  | cons p ps ih =>
    intro k h j u hj
    rw [List.flatMap_cons]
    cases k with
    | zero =>
      have hl : j < p.cells.length := (List.getElem?_eq_some_iff.1 hj).1
      rw [Nat.zero_mul, Nat.zero_add, List.getElem?_append_left hl]
      exact hj
    | succ k =>
      rw [List.getElem?_append_right (by simp [Pq.El.cells]; omega)]
      have e : (k + 1) * 6 + j - p.cells.length = k * 6 + j := by simp [Pq.El.cells]; omega
      rw [e]
      exact ih k (by simpa using h) j u hj
theorem ncells_map (l : List Pq.Nd) : ncells (l.map toN) = l.flatMap Pq.Nd.cells := by
  induction l with
  | nil => rfl
  | cons a l ih =>
    unfold ncells at ih ⊢
    rw [List.map_cons, List.flatMap_cons, List.flatMap_cons, ih]
    rfl
theorem el_ts {w : World} {B : Nat} {P : Nat → Prop} {e : Pq.El} (h : Pq.ElOk w B P e) : SL w w.heap.size (.slice (some ⟨e.tb, 0, none⟩) e.ts.length e.ts.length) e.ts :=
  ⟨_, _, rfl, Nat.le_refl _, by have := h.ln; omega, fun k hk => ⟨e.tb, 0, rfl, h.ts.1.lt, by
    rw [Nat.zero_add]
    exact (h.ts.1.cell k).trans (by simp [hk])⟩⟩
theorem el_pr {w : World} {B : Nat} {P : Nat → Prop} {e : Pq.El} (h : Pq.ElOk w B P e) : Ns w w.heap.size e.pv (e.nds.map toN) := by
  cases hp : e.pb with
  | none =>
    rw [show e.pv = .slice none 0 0 from by unfold Pq.El.pv; rw [hp], h.no.1 hp]
    exact ns_zero _ _
  | some b =>
    rw [show e.pv = .slice (some ⟨b, 0, none⟩) e.nds.length e.nds.length from by unfold Pq.El.pv; rw [hp]]
    exact ns_row (h.pr b hp).1 (by rw [ncells_map]) (by simp) (by have := h.ln; omega)
theorem qs_qi {w0 w : World} {qb : Nat} {v : Value} {win cap : Int} {es : List Pq.El} (h : Pq.QI w0 w qb v win cap es) : Qs w w.heap.size v (es.map toQ) := by
  obtain ⟨ob, hs, _, h3⟩ := h.sg
  obtain ⟨A, c', rfl, h1, h2⟩ := hs.form
  have hlen : (es.map toQ).length = es.length := by simp
  refine ⟨_, c', by rw [hlen], by rw [hlen]; exact h1, by unfold maxLen at h2; omega, fun k hk => ?_⟩
  have hk' : k < es.length := by rw [← hlen]; exact hk
  obtain ⟨g, o, cap, e, ho, _, _, hc, _⟩ := hs.shape (by omega)
  injection e with e1 e2 e3
  subst e1
  have hcell : ∀ j u, (es[k].cells)[j]? = some u → w.cell? ⟨g, o + k * 6 + j, none⟩ = some u := fun j u hj => by
    rw [Nat.add_assoc]
    exact hc _ _ (flat_get es k hk' j u hj)
  have hm := h3 _ (List.getElem_mem hk')
  rw [List.getElem_map]
  exact ⟨g, o, _, _, rfl, hs.lt g ho, hcell 0 _ rfl, hcell 1 _ rfl, hcell 2 _ rfl, hcell 3 _ rfl, hcell 4 _ rfl, hcell 5 _ rfl, el_ts hm, el_pr hm⟩
end Go.Proofs.Ytopbildpeojgoaa.Ck
end
