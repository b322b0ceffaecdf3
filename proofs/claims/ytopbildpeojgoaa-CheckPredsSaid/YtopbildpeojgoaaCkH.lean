/- What the queries of CheckPreds come to. -/
import Derived.Test.YtopbildpeojgoaaCkG
import Derived.Test.YtopbildpeojgoaaTyP
namespace Go.Proofs.Ytopbildpeojgoaa.Ck
open Go.RowKit Go.Proofs.Ytopbildpeojgoaa Go.Proofs.Ytopbildpeojgoaa.Sch Go.Proofs.Ytopbildpeojgoaa.Ty
set_option linter.unusedVariables false
set_option maxRecDepth 100000
def tA : ByteArray := ⟨#[65]⟩
def tB : ByteArray := ⟨#[66]⟩
def tC : ByteArray := ⟨#[67]⟩
def vA : ByteArray := ⟨#[97]⟩
def vB : ByteArray := ⟨#[98]⟩
def vC : ByteArray := ⟨#[99]⟩
def vW : ByteArray := ⟨#[119]⟩
def fx (v : ByteArray) : Nd := ⟨2, 0, 0, ⟨#[]⟩, false, v, ⟨#[120]⟩⟩
def one : Nd := ⟨1, 1, 1, ⟨#[]⟩, false, ⟨#[]⟩, ⟨#[]⟩⟩
def txt : Nd := ⟨1, 2, 0, ⟨#[117]⟩, false, ⟨#[]⟩, ⟨#[]⟩⟩
def prL (v : ByteArray) (j : Nat) : List Nd := match j with
  | 0 => [fx v, one, opn 9]
  | 1 => [fx v, one, opn 4]
  | 2 => [fx v, txt, opn 7]
  | _ => [fx v, one]
def esP (v : ByteArray) (j : Nat) (m : Int) (neg : Bool) : List Qe := [⟨vA, [tA], false, 1, m, []⟩, ⟨vB, [tB], neg, 1, 1, prL v j⟩, ⟨vC, [tC], false, 1, 1, []⟩]
theorem scope_1 (v : ByteArray) (j : Nat) (neg : Bool) : scopeM (esP v j 1 neg) 1 = [(vA, [tA]), (vB, [tB])] := by
  simp [scopeM, scopeK, scP, esP]
theorem scope_2 (v : ByteArray) (j : Nat) (neg : Bool) : scopeM (esP v j 2 neg) 1 = [(vB, [tB])] := by
  simp [scopeM, scopeK, scP, esP]
theorem tyA : typesM typesL [] [tA] = 0 := by
  unfold typesM
  rw [show idx (typesL.map Prod.fst) tA = (0 : Nat) from by rw [idx_data]; rfl, if_neg (by decide), show hasB [] tA = false from by unfold hasB; rw [idx_data]; rfl]
  rfl
theorem tyB : typesM typesL [] [tB] = 0 := by
  unfold typesM
  rw [show idx (typesL.map Prod.fst) tB = (1 : Nat) from by rw [idx_data]; rfl, if_neg (by decide), show hasB [] tB = false from by unfold hasB; rw [idx_data]; rfl]
  rfl
theorem tyC : typesM typesL [] [tC] = 0 := by
  unfold typesM
  rw [show idx (typesL.map Prod.fst) tC = (2 : Nat) from by rw [idx_data]; rfl, if_neg (by decide), show hasB [] tC = false from by unfold hasB; rw [idx_data]; rfl]
  rfl
theorem elem_ok {T : List Ty} {es : List Qe} {at' : Nat} {e : Qe} (h1 : nameB e.v.data.toList = true) (h2 : 0 < e.ts.length) (h3 : e.ts.length ≤ 16) (h4 : ¬ idx (es.map Qe.v) e.v < (at' : Int)) (h5 : typesM T [] e.ts = 0) (h6 : oftenM e.neg e.mn e.mx = true) : elemM T es at' e = predM T (scopeM es at') e.pr := by
  unfold elemM
  rw [if_neg (by rintro (h | h | h)
                 · rw [h1] at h; cases h
                 · omega
                 · omega), if_neg h4, if_neg (by rw [h5]; decide), if_neg (by rw [h6]; decide)]
theorem pred_nil (T : List Ty) (bs : List Bd) : predM T bs [] = 0 := by unfold predM; exact if_pos rfl
theorem query_p (v : ByteArray) (j : Nat) (m : Int) (neg : Bool) (hm : m = 1 ∨ m = 2) : queryM typesL (esP v j m neg) 5 5 = predM typesL (scopeM (esP v j m neg) 1) (prL v j) := by
  have hl : (esP v j m neg).length = 3 := rfl
  have hv : (esP v j m neg).map Qe.v = [vA, vB, vC] := rfl
  have h0 : elemM typesL (esP v j m neg) 0 ⟨vA, [tA], false, 1, m, []⟩ = 0 := by
    have := elem_ok (T := typesL) (es := esP v j m neg) (at' := 0) (e := ⟨vA, [tA], false, 1, m, []⟩) rfl (show 0 < 1 by decide) (show 1 ≤ 16 by decide) (show ¬ idx [vA, vB, vC] vA < ((0 : Nat) : Int) by rw [idx_data]; decide) tyA (by rcases hm with rfl | rfl <;> rfl)
    rw [this]; exact pred_nil _ _
  have h1 : elemM typesL (esP v j m neg) 1 ⟨vB, [tB], neg, 1, 1, prL v j⟩ = predM typesL (scopeM (esP v j m neg) 1) (prL v j) :=
    elem_ok (T := typesL) (es := esP v j m neg) (at' := 1) (e := ⟨vB, [tB], neg, 1, 1, prL v j⟩) rfl (show 0 < 1 by decide) (show 1 ≤ 16 by decide) (show ¬ idx [vA, vB, vC] vB < ((1 : Nat) : Int) by rw [idx_data]; decide) tyB (by cases neg <;> rfl)
  have h2 : elemM typesL (esP v j m neg) 2 ⟨vC, [tC], false, 1, 1, []⟩ = 0 := by
    have := elem_ok (T := typesL) (es := esP v j m neg) (at' := 2) (e := ⟨vC, [tC], false, 1, 1, []⟩) rfl (show 0 < 1 by decide) (show 1 ≤ 16 by decide) (show ¬ idx [vA, vB, vC] vC < ((2 : Nat) : Int) by rw [idx_data]; decide) tyC rfl
    rw [this]; exact pred_nil _ _
  have hE : elemsM typesL (esP v j m neg) 3 0 = predM typesL (scopeM (esP v j m neg) 1) (prL v j) := by
    rw [elemsM_ok (n := 2) (k := 0) rfl h0]
    by_cases hp : predM typesL (scopeM (esP v j m neg) 1) (prL v j) = 0
    · rw [elemsM_ok (n := 1) (k := 1) rfl (by rw [h1]; exact hp), elemsM_ok (n := 0) (k := 2) rfl h2, hp]
      rfl
    · rw [elemsM_no (n := 1) (k := 1) rfl (by rw [h1]; exact hp), h1]
  unfold queryM
  rw [hl, hE, if_neg (by decide), if_neg (by simp [negAt, esP])]
  by_cases hp : predM typesL (scopeM (esP v j m neg) 1) (prL v j) = 0
  · rw [if_neg (by rw [hp]; decide), if_neg (by decide), if_neg (by decide), hp]
  · rw [if_pos hp]
theorem gx {n f : ByteArray} {i j : Nat} {t : Ty} {x : Fld} (h1 : idx (typesL.map Prod.fst) n = (i : Nat)) (ht : typesL[i]? = some t) (h2 : idx (t.2.map Prod.fst) f = (j : Nat)) (hx : t.2[j]? = some x) : fieldS typesL n f = (((j : Nat) : Int), x.2) := by
  unfold fieldS
  rw [h1, Int.toNat_natCast, ht]
  dsimp only
  rw [h2, if_neg (by omega), Int.toNat_natCast, hx]
  dsimp only
  rw [if_neg (by omega)]
theorem gxA : fieldS typesL tA ⟨#[120]⟩ = (0, 1) := gx (i := 0) (j := 0) (by rw [idx_data]; rfl) rfl (by rw [idx_data]; rfl) rfl
theorem gxB : fieldS typesL tB ⟨#[120]⟩ = (0, 1) := gx (i := 1) (j := 0) (by rw [idx_data]; rfl) rfl (by rw [idx_data]; rfl) rfl
theorem fk {bs : List Bd} {v : ByteArray} {i : Nat} {b : Bd} (h : idx (bs.map Prod.fst) v = i) (hb : bs[i]? = some b) (ht : b.2 = [tA] ∨ b.2 = [tB]) : fieldK typesL bs v ⟨#[120]⟩ = (1, 0) := by
  rw [fieldK_at h hb]
  rcases ht with e | e
  · rw [e]; simp [clF, gxA]; rfl
  · rw [e]; simp [clF, gxB]; rfl
theorem good_p {v : ByteArray} (hv : nameB v.data.toList = true) {n : Nd} (hn : OkN n) (hp : partsI n.op = 0) {o : Int} (h1 : 3 ≤ o) (h2 : o ≤ 15) (h3 : partsI o = 2) : Ty.Good [fx v, n, opn o] := by
  refine ⟨by simp, fun j hj => ?_, fun j hj => ?_, ?_⟩
  · match j, hj with
    | 0, _ => exact .field hv rfl
    | 1, _ => exact hn
    | 2, _ => exact .op o h1 h2
  · match j, hj with
    | 0, _ => show partsI 2 ≤ dep []; decide
    | 1, _ => show partsI n.op ≤ (1 - partsI 2) + 0; rw [hp]; decide
    | 2, _ => show partsI o ≤ (1 - partsI 2) + ((1 - partsI n.op) + 0); rw [h3, hp]; decide
  · show (1 - partsI 2) + ((1 - partsI n.op) + ((1 - partsI o) + 0)) = 1
    rw [h3, hp]
    decide
theorem bad_p {v : ByteArray} : ¬ Ty.Good [fx v, one] := fun h => by
  have := h.one
  revert this
  show ¬ ((1 - partsI 2) + ((1 - partsI 1) + 0) = 1)
  decide
theorem kind_seen {bs : List Bd} {v : ByteArray} (hk : fieldK typesL bs v ⟨#[120]⟩ = (1, 0)) (kn : Int) (n : Nd) (hn : ∀ L, partK typesL bs n L = (kn, 0)) (hp : partsI n.op = 0) (o : Int) (h1 : 3 ≤ o) (h3 : partsI o = 2) (r : Int × Int) (hr : opK o [1, kn] = r) : kindS typesL bs [fx v, n, opn o] [] = if r.2 = 0 then (r.1, 0) else (0, r.2) := by
  have e1 : stepK typesL bs [] (fx v) = (1, 0) := by
    unfold stepK partK
    rw [if_neg (show ¬ (fx v).op = 1 from (show ¬ (2 : Int) = 1 by decide)), if_pos (show (fx v).op = 2 from rfl)]
    exact hk
  rw [kindS_cons, e1, if_pos rfl]
  show kindS typesL bs [n, opn o] [1] = _
  have e2 : stepK typesL bs [1] n = (kn, 0) := hn _
  rw [kindS_cons, e2, if_pos rfl, hp]
  show kindS typesL bs [opn o] [1, kn] = _
  have e3 : stepK typesL bs [1, kn] (opn o) = r := by
    unfold stepK partK
    rw [if_neg (show ¬ (opn o).op = 1 from (show ¬ o = 1 by omega)), if_neg (show ¬ (opn o).op = 2 from (show ¬ o = 2 by omega))]
    show opK o (List.drop ([1, kn].length - (partsI o).toNat) [1, kn]) = r
    rw [h3]
    exact hr
  rw [kindS_cons, e3]
  by_cases h : r.2 = 0
  · rw [if_pos h, if_pos h]
    show kindS typesL bs [] (List.take ([1, kn].length - (partsI o).toNat) [1, kn] ++ [r.1]) = _
    rw [h3]
    rfl
  · rw [if_neg h, if_neg h]
theorem kind_unseen {bs : List Bd} {v : ByteArray} (hk : fieldK typesL bs v ⟨#[120]⟩ = (0, 3)) (l : List Nd) : kindS typesL bs (fx v :: l) [] = (0, 3) := by
  have e1 : stepK typesL bs [] (fx v) = (0, 3) := by
    unfold stepK partK
    rw [if_neg (show ¬ (fx v).op = 1 from (show ¬ (2 : Int) = 1 by decide)), if_pos (show (fx v).op = 2 from rfl)]
    exact hk
  rw [kindS_cons, e1]
  rfl
theorem predM_of {T : List Ty} {bs : List Bd} {l : List Nd} (h0 : 0 < l.length) (r : Int × Int) (hr : kindQ T bs l = r) : predM T bs l = if r.2 = 0 ∧ r.1 ≠ 3 then 10 else r.2 := by
  unfold predM
  rw [if_neg (by omega), hr]
def wantS (j : Nat) : Int := match j with
  | 0 => 0
  | 1 => 10
  | 2 => 10
  | _ => 1
def wantN (j : Nat) : Int := match j with
  | 0 => 3
  | 1 => 3
  | 2 => 3
  | _ => 1
theorem ok_one : OkN one := .const (.num 1 (by decide))
theorem ok_txt : OkN txt := .const (.text ⟨#[117]⟩ (by decide))
theorem kindQ_yes {T : List Ty} {bs : List Bd} {l : List Nd} (h : Ty.Good l) : kindQ T bs l = kindS T bs l [] := if_pos h
theorem kindQ_no {T : List Ty} {bs : List Bd} {l : List Nd} (h : ¬ Ty.Good l) : kindQ T bs l = (0, 1) := if_neg h
/-- What a predicate of CheckPreds comes to, where its variable may be had. -/
theorem pred_seen {bs : List Bd} {v : ByteArray} (hv : nameB v.data.toList = true) (hk : fieldK typesL bs v ⟨#[120]⟩ = (1, 0)) (j : Nat) : predM typesL bs (prL v j) = wantS j := by
  match j with
  | 0 => exact (predM_of (l := prL v 0) (show 0 < 3 by decide) (3, 0) ((kindQ_yes (good_p hv ok_one rfl (o := 9) (by decide) (by decide) rfl)).trans (kind_seen hk 1 one (fun _ => rfl) rfl 9 (by decide) rfl (3, 0) rfl))).trans (by decide)
  | 1 => exact (predM_of (l := prL v 1) (show 0 < 3 by decide) (1, 0) ((kindQ_yes (good_p hv ok_one rfl (o := 4) (by decide) (by decide) rfl)).trans (kind_seen hk 1 one (fun _ => rfl) rfl 4 (by decide) rfl (1, 0) rfl))).trans (by decide)
  | 2 => exact (predM_of (l := prL v 2) (show 0 < 3 by decide) (0, 10) ((kindQ_yes (good_p hv ok_txt rfl (o := 7) (by decide) (by decide) rfl)).trans (kind_seen hk 2 txt (fun _ => rfl) rfl 7 (by decide) rfl (0, 10) rfl))).trans (by decide)
  | j + 3 => exact (predM_of (l := prL v (j + 3)) (show 0 < 2 by decide) (0, 1) (kindQ_no bad_p)).trans (show (if (1 : Int) = 0 ∧ (0 : Int) ≠ 3 then (10 : Int) else 1) = 1 by decide)
theorem pred_unseen {bs : List Bd} {v : ByteArray} (hv : nameB v.data.toList = true) (hk : fieldK typesL bs v ⟨#[120]⟩ = (0, 3)) (j : Nat) : predM typesL bs (prL v j) = wantN j := by
  match j with
  | 0 => exact (predM_of (l := prL v 0) (show 0 < 3 by decide) (0, 3) ((kindQ_yes (good_p hv ok_one rfl (o := 9) (by decide) (by decide) rfl)).trans (kind_unseen hk _))).trans (by decide)
  | 1 => exact (predM_of (l := prL v 1) (show 0 < 3 by decide) (0, 3) ((kindQ_yes (good_p hv ok_one rfl (o := 4) (by decide) (by decide) rfl)).trans (kind_unseen hk _))).trans (by decide)
  | 2 => exact (predM_of (l := prL v 2) (show 0 < 3 by decide) (0, 3) ((kindQ_yes (good_p hv ok_txt rfl (o := 7) (by decide) (by decide) rfl)).trans (kind_unseen hk _))).trans (by decide)
  | j + 3 => exact (predM_of (l := prL v (j + 3)) (show 0 < 2 by decide) (0, 1) (kindQ_no bad_p)).trans (show (if (1 : Int) = 0 ∧ (0 : Int) ≠ 3 then (10 : Int) else 1) = 1 by decide)
theorem scope_m {v : ByteArray} {j : Nat} {m : Int} {neg : Bool} (hm : m = 1 ∨ m = 2) : scopeM (esP v j m neg) 1 = if m = 1 then [(vA, [tA]), (vB, [tB])] else [(vB, [tB])] := by
  rcases hm with rfl | rfl
  · exact scope_1 _ _ _
  · exact scope_2 _ _ _
theorem q_b (j : Nat) (m : Int) (neg : Bool) (hm : m = 1 ∨ m = 2) : queryM typesL (esP vB j m neg) 5 5 = wantS j := by
  rw [query_p vB j m neg hm, scope_m hm]
  refine pred_seen rfl ?_ j
  rcases hm with rfl | rfl
  · exact fk (i := 1) (b := (vB, [tB])) (by rw [idx_data]; rfl) rfl (.inr rfl)
  · exact fk (i := 0) (b := (vB, [tB])) (by rw [idx_data]; rfl) rfl (.inr rfl)
theorem q_a1 (j : Nat) (neg : Bool) : queryM typesL (esP vA j 1 neg) 5 5 = wantS j := by
  rw [query_p vA j 1 neg (.inl rfl), scope_1]
  exact pred_seen rfl (fk (i := 0) (b := (vA, [tA])) (by rw [idx_data]; rfl) rfl (.inl rfl)) j
theorem q_a2 (j : Nat) (neg : Bool) : queryM typesL (esP vA j 2 neg) 5 5 = wantN j := by
  rw [query_p vA j 2 neg (.inr rfl), scope_2]
  exact pred_unseen rfl (fieldK_no (by rw [idx_data]; decide)) j
theorem q_c (j : Nat) (m : Int) (neg : Bool) (hm : m = 1 ∨ m = 2) : queryM typesL (esP vC j m neg) 5 5 = wantN j := by
  rw [query_p vC j m neg hm, scope_m hm]
  refine pred_unseen rfl ?_ j
  rcases hm with rfl | rfl
  · exact fieldK_no (by rw [idx_data]; decide)
  · exact fieldK_no (by rw [idx_data]; decide)
theorem q_w (j : Nat) (m : Int) (neg : Bool) (hm : m = 1 ∨ m = 2) : queryM typesL (esP vW j m neg) 5 5 = wantN j := by
  rw [query_p vW j m neg hm, scope_m hm]
  refine pred_unseen rfl ?_ j
  rcases hm with rfl | rfl
  · exact fieldK_no (by rw [idx_data]; decide)
  · exact fieldK_no (by rw [idx_data]; decide)
end Go.Proofs.Ytopbildpeojgoaa.Ck
