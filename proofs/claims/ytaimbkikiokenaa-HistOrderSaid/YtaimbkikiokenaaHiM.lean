/- A history, made: whatever it is, it is one of events. -/
import Derived.Test.YtaimbkikiokenaaHiJs
import Derived.Deep.DeepCutAuto
import Derived.Deep.CutBlock
namespace Go.Proofs.Ytaimbkikiokenaa.Hi
open Go.RowKit Go.Proofs.Ytaimbkikiokenaa Go.Maps
set_option linter.unusedVariables false
set_option maxRecDepth 100000
/-- A number that a history has. -/
def NB (n : Int) : Prop := -1 ≤ n ∧ n ≤ 100
/-- What made holds between rounds. -/
structure Md (w0 w : World) (v : Value) (ob : Option Nat) (es : List Hv) (ab nb : Nat) (nn : Nat → Int) (k B : Nat) : Prop where
  be : Below w0.heap.size w0 w
  sg : Seg w 144 11 v es.length (ecells es) ob
  og : ∀ g, ob = some g → w0.heap.size ≤ g
  an : ∃ a : Nat → Int, Tab w ab 41 3 (fun i => .int .i64 (a i))
  nt : Tab w nb 41 3 (fun i => .int .i64 (nn i))
  ne : ab ≠ nb
  ag : w0.heap.size ≤ ab
  ng : w0.heap.size ≤ nb
  bd : ∀ i, 0 ≤ nn i ∧ nn i ≤ B
  ev : ∀ (i : Nat) (e : Hv), es[i]? = some e → I64 e.c ∧ NB e.n
  ln : es.length = k
/-- .. and its event, at eb. -/
structure Me (w0 w : World) (v : Value) (ob : Option Nat) (es : List Hv) (ab nb : Nat) (nn : Nat → Int) (k B eb : Nat) (e : Hv) : Prop where
  md : Md w0 w v ob es ab nb nn k B
  er : Row w eb 144 e.cells.toArray
  eo : ob ≠ some eb
  eg : w0.heap.size ≤ eb
section
variable {w0 w w' : World} {v : Value} {ob : Option Nat} {es : List Hv} {ab nb k B eb : Nat} {nn : Nat → Int} {e : Hv}
theorem Md.call (h : Md w0 w v ob es ab nb nn k B) (g : Below w.heap.size w w') : Md w0 w' v ob es ab nb nn k B := by
  obtain ⟨a, ha⟩ := h.an
  exact ⟨h.be.trans (g.mono h.be.size), h.sg.turns (Turns.of_below g) (fun _ _ x => x), h.og, ⟨a, ha.below g ha.lt⟩, h.nt.below g h.nt.lt, h.ne, h.ag, h.ng, h.bd, h.ev, h.ln⟩
theorem Me.putA (h : Me w0 w v ob es ab nb nn k B eb e) (i : Nat) (u : Int) : Me w0 (w.setCell ⟨ab, i, none⟩ (.int .i64 u)) v ob es ab nb nn k B eb e := by
  obtain ⟨a, ha⟩ := h.md.an
  obtain ⟨cs, hra, _⟩ := id ha
  have hs := h.md.sg
  refine ⟨⟨h.md.be.setCell (p := ⟨ab, i, none⟩) h.md.ag _, hs.past (p := ⟨ab, i, none⟩) (fun e => ?_) _, h.md.og, ⟨fun j => if j = i then u else a j, ?_⟩, ?_, h.md.ne, h.md.ag, h.md.ng, h.md.bd, h.md.ev, h.md.ln⟩, h.er.past (row_ne h.er hra (by decide)) _, h.eo, h.eg⟩
  · subst e
    obtain ⟨c', hr'⟩ := seg_row hs
    exact row_ne hr' hra (by decide) rfl
  · exact ha.put i _ (fun j hj hn => by show _ = Value.int .i64 (if j = i then u else a j); rw [if_neg hn]) (fun _ => by show _ = Value.int .i64 (if i = i then u else a i); rw [if_pos rfl])
  · obtain ⟨c2, hr2, hsz, hcs⟩ := h.md.nt
    exact ⟨c2, hr2.past (fun e => h.md.ne e.symm) _, hsz, hcs⟩
theorem Me.putN (h : Me w0 w v ob es ab nb nn k B eb e) (i : Nat) (u : Int) (hu : 0 ≤ u ∧ u ≤ B + 1) : Me w0 (w.setCell ⟨nb, i, none⟩ (.int .i64 u)) v ob es ab nb (fun j => if j = i then u else nn j) k (B + 1) eb e := by
  obtain ⟨cs, hrn, _⟩ := id h.md.nt
  have hs := h.md.sg
  refine ⟨⟨h.md.be.setCell (p := ⟨nb, i, none⟩) h.md.ng _, hs.past (p := ⟨nb, i, none⟩) (fun e => ?_) _, h.md.og, ?_, ?_, h.md.ne, h.md.ag, h.md.ng, fun j => ?_, h.md.ev, h.md.ln⟩, h.er.past (row_ne h.er hrn (by decide)) _, h.eo, h.eg⟩
  · subst e
    obtain ⟨c', hr'⟩ := seg_row hs
    exact row_ne hr' hrn (by decide) rfl
  · obtain ⟨a, c2, hr2, hsz, hcs⟩ := h.md.an
    exact ⟨a, c2, hr2.past h.md.ne _, hsz, hcs⟩
  · exact h.md.nt.put i _ (fun j hj hn => by show _ = Value.int .i64 (if j = i then u else nn j); rw [if_neg hn]) (fun _ => by show _ = Value.int .i64 (if i = i then u else nn i); rw [if_pos rfl])
  · show 0 ≤ (if j = i then u else nn j) ∧ (if j = i then u else nn j) ≤ _
    have := h.md.bd j
    split <;> omega
theorem Me.mono (h : Me w0 w v ob es ab nb nn k B eb e) : Me w0 w v ob es ab nb nn k (B + 1) eb e :=
  ⟨⟨h.md.be, h.md.sg, h.md.og, h.md.an, h.md.nt, h.md.ne, h.md.ag, h.md.ng, fun j => by have := h.md.bd j; omega, h.md.ev, h.md.ln⟩, h.er, h.eo, h.eg⟩
theorem Me.putE (h : Me w0 w v ob es ab nb nn k B eb e) (j : Nat) (u : Value) (e' : Hv) (he : e'.cells.toArray = e.cells.toArray.setIfInBounds j u) : Me w0 (w.setCell ⟨eb, j, none⟩ u) v ob es ab nb nn k B eb e' := by
  obtain ⟨a, cs, hra, hsz, hcs⟩ := h.md.an
  obtain ⟨c2, hr2, hsz2, hcs2⟩ := h.md.nt
  exact ⟨⟨h.md.be.setCell (p := ⟨eb, j, none⟩) h.eg _, h.md.sg.past (p := ⟨eb, j, none⟩) h.eo _, h.md.og, ⟨a, cs, hra.past (row_ne hra h.er (by decide)) _, hsz, hcs⟩, ⟨c2, hr2.past (row_ne hr2 h.er (by decide)) _, hsz2, hcs2⟩, h.md.ne, h.md.ag, h.md.ng, h.md.bd, h.md.ev, h.md.ln⟩, by rw [he]; exact h.er.put j u, h.eo, h.eg⟩
theorem Me.c (h : Me w0 w v ob es ab nb nn k B eb e) (i : Nat) (u : Value) (hu : e.cells[i]? = some u) : w.cell? ⟨eb, i, none⟩ = some u := by
  rw [h.er.cell]
  simpa using hu
theorem Md.start (w : World) : Md w (((w.alloc (.cells #[] 144)).alloc (.cells #[.int .i64 0, .int .i64 0, .int .i64 0] 41)).alloc (.cells #[.int .i64 0, .int .i64 0, .int .i64 0] 41)) (.slice (some ⟨w.heap.size, 0, none⟩) 0 0) none [] (w.heap.size + 1) (w.heap.size + 1 + 1) (fun _ => 0) 0 0 := by
  have tz : ∀ (W : World) (b : Nat), Row W b 41 #[.int .i64 0, .int .i64 0, .int .i64 0] → Tab W b 41 3 (fun i => .int .i64 0) := fun W b h => ⟨_, h, rfl, fun i hi => by
    match i, hi with
    | 0, _ => rfl
    | 1, _ => rfl
    | 2, _ => rfl⟩
  refine ⟨(((Below.refl _ w).alloc (Nat.le_refl _) _).alloc (by simp) _).alloc (by simp; omega) _, seg_zeroK _ _ _ _, fun g h => (by cases h), ⟨fun _ => 0, tz _ _ ?_⟩, tz _ _ ?_, by omega, by omega, by omega, fun i => ⟨by omega, by omega⟩, fun i e h => (by simp at h), rfl⟩
  · exact (row_at (by simp)).alloc _
  · exact row_at (by simp)
end
theorem ev_one (x : Hv) : ∀ u ∈ x.cells, u.oneCell' = true := fun u hu => List.all_eq_true.1 (show x.cells.all (fun u => u.oneCell') = true from rfl) u hu
theorem Me.push {w0 w w2 : World} {v v2 : Value} {ob ob2 : Option Nat} {es : List Hv} {ab nb k B eb : Nat} {nn : Nat → Int} {x : Hv} {o : Obj} (h : Me w0 w v ob es ab nb nn k B eb x) (hc : I64 x.c) (hn : NB x.n)
    (hs : Seg w2 144 11 v2 (k + 1) (ecells es ++ x.cells) ob2) (ht : Turns (w.alloc o) w2 (fun j => ob = some j)) (ho : ob2 = ob ∨ ∃ g, ob2 = some g ∧ (w.alloc o).heap.size ≤ g) : Md w0 w2 v2 ob2 (es ++ [x]) ab nb nn (k + 1) B := by
  have hz := h.md.be.size
  have hm := h.md.call ((Below.refl _ w).alloc (Nat.le_refl _) o)
  obtain ⟨a, cs, hra, hsz, hcs⟩ := hm.an
  obtain ⟨c2, hr2, hsz2, hcs2⟩ := hm.nt
  have hno : ∀ (b : Nat) (c : Array Value), Row (w.alloc o) b 41 c → ob ≠ some b := fun b c hr e => by
    have hs := hm.sg
    rw [e] at hs
    obtain ⟨c', hr'⟩ := seg_row hs
    exact row_ne hr' hr (by decide) rfl
  refine ⟨ht.below hm.be hm.be.size (fun j hj e => by have := h.md.og j e; omega), ?_, fun g hg => ?_, ⟨a, cs, hra.turns ht (hno _ _ hra), hsz, hcs⟩, ⟨c2, hr2.turns ht (hno _ _ hr2), hsz2, hcs2⟩, h.md.ne, h.md.ag, h.md.ng, h.md.bd, fun i y hy => ?_, by rw [List.length_append, h.md.ln]; rfl⟩
  · have hc : ecells (es ++ [x]) = ecells es ++ x.cells := by simp [ecells]
    rw [hc, List.length_append, h.md.ln]
    exact hs
  · rcases ho with rfl | ⟨g', rfl, hg'⟩
    · exact h.md.og g hg
    · cases hg
      simp at hg'
      omega
  · rw [List.getElem?_append] at hy
    split at hy
    · exact h.md.ev i y hy
    · have : i - es.length = 0 := by
        have := (List.getElem?_eq_some_iff.1 hy).1
        simp at this
        omega
      rw [this] at hy
      simp at hy
      subst hy
      exact ⟨hc, hn⟩
theorem ev_info : (Try.prog.info? 144).map (fun i => (i.zero, i.size, i.bytes)) = some (some (.agg #[.int .i64 0, .int .i64 0, .int .i64 0, .int .i64 0, .int .i64 0, .int .i64 0, .int .i64 0, .int .i64 0, .int .i64 0, .int .i64 0, .int .i64 0]), 11, 88) := by kernel_rfl
/-- What made hands back. -/
structure Mv (w0 w : World) (v : Value) (es : List Hv) : Prop where
  be : Below w0.heap.size w0 w
  sg : ∃ ob, Seg w 144 11 v es.length (ecells es) ob
  ev : ∀ (i : Nat) (e : Hv), es[i]? = some e → I64 e.c ∧ NB e.n
  ln : es.length ≤ 30
structure Ms (w0 w : World) (v : Value) (ab nb : Nat) (k : Nat) : Prop where
  st : ∃ ob es nn, Md w0 w v ob es ab nb nn k k
set_option maxHeartbeats 4000000 in
theorem made_any (A : Option Addr) (n c : Nat) (f : Nat → Int) (hn : n ≤ c) (hc : c ≤ 9223372036854775807) (hf : ∀ k, -9223372036854775808 ≤ f k ∧ f k ≤ 9223372036854775807) (od : Int) (hod : -9223372036854775808 ≤ od ∧ od ≤ 9223372036854775807) (w : World) (hl : Lies w w.heap.size A n (fun k => .int .i64 (f k))) :
    Calls Try.prog 47 #[.slice A n c, .int .i64 od] w fun e w' => ∃ v es, e = .returned v ∧ Mv w w' v es := by
  obtain ⟨i0, hi0, hz0, hz1, hz2⟩ := info_parts ev_info
  have HL := Lib.hid hl
  have HF := Lib.hid hf
  clear hl hf
  obtain ⟨m, hm⟩ : ∃ m : Nat, min n 30 = m := ⟨_, rfl⟩
  have HM0 : Hid (Ms w (((w.alloc (.cells #[] 144)).alloc (.cells #[.int .i64 0, .int .i64 0, .int .i64 0] 41)).alloc (.cells #[.int .i64 0, .int .i64 0, .int .i64 0] 41)) (.slice (some ⟨w.heap.size, 0, none⟩) 0 0) (w.heap.size + 1) (w.heap.size + 1 + 1) 0) := ⟨_, _, _, Md.start w⟩
  go_enter Try.func47, Try.ntmps47
  go_upto_region 3 with fail
  generalize (((w.alloc (.cells #[] 144)).alloc (.cells #[.int .i64 0, .int .i64 0, .int .i64 0] 41)).alloc (.cells #[.int .i64 0, .int .i64 0, .int .i64 0] 41)) = W0 at HM0 ⊢
  generalize w.heap.size + 1 + 1 = nb at HM0 ⊢
  generalize w.heap.size + 1 = ab at HM0 ⊢
  go_wp2
  go_loopw [8, 5, 9, 10] (fun v8 v5 s9 s10 wr => ∃ k : Nat, k ≤ m ∧ v8 = .int .i64 k ∧ Hid (Ms w wr v5 ab nb k)) (fun v8 _ _ _ _ => m - (intOf v8).toNat)
  case atStart => exact ⟨0, by omega, rfl, HM0⟩
  case round =>
    clear HM0
    obtain ⟨k, hkm, rfl, hT⟩ := hrel
    have HT := Lib.hid hT.out
    clear hT
    by_cases hlt : k < m
    · have hk1 : (k : Int) < (n : Int) := by omega
      have hk2 : (k : Int) < 30 := by omega
      obtain ⟨ob, es, nn, hM⟩ := HT.out.st
      obtain ⟨vA, vc, rfl, hv1, hv2⟩ := hM.sg.form
      have hv9 : vc ≤ 9223372036854775807 := by unfold maxLen at hv2; omega
      rw [hM.ln] at hM hv1 ⊢
      clear hv2
      obtain ⟨g, o, rfl, hg, hcx⟩ := HL.out k (by omega)
      have hcr : wr.cell? ⟨g, o + k, none⟩ = some (.int .i64 (f k)) := (hM.be.cell (p := ⟨g, o + k, none⟩) hg).trans hcx
      have h255 := and255 (f k)
      obtain ⟨q, hq⟩ : ∃ q : Nat, (f k % 256).tmod 3 = (q : Int) ∧ q < 3 := ⟨((f k % 256) % 3).toNat, by rw [Int.tmod_eq_emod_of_nonneg (by omega)]; omega, by omega⟩
      obtain ⟨hq1, hq3⟩ := hq
      have hqi : (q : Int) < 3 := by omega
      obtain ⟨a, ha⟩ := hM.an
      have ca := ha.cell hq3
      have cn := hM.nt.cell hq3
      have hbd := hM.bd q
      obtain ⟨aq, haq⟩ : ∃ aq, a q = aq := ⟨_, rfl⟩
      obtain ⟨nq, hnq⟩ : ∃ nq, nn q = nq := ⟨_, rfl⟩
      rw [haq] at ca
      rw [hnq] at cn hbd
      have HM := Lib.hid hM
      have hal := ha.lt
      have hnl := hM.nt.lt
      have hab : ab ≠ wr.heap.size := by omega
      have hnb : nb ≠ wr.heap.size := by omega
      have hcx0 := hcx
      clear ha hM hcx HT haq
      go_upto_if 38 with fail
      go_cut [] (fun wx => ∃ er tk : Int, wx = wr.alloc (.cells #[.int .i64 0, .int .i64 q, .int .i64 nq, .int .i64 er, .int .i64 tk, .int .i64 0, .int .i64 0, .int .i64 0, .int .i64 0, .int .i64 0, .int .i64 0] 144))
      case first =>
        by_cases hpos : 0 < aq
        · go_wp2
          go_meet
          exact ⟨_, _, rfl⟩
        · go_wp2
          go_meet
          exact ⟨_, _, rfl⟩
      case rest =>
        obtain ⟨er, tk, rfl⟩ := hcut
        have hI2 : I64 (q : Int) := ⟨by omega, by omega⟩
        have hI3 : NB nq := ⟨by omega, by omega⟩
        have hE : Me w (wr.alloc (.cells #[.int .i64 0, .int .i64 q, .int .i64 nq, .int .i64 er, .int .i64 tk, .int .i64 0, .int .i64 0, .int .i64 0, .int .i64 0, .int .i64 0, .int .i64 0] 144)) (.slice vA k vc) ob es ab nb nn k k wr.heap.size ⟨0, q, nq, er, tk⟩ :=
          ⟨HM.out.call ((Below.refl _ wr).alloc (Nat.le_refl _) _), Row.made _ _ _, fun e => by have := HM.out.sg.lt _ e; omega, HM.out.be.size⟩
        obtain ⟨a', ha'⟩ : ∃ a' : Nat → Int, Tab (wr.alloc (.cells #[.int .i64 0, .int .i64 q, .int .i64 nq, .int .i64 er, .int .i64 tk, .int .i64 0, .int .i64 0, .int .i64 0, .int .i64 0, .int .i64 0, .int .i64 0] 144)) ab 41 3 (fun i => .int .i64 (a' i)) := hE.md.an
        generalize wr.alloc (.cells #[.int .i64 0, .int .i64 q, .int .i64 nq, .int .i64 er, .int .i64 tk, .int .i64 0, .int .i64 0, .int .i64 0, .int .i64 0, .int .i64 0, .int .i64 0] 144) = W1 at hE ha' ⊢
        generalize wr.heap.size = eb at hE hab hnb hal hnl ⊢
        have b0 := hE.c 0 (.int .i64 0) rfl
        have bz := hE.er.free 0
        have da := ha'.cell hq3
        have dz := ha'.free q
        have dn := hE.md.nt.cell hq3
        have dm := hE.md.nt.free q
        rw [hnq] at dn
        obtain ⟨aq', haq'⟩ : ∃ aq', a' q = aq' := ⟨_, rfl⟩
        rw [haq'] at da
        have HE := Lib.hid hE
        have n1 : ab ≠ nb := hE.md.ne
        have n2 : nb ≠ ab := fun e => hE.md.ne e.symm
        have n3 : eb ≠ ab := fun e => hab e.symm
        have n4 : eb ≠ nb := fun e => hnb e.symm
        have cp : W1.cell? ⟨g, o + k, none⟩ = some (.int .i64 (f k)) := (hE.md.be.cell (p := ⟨g, o + k, none⟩) hg).trans hcx0
        have n5 : g ≠ eb := fun e => by have := hE.eg; omega
        have n6 : g ≠ ab := fun e => by have := hE.md.ag; omega
        have n7 : g ≠ nb := fun e => by have := hE.md.ng; omega
        clear hE ha' haq' hal hnl HM ca cn hcx0
        have H4 : Hid (nq ≤ k) := hbd.2
        go_upto_block 2 with fail
        go_cut [] (fun wx => ∃ (nn' : Nat → Int) (kd : Int), Hid (Me w wx (.slice vA k vc) ob es ab nb nn' k (k + 1) eb ⟨kd, q, nq, er, tk⟩))
        case first =>
          go_wp2
          · go_meet
            exact ⟨nn, 1, Lib.hid ((((HE.out.putE 0 (.int .i64 1) ⟨1, q, nq, er, tk⟩ rfl).putA q 1)).mono)⟩
          · go_meet
            exact ⟨nn, 2, Lib.hid ((((HE.out.putE 0 (.int .i64 2) ⟨2, q, nq, er, tk⟩ rfl).putA q 2)).mono)⟩
          all_goals
            go_meet
            exact ⟨_, 3, Lib.hid (((HE.out.putE 0 (.int .i64 3) ⟨3, q, nq, er, tk⟩ rfl).putA q 0).putN q (nq + 1) ⟨by omega, by omega⟩)⟩
        case rest =>
          obtain ⟨nn', kd, hE2⟩ := hcut
          have HE2 := Lib.hid hE2.out
          have b0 := HE2.out.c 0 (.int .i64 kd) rfl
          have b2 := HE2.out.c 2 (.int .i64 nq) rfl
          have b4 := HE2.out.c 4 (.int .i64 tk) rfl
          have z0 := HE2.out.er.free 0
          have z2 := HE2.out.er.free 2
          have z4 := HE2.out.er.free 4
          clear hE2 HE
          go_upto_if 83 with fail
          go_cut [] (fun wx => ∃ e : Hv, Hid (Me w wx (.slice vA k vc) ob es ab nb nn' k (k + 1) eb e ∧ I64 e.c ∧ NB e.n))
          case first =>
            go_wp2
            all_goals
              go_meet
              first
                | exact ⟨_, Lib.hid ⟨HE2.out, hI2, hI3⟩⟩
                | exact ⟨⟨1, q, nq, er, tk⟩, Lib.hid ⟨HE2.out.putE 0 _ _ rfl, hI2, hI3⟩⟩
                | exact ⟨⟨kd, q, nq + 1, er, tk⟩, Lib.hid ⟨HE2.out.putE 2 _ _ rfl, hI2, ⟨by show -1 ≤ nq + 1; omega, by show nq + 1 ≤ 100; omega⟩⟩⟩
                | exact ⟨⟨kd, q, nq, er, wrap64 (tk + 5)⟩, Lib.hid ⟨HE2.out.putE 4 _ _ rfl, hI2, hI3⟩⟩
                | exact ⟨⟨4, q, nq, er, tk⟩, Lib.hid ⟨HE2.out.putE 0 _ _ rfl, hI2, hI3⟩⟩
                | exact ⟨⟨kd, q, -1, er, tk⟩, Lib.hid ⟨HE2.out.putE 2 _ _ rfl, hI2, ⟨by show (-1 : Int) ≤ -1; decide, by show (-1 : Int) ≤ 100; decide⟩⟩⟩
          case rest =>
            obtain ⟨e, hE3⟩ := hcut
            have HE3 := Lib.hid hE3.out
            clear hE3 HE2 b0 b2 b4 z0 z2 z4
            obtain ⟨ek, ec, en, eerr, etick⟩ := e
            have x0 := HE3.out.1.c 0 (.int .i64 ek) rfl
            have x1 := HE3.out.1.c 1 (.int .i64 ec) rfl
            have x2 := HE3.out.1.c 2 (.int .i64 en) rfl
            have x3 := HE3.out.1.c 3 (.int .i64 eerr) rfl
            have x4 := HE3.out.1.c 4 (.int .i64 etick) rfl
            have x5 := HE3.out.1.c 5 (.int .i64 0) rfl
            have x6 := HE3.out.1.c 6 (.int .i64 0) rfl
            have x7 := HE3.out.1.c 7 (.int .i64 0) rfl
            have x8 := HE3.out.1.c 8 (.int .i64 0) rfl
            have x9 := HE3.out.1.c 9 (.int .i64 0) rfl
            have x10 := HE3.out.1.c 10 (.int .i64 0) rfl
            have hsk := HE3.out.1.md.sg
            rw [HE3.out.1.md.ln] at hsk
            have HSK := Lib.hid hsk
            clear hsk
            go_wp2_with (at_builtin; refine wpList_append_seg _ rfl _ _ 96 rfl 144 i0 _ 11 88 Try.underlying96 hi0 hz0 hz1 hz2 rfl (by decide) _ _ _ _ rfl (HSK.out.alloc _) ⟨wc.heap.size, 0, none⟩ 1 1 (Hv.cells ⟨ek, ec, en, eerr, etick⟩) rfl rfl (news_row (Row.made wc _ _)) (ev_one _) (by decide) (by unfold maxLen; omega) (by omega) ?_; intro v2 w3 ob2 hs2 ht2 ho2)
            have hMs : Ms w w3 v2 ab nb (k + 1) := ⟨ob2, es ++ [⟨ek, ec, en, eerr, etick⟩], nn', Me.push HE3.out.1 HE3.out.2.1 HE3.out.2.2 hs2 ht2 ho2⟩
            have HMs := Lib.hid hMs
            clear hMs hs2 ht2 ho2
            go_roundw
            case rel => exact ⟨k + 1, by omega, by go_num, HMs⟩
            case measure => simp [intOf]; omega
    · obtain rfl : k = m := by omega
      obtain ⟨ob, es, nn, hM⟩ := HT.out.st
      have HV : Hid (Mv w wr u5 es) := ⟨hM.be, ⟨ob, hM.sg⟩, hM.ev, by rw [hM.ln]; omega⟩
      clear hM HT
      have hex : (k = n ∧ ¬ (k : Int) < (n : Int)) ∨ (k = 30 ∧ (k : Int) < (n : Int) ∧ ¬ (k : Int) < 30) := by omega
      rcases hex with ⟨hkk, hex⟩ | ⟨hkk, hex, hex2⟩
      all_goals
        clear hkk
        go_wp2
        go_ret
        exact ⟨_, rfl, es, HV.out⟩
end Go.Proofs.Ytaimbkikiokenaa.Hi
