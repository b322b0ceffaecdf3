/- Names, Find and Field of a schema. -/
import Derived.Test.YtookojgemipakaaDoorSfC
namespace Go.Proofs.YtookojgemipakaaDoor.Sch
open Go.RowKit Go.Proofs.YtookojgemipakaaDoor
set_option linter.unusedVariables false
set_option maxRecDepth 100000
theorem fine_lt {ts : List Ty} {k j : Nat} (h : Fine ts k) (hj : j < ts.length) (hn : ¬ OkT ts j hj) : k ≤ j := by
  apply Nat.le_of_not_lt
  intro hlt
  exact hn (h j hj hlt)
theorem newR_one {ts : List Ty} {a b : Int} (ha : NewR ts a) (hb : NewR ts b) : a = b := by
  have key : ∀ (c : Int), NewR ts c → ts.length ≤ 16 → (c = 1 ∧ ∃ k, ∃ h : k < ts.length, Fine ts k ∧ ¬ MayT ts[k]) ∨ (c = 4 ∧ ∃ k, ∃ h : k < ts.length, Fine ts k ∧ MayT ts[k] ∧ ¬ OkT ts k h) ∨ (c = 0 ∧ Fine ts ts.length) := fun c hc hl => by
    rcases hc with ⟨h, _⟩ | ⟨_, k, hk, hf, hm, rfl⟩ | ⟨_, k, hk, hf, hm, hi, rfl⟩ | ⟨_, hf, rfl⟩
    · omega
    · exact .inl ⟨rfl, k, hk, hf, hm⟩
    · exact .inr (.inl ⟨rfl, k, hk, hf, hm, fun o => by have := o.2; omega⟩)
    · exact .inr (.inr ⟨rfl, hf⟩)
  by_cases hl : ts.length ≤ 16
  · rcases key a ha hl with ⟨rfl, k, hk, hf, hm⟩ | ⟨rfl, k, hk, hf, hm, ho⟩ | ⟨rfl, hf⟩
    · rcases key b hb hl with ⟨rfl, _⟩ | ⟨rfl, j, hj, gf, gm, go⟩ | ⟨rfl, gf⟩
      · rfl
      · have h1 := fine_lt hf hj go
        have h2 := fine_lt gf hk (fun o => hm o.1)
        have : k = j := by omega
        subst this
        exact absurd gm hm
      · exact absurd (gf k hk hk).1 hm
    · rcases key b hb hl with ⟨rfl, j, hj, gf, gm⟩ | ⟨rfl, _⟩ | ⟨rfl, gf⟩
      · have h1 := fine_lt hf hj (fun o => gm o.1)
        have h2 := fine_lt gf hk ho
        have : k = j := by omega
        subst this
        exact absurd hm gm
      · rfl
      · exact absurd (gf k hk hk) ho
    · rcases key b hb hl with ⟨rfl, j, hj, gf, gm⟩ | ⟨rfl, j, hj, gf, gm, go⟩ | ⟨rfl, gf⟩
      · exact absurd (hf j hj hj).1 gm
      · exact absurd (hf j hj hj) go
      · rfl
  · rcases ha with ⟨_, rfl⟩ | ⟨h, _⟩ | ⟨h, _⟩ | ⟨h, _⟩
    · rcases hb with ⟨_, rfl⟩ | ⟨h, _⟩ | ⟨h, _⟩ | ⟨h, _⟩
      · rfl
      · omega
      · omega
      · omega
    · omega
    · omega
    · omega
def nmV (ts : List Ty) : List Value := ts.map fun t => .string t.1
theorem nmV_push (ts : List Ty) (k : Nat) (h : k < ts.length) : nmV (ts.take (k + 1)) = nmV (ts.take k) ++ [.string ts[k].1] := by
  unfold nmV
  rw [List.take_succ_eq_append_getElem h, List.map_append]
  rfl
theorem string_info : (Tryd.prog.info? 9).map (fun i => (i.zero, i.size, i.bytes)) = some (some (.string ByteArray.empty), 1, 16) := by kernel_rfl
theorem one_newsS (w : World) (x : Value) : ∀ j u, [x][j]? = some u → (w.alloc (.cells #[x] 9)).cell? ((⟨w.heap.size, 0, none⟩ : Addr).add j) = some u := by
  intro j u hj
  match j, hj with
  | 0, hj => simp at hj; subst hj; simp [Addr.add]
/-- Names that were told. -/
structure Nms (w w' : World) (v : Value) (ts : List Ty) : Prop where
  be : Below w.heap.size w w'
  sg : ∃ ob, Seg w' 9 1 v ts.length (nmV ts) ob ∧ ∀ g, ob = some g → w.heap.size ≤ g
theorem Nms.call {w w1 w2 : World} {v : Value} {ts : List Ty} (h : Nms w w1 v ts) (g : Below w1.heap.size w1 w2) : Nms w w2 v ts := by
  obtain ⟨ob, h1, h2⟩ := h.sg
  exact ⟨h.be.trans (g.mono h.be.size), ob, h1.turns (Turns.of_below g) (fun _ _ x => x), h2⟩
theorem Nms.push {w W W2 : World} {v2 : Value} {ts : List Ty} {k : Nat} {ob ob2 : Option Nat} {o : Obj} (hk : k < ts.length) (h : Below w.heap.size w W) (ho1 : ∀ g, ob = some g → w.heap.size ≤ g)
    (hs2 : Seg W2 9 1 v2 (k + 1) (nmV (ts.take k) ++ [.string ts[k].1]) ob2) (ht2 : Turns (W.alloc o) W2 (fun g => ob = some g)) (ho2 : ob2 = ob ∨ ∃ g, ob2 = some g ∧ (W.alloc o).heap.size ≤ g) : Nms w W2 v2 (ts.take (k + 1)) := by
  have hz := h.size
  refine ⟨ht2.below (h.alloc h.size o) (by simp; omega) (fun j hj e => by have := ho1 _ e; omega), ob2, ?_, fun g hg => ?_⟩
  · rw [nmV_push ts k hk]
    have : (ts.take (k + 1)).length = k + 1 := by rw [List.length_take]; omega
    rw [this]
    exact hs2
  · rcases ho2 with e | ⟨g', e, hg'⟩
    · exact ho1 g (by rw [← e, hg])
    · rw [e] at hg; injection hg with hg; simp at hg'; omega
def NmPost (w : World) (ts : List Ty) (e : Ending) (w' : World) : Prop := ∃ v, e = .returned v ∧ Nms w w' v ts
theorem field_no1 (p : Option Addr) (ts : List Ty) (n f : ByteArray) (w : World) (hs : Sc w w.heap.size p ts) (hi : idx (ts.map Prod.fst) n < 0) :
    Calls Tryd.prog 40 #[.pointer p, .string n, .string f] w fun e w' => e = .returned (.tuple #[.int .i64 (-1), .int .i64 0]) ∧ Below w.heap.size w w' := by
  have HS := Lib.hid hs
  obtain ⟨r, hr⟩ : ∃ r, idx (ts.map Prod.fst) n = r := ⟨_, rfl⟩
  rw [hr] at hi
  have HR := Lib.hid hr
  have hrd : decide (r < 0) = true := decide_eq_true hi
  clear hs hr
  go_enter Tryd.func40, Tryd.ntmps40
  go_wp2_with fail
  refine (place_is p ts n w.heap.size _ r HR.out HS.out (Nat.le_refl _)).mono ?_
  rintro e w1 ⟨rfl, hb1⟩
  have HB1 := Lib.hid hb1
  clear hb1
  go_wp2
  go_ret2
  exact ⟨rfl, HB1.out⟩
theorem field_no2 (p : Option Addr) (ts : List Ty) (n f : ByteArray) (i : Nat) (fs : List Fld) (w : World) (hs : Sc w w.heap.size p ts) {n' : ByteArray} (hi : idx (ts.map Prod.fst) n = i) (hti : ts[i]? = some (n', fs)) (hj : idx (fs.map Prod.fst) f < 0) :
    Calls Tryd.prog 40 #[.pointer p, .string n, .string f] w fun e w' => e = .returned (.tuple #[.int .i64 (-1), .int .i64 0]) ∧ Below w.heap.size w w' := by
  have HS := Lib.hid hs
  obtain ⟨b, v, rfl, hb, hc, hts⟩ := hs
  obtain ⟨A, c, rfl, hn, hcm, h3⟩ := hts
  obtain ⟨hil, hie⟩ := List.getElem?_eq_some_iff.1 hti
  obtain ⟨g, o, fv, rfl, hg, c0, c1, hfs⟩ := h3 i hil
  rw [hie] at hfs
  have HFS := Lib.hid hfs
  obtain ⟨A2, c2, rfl, hn2, hcm2, h4⟩ := hfs
  obtain ⟨r, hr⟩ : ∃ r, idx (fs.map Prod.fst) f = r := ⟨_, rfl⟩
  rw [hr] at hj
  have hrd : decide (r < 0) = true := decide_eq_true hj
  have HR := Lib.hid hr
  have HI := Lib.hid hi
  have hi63 : i ≤ 9223372036854775807 := by omega
  clear h3 h4 c0 hti hie hi hr
  have c1w := Lib.hid c1
  have hcw := Lib.hid hc
  clear c1 hc
  go_enter Tryd.func40, Tryd.ntmps40
  go_wp2_with fail
  refine (place_is _ ts n w.heap.size _ _ HI.out HS.out (Nat.le_refl _)).mono ?_
  rintro e w1 ⟨rfl, hb1⟩
  have e1 : w1.cell? ⟨b, 0, none⟩ = some (.slice (some ⟨g, o, none⟩) ts.length c) := (hb1.cell (p := ⟨b, 0, none⟩) (by simp; omega)).trans hcw.out
  have e2 : w1.cell? ⟨g, o + i * 2 + 1, none⟩ = some (.slice A2 fs.length c2) := (hb1.cell (p := ⟨g, o + i * 2 + 1, none⟩) (by simp; omega)).trans c1w.out
  have HFS1 := Lib.hid (HFS.out.below hb1 (Nat.le_refl _))
  have HB1 := Lib.hid hb1
  clear hb1
  go_wp2_with fail
  refine (fieldPlace_any _ fs f w.heap.size _ HFS1.out HB1.out.size).mono ?_
  rintro e w2 ⟨rfl, hb2⟩
  rw [HR.out]
  have HB := Lib.hid (HB1.out.trans (hb2.mono HB1.out.size))
  clear e1 e2 hb2
  go_wp2
  go_ret2
  exact ⟨rfl, HB.out⟩
/-- What Find tells of none. -/
def NoPost (w : World) (e : Ending) (w' : World) : Prop := e = .returned (.tuple #[.agg #[.string ⟨#[]⟩, .slice none 0 0], .bool false]) ∧ Below w.heap.size w w'
theorem find_no (p : Option Addr) (ts : List Ty) (n : ByteArray) (w : World) (hs : Sc w w.heap.size p ts) (hi : idx (ts.map Prod.fst) n < 0) :
    Calls Tryd.prog 63 #[.pointer p, .string n] w (NoPost w) := by
  have HS := Lib.hid hs
  obtain ⟨r, hr⟩ : ∃ r, idx (ts.map Prod.fst) n = r := ⟨_, rfl⟩
  rw [hr] at hi
  have HR := Lib.hid hr
  have hrd : decide (r < 0) = true := decide_eq_true hi
  clear hs hr
  go_enter Tryd.func63, Tryd.ntmps63
  go_wp2_with fail
  refine (place_is p ts n w.heap.size _ r HR.out (HS.out.below ((Below.refl _ w).alloc (Nat.le_refl _) _) (Nat.le_refl _)) (by simp)).mono ?_
  rintro e w' ⟨rfl, hb⟩
  have R : Row w' w.heap.size 67 #[.string ByteArray.empty, .slice none 0 0] := Row.below (Row.made w _ _) hb (by simp)
  have c0 : w'.cell? ⟨w.heap.size, 0, none⟩ = some (.string ByteArray.empty) := (R.cell 0).trans rfl
  have c1 : w'.cell? ⟨w.heap.size, 1, none⟩ = some (.slice none 0 0) := (R.cell 1).trans rfl
  have f0 := R.free 0
  have f1 := R.free 1
  have HB := Lib.hid (((Below.refl w.heap.size w).alloc (Nat.le_refl _) _).trans (hb.mono (by simp)))
  clear hb R
  go_wp2
  have e0 : (w'.setCell ⟨w.heap.size, 0, none⟩ (.string ⟨#[]⟩)).cell? ⟨w.heap.size, 0, none⟩ = some (.string ⟨#[]⟩) := World.cell?_setCell_same' _ _ _ (by rw [c0]; rfl)
  try simp only [Exit.inBlock, Exit.then]
  refine bodyPost_ret (by simp [results, Tryd.results63, go_sem, e0, c1]; try rfl) rfl ?_
  exact ⟨rfl, (HB.out.setCell (Nat.le_refl _) _).setCell (Nat.le_refl _) _⟩
/-- What Find tells of one. -/
def YesPost (w : World) (n : ByteArray) (fs : List Fld) (e : Ending) (w' : World) : Prop := ∃ v, e = .returned (.tuple #[.agg #[.string n, v], .bool true]) ∧ FsS w' (fun g => w.heap.size ≤ g ∧ g < w'.heap.size) v fs ∧ Below w.heap.size w w'
set_option maxHeartbeats 800000 in
theorem find_yes (p : Option Addr) (ts : List Ty) (n : ByteArray) (i : Nat) (fs : List Fld) (w : World) (hs : Sc w w.heap.size p ts) {n' : ByteArray} (hi : idx (ts.map Prod.fst) n = i) (hti : ts[i]? = some (n', fs)) (hfl : fs.length ≤ 1000000) :
    Calls Tryd.prog 63 #[.pointer p, .string n] w (YesPost w n' fs) := by
  have HS := Lib.hid hs
  obtain ⟨b, v, rfl, hb, hc, hts⟩ := hs
  obtain ⟨A, c, rfl, hn, hcm, h3⟩ := hts
  obtain ⟨hil, hie⟩ := List.getElem?_eq_some_iff.1 hti
  obtain ⟨g, o, fv, rfl, hg, c0, c1, hfs⟩ := h3 i hil
  rw [hie] at hfs c0
  have HFS := Lib.hid hfs
  obtain ⟨A2, c2, rfl, hn2, hcm2, h4⟩ := hfs
  have hi63 : i ≤ 9223372036854775807 := by omega
  have HI := Lib.hid hi
  have HC := Lib.hid hc
  have HC0 := Lib.hid c0
  have HC1 := Lib.hid c1
  clear h3 h4 hti hie hi hc c0 c1
  go_enter Tryd.func63, Tryd.ntmps63
  go_wp2_with fail
  refine (place_is _ ts n w.heap.size _ _ HI.out (HS.out.below ((Below.refl _ w).alloc (Nat.le_refl _) _) (Nat.le_refl _)) (by simp)).mono ?_
  rintro e w1 ⟨rfl, hb1⟩
  have hB1 : Below w.heap.size w w1 := ((Below.refl w.heap.size w).alloc (Nat.le_refl _) _).trans (hb1.mono (by simp))
  have e0 := (hB1.cell (p := ⟨b, 0, none⟩) hb).trans HC.out
  have e1 := (hB1.cell (p := ⟨g, o + i * 2, none⟩) hg).trans HC0.out
  have e2 := (hB1.cell (p := ⟨g, o + i * 2 + 1, none⟩) hg).trans HC1.out
  have R1 : Row w1 w.heap.size 67 #[.string ByteArray.empty, .slice none 0 0] := Row.below (Row.made w _ _) hb1 (by simp)
  have HR1 := Lib.hid R1
  have HFS1 := Lib.hid (HFS.out.below hB1 (Nat.le_refl _))
  have HB1 := Lib.hid hB1
  clear hb1 hB1 R1
  go_wp2_with fail
  refine (twin_any n' (.slice A2 fs.length c2) fs w.heap.size _ HFS1.out HB1.out.size hfl).mono ?_
  rintro e w2 ⟨v', rfl, hf2, hb2⟩
  have HF2 := Lib.hid hf2
  obtain ⟨A5, c5, rfl, hn5, hcm5, hx5⟩ := hf2
  have R2 := HR1.out.below hb2 HR1.out.lt
  have c0 : w2.cell? ⟨w.heap.size, 0, none⟩ = some (.string ByteArray.empty) := (R2.cell 0).trans rfl
  have c1 : w2.cell? ⟨w.heap.size, 1, none⟩ = some (.slice none 0 0) := (R2.cell 1).trans rfl
  have f0 := R2.free 0
  have f1 := R2.free 1
  have hz1 := HR1.out.lt
  have HB2 := Lib.hid (HB1.out.trans (hb2.mono HB1.out.size))
  have HZ := Lib.hid hb2.size
  clear hx5 hb2 R2 e0 e1 e2
  go_wp2
  have e0 : (w2.setCell ⟨w.heap.size, 0, none⟩ (.string n')).cell? ⟨w.heap.size, 0, none⟩ = some (.string n') := World.cell?_setCell_same' _ _ _ (by rw [c0]; rfl)
  have c1' : (w2.setCell ⟨w.heap.size, 0, none⟩ (.string n')).cell? ⟨w.heap.size, 1, none⟩ = some (.slice none 0 0) := (World.cell?_setCell_other _ _ _ _ (by simp)).trans c1
  have e1 : ((w2.setCell ⟨w.heap.size, 0, none⟩ (.string n')).setCell ⟨w.heap.size, 1, none⟩ (.slice A5 fs.length c5)).cell? ⟨w.heap.size, 1, none⟩ = some (.slice A5 fs.length c5) := World.cell?_setCell_same' _ _ _ (by rw [c1']; rfl)
  try simp only [Exit.inBlock, Exit.then]
  refine bodyPost_ret (by simp [results, Tryd.results63, go_sem, e0, e1]; try rfl) rfl ?_
  refine ⟨_, rfl, HF2.out.keep (fun q hq hs => ?_), (HB2.out.setCell (Nat.le_refl _) _).setCell (Nat.le_refl _) _⟩
  exact ⟨(heap_setCell_other _ _ q _ (by simp; omega)).trans (heap_setCell_other _ _ q _ (by simp; omega)), by omega, by simp; omega⟩
end Go.Proofs.YtookojgemipakaaDoor.Sch
