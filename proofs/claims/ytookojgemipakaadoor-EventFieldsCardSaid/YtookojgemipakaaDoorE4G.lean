/- The law EventFields, walked. -/
import Derived.Test.YtookojgemipakaaDoorE4F
import Derived.Deep.RegionHeld3
import Derived.Deep.CutBlock
import Derived.Deep.DeepCutAuto
import Derived.Lib.SliceRun
namespace Go.Proofs.YtookojgemipakaaDoor.E4
open Go.RowKit Go.Proofs.YtookojgemipakaaDoor Go.Proofs.YtookojgemipakaaDoor.Door Go.Proofs.YtookojgemipakaaDoor.Ev Go.Proofs.YtookojgemipakaaDoor.Sch Go.Proofs.YtookojgemipakaaDoor.Ty Go.Proofs.YtookojgemipakaaDoor.Evl
set_option linter.unusedVariables false
set_option maxRecDepth 100000
def evC (ty key : ByteArray) (t q : Int) (A : Option Addr) (n c : Nat) : Array Value := #[.string ty, .string key, .int .i64 t, .int .i64 q, .slice A n c]
def vC (v : VV) : Array Value := #[.int .i64 v.k, .int .i64 v.i, .string v.s, .bool v.b]
theorem Row.five {X : World} {b : Nat} {t : TypeId} {c0 c1 c2 c3 c4 : Value} (r : Row X b t #[c0, c1, c2, c3, c4]) : b < X.heap.size ∧ X.cell? ⟨b, 0, none⟩ = some c0 ∧ X.cell? ⟨b, 1, none⟩ = some c1 ∧ X.cell? ⟨b, 2, none⟩ = some c2 ∧ X.cell? ⟨b, 3, none⟩ = some c3 ∧ X.cell? ⟨b, 4, none⟩ = some c4 :=
  ⟨r.lt, (r.cell 0).trans rfl, (r.cell 1).trans rfl, (r.cell 2).trans rfl, (r.cell 3).trans rfl, (r.cell 4).trans rfl⟩
/-- What stands behind the schema's and the event's making, and the fields' reading. -/
structure Fx (w wx : World) (b7 vb : Nat) (ty key : ByteArray) (t : Int) (n : Nat) (vs : List VV) (p : Option Addr) : Prop where
  be : Below w.heap.size w wx
  sc : Sc wx wx.heap.size p typesL
  rx : Row wx b7 24 #[.string ty, .string key, .int .i64 t, .int .i64 0, .slice (some ⟨vb, 0, none⟩) n n]
  rv : Row wx vb 33 (vcells vs).toArray
  vl : VL wx wx.heap.size (.slice (some ⟨vb, 0, none⟩) n n) vs
section
variable {w wx wy : World} {b7 vb : Nat} {ty key : ByteArray} {t : Int} {n : Nat} {vs : List VV} {p : Option Addr}
theorem Fx.call (h : Fx w wx b7 vb ty key t n vs p) (g : Below wx.heap.size wx wy) : Fx w wy b7 vb ty key t n vs p :=
  ⟨h.be.trans (g.mono h.be.size), h.sc.below g g.size, h.rx.below g h.rx.lt, h.rv.below g h.rv.lt, h.vl.below g g.size⟩
theorem Fx.alloc (h : Fx w wx b7 vb ty key t n vs p) (o : Obj) : Fx w (wx.alloc o) b7 vb ty key t n vs p := h.call ((Below.refl _ wx).alloc (Nat.le_refl _) o)
end
theorem get_is {p : Option Addr} {ty key f : ByteArray} {t : Int} {vs : List VV} {vv : Value} {k i : Int} {u : ByteArray} {b : Bool} (hg : getM typesL ⟨ty, key, t, 0, vs⟩ f = some ⟨k, i, u, b⟩) (w : World) (hs : Sc w w.heap.size p typesL) (hv : VL w w.heap.size vv vs) :
    Calls Tryd.prog 22 #[.pointer p, .agg #[.string ty, .string key, .int .i64 t, .int .i64 0, vv], .string f] w fun e w' => e = .returned (.tuple #[.agg #[.int .i64 k, .int .i64 i, .string u, .bool b], .bool true]) ∧ Below w.heap.size w w' := by
  have := get_any p typesL ty key t 0 vs vv f w hs hv
  rw [hg] at this
  exact this
theorem get_no {p : Option Addr} {ty key f : ByteArray} {t : Int} {vs : List VV} {vv : Value} (hg : getM typesL ⟨ty, key, t, 0, vs⟩ f = none) (w : World) (hs : Sc w w.heap.size p typesL) (hv : VL w w.heap.size vv vs) :
    Calls Tryd.prog 22 #[.pointer p, .agg #[.string ty, .string key, .int .i64 t, .int .i64 0, vv], .string f] w fun e w' => e = .returned (.tuple #[.agg #[.int .i64 0, .int .i64 0, .string ⟨#[]⟩, .bool false], .bool false]) ∧ Below w.heap.size w w' := by
  have := get_any p typesL ty key t 0 vs vv f w hs hv
  rw [hg] at this
  exact this
theorem row_call {w w' : World} {b : Nat} {t : TypeId} {cs : Array Value} (h : Row w b t cs) (g : Below w.heap.size w w') : Row w' b t cs := h.below g h.lt
theorem ab_cells {X : World} {vb : Nat} {n : Int} {u : ByteArray} (r : Row X vb 33 (vcells (vsAB n u)).toArray) : X.cell? ⟨vb, 0, none⟩ = some (.int .i64 1) ∧ X.cell? ⟨vb, 1, none⟩ = some (.int .i64 n) ∧ X.cell? ⟨vb, 2, none⟩ = some (.string ⟨#[]⟩) ∧ X.cell? ⟨vb, 3, none⟩ = some (.bool false) ∧ X.cell? ⟨vb, 4, none⟩ = some (.int .i64 2) ∧ X.cell? ⟨vb, 5, none⟩ = some (.int .i64 0) ∧ X.cell? ⟨vb, 6, none⟩ = some (.string u) ∧ X.cell? ⟨vb, 7, none⟩ = some (.bool false) :=
  ⟨(r.cell 0).trans rfl, (r.cell 1).trans rfl, (r.cell 2).trans rfl, (r.cell 3).trans rfl, (r.cell 4).trans rfl, (r.cell 5).trans rfl, (r.cell 6).trans rfl, (r.cell 7).trans rfl⟩
theorem c_cells {X : World} {vb : Nat} {n : Int} {u : ByteArray} {b : Bool} (r : Row X vb 33 (vcells (vsC n u b)).toArray) : X.cell? ⟨vb, 0, none⟩ = some (.int .i64 2) ∧ X.cell? ⟨vb, 1, none⟩ = some (.int .i64 0) ∧ X.cell? ⟨vb, 2, none⟩ = some (.string u) ∧ X.cell? ⟨vb, 3, none⟩ = some (.bool false) ∧ X.cell? ⟨vb, 4, none⟩ = some (.int .i64 1) ∧ X.cell? ⟨vb, 5, none⟩ = some (.int .i64 n) ∧ X.cell? ⟨vb, 6, none⟩ = some (.string ⟨#[]⟩) ∧ X.cell? ⟨vb, 7, none⟩ = some (.bool false) ∧ X.cell? ⟨vb, 8, none⟩ = some (.int .i64 3) ∧ X.cell? ⟨vb, 9, none⟩ = some (.int .i64 0) ∧ X.cell? ⟨vb, 10, none⟩ = some (.string ⟨#[]⟩) ∧ X.cell? ⟨vb, 11, none⟩ = some (.bool b) :=
  ⟨(r.cell 0).trans rfl, (r.cell 1).trans rfl, (r.cell 2).trans rfl, (r.cell 3).trans rfl, (r.cell 4).trans rfl, (r.cell 5).trans rfl, (r.cell 6).trans rfl, (r.cell 7).trans rfl, (r.cell 8).trans rfl, (r.cell 9).trans rfl, (r.cell 10).trans rfl, (r.cell 11).trans rfl⟩
theorem four_cells {X : World} {b : Nat} {t : TypeId} {c0 c1 c2 c3 : Value} (r : Row X b t #[c0, c1, c2, c3]) : X.cell? ⟨b, 0, none⟩ = some c0 ∧ X.cell? ⟨b, 1, none⟩ = some c1 ∧ X.cell? ⟨b, 2, none⟩ = some c2 ∧ X.cell? ⟨b, 3, none⟩ = some c3 :=
  ⟨(r.cell 0).trans rfl, (r.cell 1).trans rfl, (r.cell 2).trans rfl, (r.cell 3).trans rfl⟩
theorem five_behind {X : World} {b : Nat} {t : TypeId} {c0 c1 c2 c3 c4 : Value} (r : Row X b t #[c0, c1, c2, c3, c4]) : (∀ o, (X.alloc o).cell? ⟨b, 0, none⟩ = some c0) ∧ (∀ o, (X.alloc o).cell? ⟨b, 1, none⟩ = some c1) ∧ (∀ o, (X.alloc o).cell? ⟨b, 2, none⟩ = some c2) ∧ (∀ o, (X.alloc o).cell? ⟨b, 3, none⟩ = some c3) ∧ (∀ o, (X.alloc o).cell? ⟨b, 4, none⟩ = some c4) :=
  ⟨fun o => ((r.alloc o).cell 0).trans rfl, fun o => ((r.alloc o).cell 1).trans rfl, fun o => ((r.alloc o).cell 2).trans rfl, fun o => ((r.alloc o).cell 3).trans rfl, fun o => ((r.alloc o).cell 4).trans rfl⟩
theorem take_at {P : Program} {ops : Array Oper} {Q : Exit → Act → World → Prop} {md : Region.Mode} {S : World → Prop} {fuel : Nat} {listed : Array Bool} {a : Act} {w : World} (i : Nat) (d : Tmp) (oi : Oper) {v : Value} (hi : ops[i]? = some oi) (hd : oi.dst = some d)
    (hs : Region.noSelect ops = true) (hf : Region.free md ops listed i = true) (hr : (Region.ready md ops listed).contains i = true)
    (hQ : ∀ c a w, Q (.panic c) (a.put oi.dst v) w → Q (.panic c) a w) (hy : YieldsIf P ops S oi v a) (hS : S w)
    (h : wpAnyH P md ops Q S fuel (listed.setIfInBounds i true) (a.put (some d) v) w) : wpAnyH P md ops Q S (fuel + 1) listed a w :=
  wpAnyH_take hi hs hf hr hQ hy hS (by rw [hd]; exact h)
theorem st4 {X : World} {b : Nat} {t : TypeId} {c0 c1 c2 c3 : Value} (r : Row X b t #[c0, c1, c2, c3]) (u0 u1 u2 u3 : Value) : Row ((((X.setCell ⟨b, 0, none⟩ u0).setCell ⟨b, 1, none⟩ u1).setCell ⟨b, 2, none⟩ u2).setCell ⟨b, 3, none⟩ u3) b t #[u0, u1, u2, u3] := by
  simpa using (((Row.put r 0 u0).put 1 u1).put 2 u2).put 3 u3
theorem pa4 {X : World} {b b' : Nat} {t : TypeId} {cs : Array Value} (r : Row X b t cs) (h : b ≠ b') (u0 u1 u2 u3 : Value) : Row ((((X.setCell ⟨b', 0, none⟩ u0).setCell ⟨b', 1, none⟩ u1).setCell ⟨b', 2, none⟩ u2).setCell ⟨b', 3, none⟩ u3) b t cs :=
  (((r.past (p := ⟨b', 0, none⟩) h u0).past (p := ⟨b', 1, none⟩) h u1).past (p := ⟨b', 2, none⟩) h u2).past (p := ⟨b', 3, none⟩) h u3
theorem tu4 {w X : World} {S : Nat → Prop} {b' : Nat} (h : Turns w X S) (hs : S b') (u0 u1 u2 u3 : Value) : Turns w ((((X.setCell ⟨b', 0, none⟩ u0).setCell ⟨b', 1, none⟩ u1).setCell ⟨b', 2, none⟩ u2).setCell ⟨b', 3, none⟩ u3) S :=
  (((h.put b' 0 u0 (fun _ => hs)).put b' 1 u1 (fun _ => hs)).put b' 2 u2 (fun _ => hs)).put b' 3 u3 (fun _ => hs)
theorem y_turns {X Y : World} {S : Nat → Prop} {g o : Nat} {v : Value} (h : Turns X Y S) (hl : g < X.heap.size) (hs : ¬ S g) (hc : X.cell? ⟨g, o + 1, none⟩ = some v) (hf : X.frozen? ⟨g, o + 1, none⟩ = false) : Y.cell? ⟨g, o + 1, none⟩ = some v ∧ Y.frozen? ⟨g, o + 1, none⟩ = false ∧ g < Y.heap.size :=
  ⟨(cell_same (p := ⟨g, o + 1, none⟩) (h.block g hl hs)).trans hc, (World.frozen?_of_block (w := X) (w' := Y) (a := ⟨g, o + 1, none⟩) (h.block g hl hs)).trans hf, Nat.lt_of_lt_of_le hl h.size⟩
theorem row_drew {X : World} {b : Nat} {t : TypeId} {cs : Array Value} (h : Row X b t cs) : Row X.drew b t cs := h.drewN 1
theorem tu_drew {w X : World} {S : Nat → Prop} (h : Turns w X S) : Turns w X.drew S := h.drewN 1
theorem sw_ab {X : World} {a b : Nat} {t t' : TypeId} {c0 c1 c2 c3 d0 d1 d2 d3 : Value} (h : Row X a t #[c0, c1, c2, c3]) (g : Row X b t' #[d0, d1, d2, d3]) (hn : a ≠ b) (u0 u1 u2 u3 x0 x1 x2 x3 : Value) :
    Turns X (((((((((X.setCell ⟨a, 0, none⟩ u0).setCell ⟨a, 1, none⟩ u1).setCell ⟨a, 2, none⟩ u2).setCell ⟨a, 3, none⟩ u3).setCell ⟨b, 0, none⟩ x0).setCell ⟨b, 1, none⟩ x1).setCell ⟨b, 2, none⟩ x2).setCell ⟨b, 3, none⟩ x3).drew) (fun k => k = a ∨ k = b) ∧
      Row (((((((((X.setCell ⟨a, 0, none⟩ u0).setCell ⟨a, 1, none⟩ u1).setCell ⟨a, 2, none⟩ u2).setCell ⟨a, 3, none⟩ u3).setCell ⟨b, 0, none⟩ x0).setCell ⟨b, 1, none⟩ x1).setCell ⟨b, 2, none⟩ x2).setCell ⟨b, 3, none⟩ x3).drew) a t #[u0, u1, u2, u3] ∧
      Row (((((((((X.setCell ⟨a, 0, none⟩ u0).setCell ⟨a, 1, none⟩ u1).setCell ⟨a, 2, none⟩ u2).setCell ⟨a, 3, none⟩ u3).setCell ⟨b, 0, none⟩ x0).setCell ⟨b, 1, none⟩ x1).setCell ⟨b, 2, none⟩ x2).setCell ⟨b, 3, none⟩ x3).drew) b t' #[x0, x1, x2, x3] :=
  ⟨tu_drew (tu4 (tu4 (Turns.refl X _) (.inl rfl) _ _ _ _) (.inr rfl) _ _ _ _), row_drew (pa4 (st4 h _ _ _ _) hn _ _ _ _), row_drew (st4 (pa4 g (fun e => hn e.symm) _ _ _ _) _ _ _ _)⟩
theorem sw_ba {X : World} {a b : Nat} {t t' : TypeId} {c0 c1 c2 c3 d0 d1 d2 d3 : Value} (h : Row X a t #[c0, c1, c2, c3]) (g : Row X b t' #[d0, d1, d2, d3]) (hn : a ≠ b) (u0 u1 u2 u3 x0 x1 x2 x3 : Value) :
    Turns X (((((((((X.setCell ⟨b, 0, none⟩ x0).setCell ⟨b, 1, none⟩ x1).setCell ⟨b, 2, none⟩ x2).setCell ⟨b, 3, none⟩ x3).setCell ⟨a, 0, none⟩ u0).setCell ⟨a, 1, none⟩ u1).setCell ⟨a, 2, none⟩ u2).setCell ⟨a, 3, none⟩ u3).drew) (fun k => k = a ∨ k = b) ∧
      Row (((((((((X.setCell ⟨b, 0, none⟩ x0).setCell ⟨b, 1, none⟩ x1).setCell ⟨b, 2, none⟩ x2).setCell ⟨b, 3, none⟩ x3).setCell ⟨a, 0, none⟩ u0).setCell ⟨a, 1, none⟩ u1).setCell ⟨a, 2, none⟩ u2).setCell ⟨a, 3, none⟩ u3).drew) a t #[u0, u1, u2, u3] ∧
      Row (((((((((X.setCell ⟨b, 0, none⟩ x0).setCell ⟨b, 1, none⟩ x1).setCell ⟨b, 2, none⟩ x2).setCell ⟨b, 3, none⟩ x3).setCell ⟨a, 0, none⟩ u0).setCell ⟨a, 1, none⟩ u1).setCell ⟨a, 2, none⟩ u2).setCell ⟨a, 3, none⟩ u3).drew) b t' #[x0, x1, x2, x3] :=
  ⟨tu_drew (tu4 (tu4 (Turns.refl X _) (.inr rfl) _ _ _ _) (.inl rfl) _ _ _ _), row_drew (st4 (pa4 h hn _ _ _ _) _ _ _ _), row_drew (pa4 (st4 g _ _ _ _) (fun e => hn e.symm) _ _ _ _)⟩
theorem z_behind (W6 w7 : World) (h : Below (W6.alloc (.cells #[.int .i64 0, .int .i64 0, .string ⟨#[]⟩, .bool false] 33)).drew.heap.size (W6.alloc (.cells #[.int .i64 0, .int .i64 0, .string ⟨#[]⟩, .bool false] 33)).drew w7) : Below W6.heap.size W6 w7 ∧ Rz w7 W6.heap.size := by
  have hB : Below W6.heap.size W6 (W6.alloc (.cells #[.int .i64 0, .int .i64 0, .string ⟨#[]⟩, .bool false] 33)).drew := ((Below.refl _ W6).alloc (Nat.le_refl _) _).drew
  have hR : Row (W6.alloc (.cells #[.int .i64 0, .int .i64 0, .string ⟨#[]⟩, .bool false] 33)).drew W6.heap.size 33 #[.int .i64 0, .int .i64 0, .string ⟨#[]⟩, .bool false] := (Row.made W6 _ _).drewN 1
  exact ⟨hB.trans (h.mono hB.size), row_call hR h⟩
set_option maxHeartbeats 4000000 in
theorem fields_walk (x : EI) (s : ByteArray) (w : World) (hx : EIOk w w.heap.size x) (hs : s.size ≤ 9223372036854775807) (hm : ML w) :
    Calls Tryd.prog 5 #[.agg #[.string x.ty, .string x.key, .int .i64 x.t, .int .i64 x.q, .slice x.va x.vn x.vc], .string s] w fun e w' => e = .returned (.bool true) ∧ Below w.heap.size w w' := by
  have HM := Lib.hid hm
  have hX : Below w.heap.size w (w.alloc (.cells #[.string x.ty, .string x.key, .int .i64 x.t, .int .i64 x.q, .slice x.va x.vn x.vc] 24)) := (Below.refl _ w).alloc (Nat.le_refl _) _
  have HX := Lib.hid hX
  have HI := Lib.hid ((hx.below hX).mono hX.size)
  have HR0 : Hid (Row (w.alloc (.cells #[.string x.ty, .string x.key, .int .i64 x.t, .int .i64 x.q, .slice x.va x.vn x.vc] 24)) w.heap.size 24 #[.string x.ty, .string x.key, .int .i64 x.t, .int .i64 x.q, .slice x.va x.vn x.vc]) := Lib.hid (Row.made w _ _)
  clear hx hX hm
  go_enter Tryd.func5, Tryd.ntmps5
  go_wp2_with fail
  refine (types_any _).mono ?_
  rintro e w1 ⟨v1, rfl, ht1, hb1⟩
  have HT1 := Lib.hid ht1
  clear ht1
  go_wp2_with fail
  refine (new_any _ typesL _ _ HT1.out (Nat.le_refl _)).mono ?_
  rintro e w2 ⟨p, c, rfl, hr, hsc, _, hb2⟩
  obtain rfl := typesL_ok hr
  have HS := Lib.hid (hsc rfl)
  have hB0 := hb1.trans (hb2.mono hb1.size)
  have HB2 := Lib.hid (HX.out.trans (hB0.mono HX.out.size))
  have HI2 := Lib.hid ((HI.out.below hB0).mono hB0.size)
  have HR2 := Lib.hid (HR0.out.below hB0 HR0.out.lt)
  obtain ⟨_, e0, e1, e2, e3, e4⟩ := Row.five HR2.out
  clear hb1 hb2 hr hsc hB0 HI HR0 HT1
  go_wp2_with fail
  refine (made_end x _ HI2.out).mono ?_
  rintro e w3 ⟨vb, ty, key, t, vs, n, rfl, hn, hrv, hge, hb3, hsh⟩
  have HN := Lib.hid hn
  have HSH := Lib.hid hsh
  have hfx : Fx w (w3.alloc (.cells #[.string ty, .string key, .int .i64 t, .int .i64 0, .slice (some ⟨vb, 0, none⟩) n n] 24)) w3.heap.size vb ty key t n vs p := by
    have hz : Below w3.heap.size w3 (w3.alloc (.cells #[.string ty, .string key, .int .i64 t, .int .i64 0, .slice (some ⟨vb, 0, none⟩) n n] 24)) := (Below.refl _ w3).alloc (Nat.le_refl _) _
    have hbz := HB2.out.trans (hb3.mono HB2.out.size)
    exact ⟨hbz.trans (hz.mono hbz.size), (HS.out.below hb3 hb3.size).below hz hz.size, Row.made _ _ _, hrv.alloc _, (vl_row hrv (by simp) hn.symm (by have := hsh.vb; rw [hn]; rcases this with ⟨_, _, _, _, _, rfl⟩ | ⟨_, _, _, _, _, _, rfl⟩ <;> simp [vsAB, vsC])).below hz hz.size⟩
  have HF := Lib.hid hfx
  obtain ⟨_, x0, x1, x2, x3, x4⟩ := Row.five hfx.rx
  clear hn hrv hge hb3 hfx HB2 HI2 HR2 HX e0 e1 e2 e3 e4
  have HTB := Lib.hid hsh.tb
  have HKB := Lib.hid hsh.kb
  rcases hsh.vb with ⟨nn, u, hty, hnn, hu, rfl⟩ | ⟨nn, u, bb, rfl, hnn, hu, rfl⟩
  · obtain ⟨f1, f2, f3, hc⟩ := ab_facts (key := key) (t := t) (n := nn) (s := u) hty
    have hne := xor_ne hnn
    have hne2 : (nn != bits .xor .i64 nn 1) = true := by unfold bne; rw [hne]; rfl
    obtain rfl : n = 2 := HN.out
    clear hsh hty hu hnn HSH HN
    have HG := Lib.hid (get_is f1 _ HF.out.sc HF.out.vl)
    go_wp2_with fail
    refine HG.out.mono ?_
    rintro e w4 ⟨rfl, hb4⟩
    have HF := Lib.hid ((HF.out.call hb4).alloc (.cells #[.int .i64 1, .int .i64 nn, .string ⟨#[]⟩, .bool false] 33))
    have H8 : Hid (Row (w4.alloc (.cells #[.int .i64 1, .int .i64 nn, .string ⟨#[]⟩, .bool false] 33)) w4.heap.size 33 #[.int .i64 1, .int .i64 nn, .string ⟨#[]⟩, .bool false]) := Lib.hid (Row.made _ _ _)
    clear x0 x1 x2 x3 x4
    obtain ⟨_, x0, x1, x2, x3, x4⟩ := Row.five HF.out.rx
    clear hb4 HG
    have HG := Lib.hid (get_is f2 _ HF.out.sc HF.out.vl)
    go_wp2_with fail
    refine HG.out.mono ?_
    rintro e w5 ⟨rfl, hb5⟩
    have HF := Lib.hid ((HF.out.call hb5).alloc (.cells #[.int .i64 2, .int .i64 0, .string u, .bool false] 33))
    have H8 := Lib.hid ((row_call H8.out hb5).alloc (.cells #[.int .i64 2, .int .i64 0, .string u, .bool false] 33))
    have H10 : Hid (Row (w5.alloc (.cells #[.int .i64 2, .int .i64 0, .string u, .bool false] 33)) w5.heap.size 33 #[.int .i64 2, .int .i64 0, .string u, .bool false]) := Lib.hid (Row.made _ _ _)
    clear x0 x1 x2 x3 x4
    obtain ⟨_, x0, x1, x2, x3, x4⟩ := Row.five HF.out.rx
    clear hb5 HG
    have HG := Lib.hid (get_no f3 _ HF.out.sc HF.out.vl)
    go_wp2_with fail
    refine HG.out.mono ?_
    rintro e w6 ⟨rfl, hb6⟩
    have HF := Lib.hid ((HF.out.call hb6).alloc (.cells #[.int .i64 0, .int .i64 0, .string ⟨#[]⟩, .bool false] 33))
    have H8 := Lib.hid ((row_call H8.out hb6).alloc (.cells #[.int .i64 0, .int .i64 0, .string ⟨#[]⟩, .bool false] 33))
    have H10 := Lib.hid ((row_call H10.out hb6).alloc (.cells #[.int .i64 0, .int .i64 0, .string ⟨#[]⟩, .bool false] 33))
    have H12 : Hid (Row (w6.alloc (.cells #[.int .i64 0, .int .i64 0, .string ⟨#[]⟩, .bool false] 33)) w6.heap.size 33 #[.int .i64 0, .int .i64 0, .string ⟨#[]⟩, .bool false]) := Lib.hid (Row.made _ _ _)
    clear x0 x1 x2 x3 x4
    obtain ⟨_, x0, x1, x2, x3, x4⟩ := Row.five HF.out.rx
    clear hb6 HG
    go_upto_region 6 with fail
    generalize hW6 : (w6.alloc (.cells #[.int .i64 0, .int .i64 0, .string ⟨#[]⟩, .bool false] 33)) = W6 at HF H8 H10 H12 x0 x1 x2 x3 x4 ⊢
    clear hW6
    have hX : ∀ X, Below W6.heap.size W6 X → Fx w X w3.heap.size vb ty key t 2 (vsAB nn u) p ∧ Row X w4.heap.size 33 #[.int .i64 1, .int .i64 nn, .string ⟨#[]⟩, .bool false] ∧ Row X w5.heap.size 33 #[.int .i64 2, .int .i64 0, .string u, .bool false] ∧ Row X w6.heap.size 33 #[.int .i64 0, .int .i64 0, .string ⟨#[]⟩, .bool false] := fun X h => ⟨HF.out.call h, row_call H8.out h, row_call H10.out h, row_call H12.out h⟩
    have HX := Lib.hid hX
    clear hX
    obtain ⟨sm, hsm⟩ : ∃ sm : Nat, min s.size 9 = sm := ⟨_, rfl⟩
    have hmin : min (s.size : Int) 9 = (sm : Int) := by omega
    have hm0 : (0 : Int) ≤ (sm : Int) := by omega
    have hm1 : (sm : Int) ≤ (s.size : Int) := by omega
    have hov : ¬ 9223372036854775807 < 1 + min sm s.size := by omega
    have HGY := Lib.hid (fun (X : World) (hX : Below W6.heap.size W6 X) => get_no (key := key) (t := t) (vs := (vsAB nn u)) (get_none (fs_y ty (s.extract 0 sm))) X (HF.out.call hX).sc (HF.out.call hX).vl)
    clear hsm
    have HBA : Hid (Below W6.heap.size W6 (W6.alloc (.cells #[.int .i64 0, .int .i64 0, .string ⟨#[]⟩, .bool false] 33))) := (Below.refl _ W6).alloc (Nat.le_refl _) _
    have HBB := Lib.hid (z_behind W6)
    obtain ⟨xx0, xx1, xx2, xx3, xx4⟩ := five_behind HF.out.rx
    go_cut [14, 15] (fun s14 s15 wx => s15 = .bool false ∧ Hid (Fx w wx w3.heap.size vb ty key t 2 (vsAB nn u) p ∧ Row wx w4.heap.size 33 #[.int .i64 1, .int .i64 nn, .string ⟨#[]⟩, .bool false] ∧ Row wx w5.heap.size 33 #[.int .i64 2, .int .i64 0, .string u, .bool false] ∧ Row wx w6.heap.size 33 #[.int .i64 0, .int .i64 0, .string ⟨#[]⟩, .bool false]))
    case first =>
      go_region_law (first
        | (go_simp
           go_at_call 22
           (with_reducible refine (HGY.out _ (Below.refl _ W6).drew).mono ?_)
           rintro e w7 ⟨rfl, hb⟩
           have h7 := (Below.refl _ W6).drew.trans (hb.mono (Nat.le_refl _))
           have H7 := Lib.hid h7
           clear hb h7)
        | (go_simp
           go_at_call 22
           (with_reducible refine (HGY.out _ HBA.out.drew).mono ?_)
           rintro e w7 ⟨rfl, hb⟩
           obtain ⟨h7, hz⟩ := HBB.out _ hb
           obtain ⟨hlt1, p10, p11, p12, p13, f10, f11, f12, f13⟩ := hz.facts
           have H7 := Lib.hid h7
           clear hb h7 hz)
        | fail)
      all_goals
        go_wp2
        go_meet
        first
          | exact ⟨rfl, Lib.hid (HX.out _ (H7.out.alloc H7.out.size _))⟩
          | exact ⟨rfl, Lib.hid (HX.out _ (below4 H7.out W6.heap.size (Nat.le_refl _) _ _ _ _))⟩
          | trace_state
    case rest =>
      obtain ⟨rfl, hall⟩ := hcut
      obtain ⟨hf, h8, h10, h12⟩ := hall.out
      have HF := Lib.hid hf
      have H8 := Lib.hid h8
      have H10 := Lib.hid h10
      have H12 := Lib.hid h12
      clear x0 x1 x2 x3 x4
      obtain ⟨_, x0, x1, x2, x3, x4⟩ := Row.five hf.rx
      have y0 : wc.cell? ⟨vb, 0, none⟩ = some (.int .i64 1) := (hf.rv.cell 0).trans rfl
      clear hall hf h8 h10 h12 HBA HBB HGY HX xx0 xx1 xx2 xx3 xx4
      go_wp2_with fail
      refine (copy_n ty key t 0 vb 2 (vsAB nn u) _ HF.out.rv rfl (by decide) (by decide)).mono ?_
      rintro e w8 ⟨g, o, yc, rfl, hy2, hy9, hcp⟩
      have HC := Lib.hid hcp
      have HF8 := Lib.hid (HF.out.call hcp.be)
      go_upto_region 8 with fail
      generalize h9 : w8.alloc (.cells #[.string ty, .string key, .int .i64 t, .int .i64 0, .slice (some ⟨g, o, none⟩) 2 yc] 24) = W9
      have hb9 : Below w8.heap.size w8 W9 := by rw [← h9]; exact (Below.refl _ w8).alloc (Nat.le_refl _) _
      have H16 : Hid (Row W9 w8.heap.size 24 #[.string ty, .string key, .int .i64 t, .int .i64 0, .slice (some ⟨g, o, none⟩) 2 yc]) := by rw [← h9]; exact Row.made _ _ _
      have HF9 := Lib.hid (HF8.out.call hb9)
      have HC9 := Lib.hid (HC.out.call hb9)
      obtain ⟨_, p0, p1, p2, p3, p4⟩ := Row.five HF9.out.rx
      obtain ⟨v0, v1, v2, v3, v4, v5, v6, v7⟩ := ab_cells HF9.out.rv
      have hgl := HC.out.lt
      have hgl9 := HC9.out.lt
      clear h9 hb9 HF8 HC x0 x1 x2 x3 x4 y0
      go_upto_region 9 with fail
      generalize h10 : W9.alloc (.cells #[.int .i64 1, .int .i64 nn, .string ⟨#[]⟩, .bool false] 33) = W10
      have hb10 : Below W9.heap.size W9 W10 := by rw [← h10]; exact (Below.refl _ W9).alloc (Nat.le_refl _) _
      have H17 : Hid (Row W10 W9.heap.size 33 #[.int .i64 1, .int .i64 nn, .string ⟨#[]⟩, .bool false]) := by rw [← h10]; exact Row.made _ _ _
      have HF10 := Lib.hid (HF9.out.call hb10)
      have HC10 := Lib.hid (HC9.out.call hb10)
      have H16 := Lib.hid (row_call H16.out hb10)
      clear p0 p1 p2 p3 p4 v0 v1 v2 v3 v4 v5 v6 v7
      obtain ⟨_, p0, p1, p2, p3, p4⟩ := Row.five HF10.out.rx
      obtain ⟨v0, v1, v2, v3, v4, v5, v6, v7⟩ := ab_cells HF10.out.rv
      have hgl10 := HC10.out.lt
      clear h10 hb10 HF9 HC9
      go_upto_region 10 with fail
      generalize h11 : W10.alloc (.cells #[.int .i64 2, .int .i64 0, .string u, .bool false] 33) = W11
      have hb11 : Below W10.heap.size W10 W11 := by rw [← h11]; exact (Below.refl _ W10).alloc (Nat.le_refl _) _
      have H18 : Hid (Row W11 W10.heap.size 33 #[.int .i64 2, .int .i64 0, .string u, .bool false]) := by rw [← h11]; exact Row.made _ _ _
      have HF11 := Lib.hid (HF10.out.call hb11)
      have HC11 := Lib.hid (HC10.out.call hb11)
      have H16 := Lib.hid (row_call H16.out hb11)
      have H17 := Lib.hid (row_call H17.out hb11)
      clear p0 p1 p2 p3 p4 v0 v1 v2 v3 v4 v5 v6 v7
      obtain ⟨_, p0, p1, p2, p3, p4⟩ := Row.five HF11.out.rx
      obtain ⟨_, q0, q1, q2, q3, q4⟩ := Row.five H16.out
      obtain ⟨v0, v1, v2, v3, v4, v5, v6, v7⟩ := ab_cells HF11.out.rv
      have yI : W11.cell? ⟨g, o + 1, none⟩ = some (.int .i64 nn) := HC11.out.ce 1 _ rfl
      have yF : W11.frozen? ⟨g, o + 1, none⟩ = false := HC11.out.fz _
      clear h11 hb11 HF10 HC10
      go_upto_region 15 with fail
      have hbV : Below wc.heap.size wc (W11.setCell ⟨g, o + 1, none⟩ (.int .i64 (bits .xor .i64 nn 1))) := HC11.out.be.setCell HC11.out.ge _
      have hyV : (W11.setCell ⟨g, o + 1, none⟩ (.int .i64 (bits .xor .i64 nn 1))).cell? ⟨g, o + 1, none⟩ = some (.int .i64 (bits .xor .i64 nn 1)) := World.cell?_setCell_same' _ _ _ (by rw [yI]; rfl)
      have hgV : g < (W11.setCell ⟨g, o + 1, none⟩ (.int .i64 (bits .xor .i64 nn 1))).heap.size := by simpa using HC11.out.lt
      have R16 := Lib.hid (H16.out.past (p := ⟨g, o + 1, none⟩) (by show w8.heap.size ≠ g; omega) (.int .i64 (bits .xor .i64 nn 1)))
      have R17 := Lib.hid (H17.out.past (p := ⟨g, o + 1, none⟩) (by show W9.heap.size ≠ g; omega) (.int .i64 (bits .xor .i64 nn 1)))
      have R18 := Lib.hid (H18.out.past (p := ⟨g, o + 1, none⟩) (by show W10.heap.size ≠ g; omega) (.int .i64 (bits .xor .i64 nn 1)))
      generalize W11.setCell ⟨g, o + 1, none⟩ (.int .i64 (bits .xor .i64 nn 1)) = V at hbV hyV hgV R16 R17 R18 ⊢
      have HYV := Lib.hid hyV
      have HGV := Lib.hid hgV
      have HFV := Lib.hid (HF.out.call hbV)
      have R8 := Lib.hid (row_call H8.out hbV)
      have R10 := Lib.hid (row_call H10.out hbV)
      have R12 := Lib.hid (row_call H12.out hbV)
      have hS : ∀ X, Below V.heap.size V X → X.cell? ⟨w4.heap.size, 0, none⟩ = some (.int .i64 1) ∧ X.cell? ⟨w4.heap.size, 1, none⟩ = some (.int .i64 nn) ∧ X.cell? ⟨w4.heap.size, 2, none⟩ = some (.string ⟨#[]⟩) ∧ X.cell? ⟨w4.heap.size, 3, none⟩ = some (.bool false) ∧ X.cell? ⟨W9.heap.size, 0, none⟩ = some (.int .i64 1) ∧ X.cell? ⟨W9.heap.size, 1, none⟩ = some (.int .i64 nn) ∧ X.cell? ⟨W9.heap.size, 2, none⟩ = some (.string ⟨#[]⟩) ∧ X.cell? ⟨W9.heap.size, 3, none⟩ = some (.bool false) ∧ X.cell? ⟨w5.heap.size, 0, none⟩ = some (.int .i64 2) ∧ X.cell? ⟨w5.heap.size, 1, none⟩ = some (.int .i64 0) ∧ X.cell? ⟨w5.heap.size, 2, none⟩ = some (.string u) ∧ X.cell? ⟨w5.heap.size, 3, none⟩ = some (.bool false) ∧ X.cell? ⟨W10.heap.size, 0, none⟩ = some (.int .i64 2) ∧ X.cell? ⟨W10.heap.size, 1, none⟩ = some (.int .i64 0) ∧ X.cell? ⟨W10.heap.size, 2, none⟩ = some (.string u) ∧ X.cell? ⟨W10.heap.size, 3, none⟩ = some (.bool false) ∧ X.cell? ⟨w3.heap.size, 0, none⟩ = some (.string ty) ∧ X.cell? ⟨w3.heap.size, 1, none⟩ = some (.string key) ∧ X.cell? ⟨w3.heap.size, 2, none⟩ = some (.int .i64 t) ∧ X.cell? ⟨w3.heap.size, 3, none⟩ = some (.int .i64 0) ∧ X.cell? ⟨w3.heap.size, 4, none⟩ = some (.slice (some ⟨vb, 0, none⟩) 2 2) ∧ X.cell? ⟨vb, 1, none⟩ = some (.int .i64 nn) ∧ X.cell? ⟨w8.heap.size, 4, none⟩ = some (.slice (some ⟨g, o, none⟩) 2 yc) ∧ X.cell? ⟨g, o + 1, none⟩ = some (.int .i64 (bits .xor .i64 nn 1)) := fun X h =>
        ⟨((row_call R8.out h).cell 0).trans rfl, ((row_call R8.out h).cell 1).trans rfl, ((row_call R8.out h).cell 2).trans rfl, ((row_call R8.out h).cell 3).trans rfl, ((row_call R17.out h).cell 0).trans rfl, ((row_call R17.out h).cell 1).trans rfl, ((row_call R17.out h).cell 2).trans rfl, ((row_call R17.out h).cell 3).trans rfl, ((row_call R10.out h).cell 0).trans rfl, ((row_call R10.out h).cell 1).trans rfl, ((row_call R10.out h).cell 2).trans rfl, ((row_call R10.out h).cell 3).trans rfl, ((row_call R18.out h).cell 0).trans rfl, ((row_call R18.out h).cell 1).trans rfl, ((row_call R18.out h).cell 2).trans rfl, ((row_call R18.out h).cell 3).trans rfl, ((row_call HFV.out.rx h).cell 0).trans rfl, ((row_call HFV.out.rx h).cell 1).trans rfl, ((row_call HFV.out.rx h).cell 2).trans rfl, ((row_call HFV.out.rx h).cell 3).trans rfl, ((row_call HFV.out.rx h).cell 4).trans rfl, ((row_call HFV.out.rv h).cell 1).trans rfl, ((row_call R16.out h).cell 4).trans rfl, (h.cell (p := ⟨g, o + 1, none⟩) (by have := HGV.out; exact this)).trans HYV.out⟩
      have HS := Lib.hid hS
      --obtain ⟨s0, s1, s2, s3, s4, s5, s6, s7, s8, s9, s10, s11, s12, s13, s14, s15, s16, s17, s18, s19, s20, s21, s22, s23⟩ := hS V (Below.refl _ V)
      have HAW := Lib.hid (fun (X : World) (h : Below V.heap.size V X) => awake04 X ((HM.out.below HFV.out.be).below h))
      have HCP := Lib.hid (fun (X : World) (h : Below V.heap.size V X) => copy_n ty key t 0 vb 2 (vsAB nn u) X (row_call HFV.out.rv h) rfl (by decide) (by decide))
      have HVX := Lib.hid (fun (X : World) (h : Below V.heap.size V X) => HFV.out.vl.below h h.size)
      have HBE := Lib.hid HFV.out.be
      clear hS hbV hyV hgV hgl hgl9 hgl10 yI yF HF H8 H10 H12 H16 H17 H18 HF11 HC11 HFV R8 R10 R12 R16 R17 R18 p0 p1 p2 p3 p4 q0 q1 q2 q3 q4 v0 v1 v2 v3 v4 v5 v6 v7
      have HB : Hid (Below V.heap.size V V.drew) := (Below.refl _ V).drew
      refine wp_region_noPanic ?_
      refine wp_region_held_drew (S := (fun X => X.cell? ⟨w4.heap.size, 0, none⟩ = some (.int .i64 1) ∧ X.cell? ⟨w4.heap.size, 1, none⟩ = some (.int .i64 nn) ∧ X.cell? ⟨w4.heap.size, 2, none⟩ = some (.string ⟨#[]⟩) ∧ X.cell? ⟨w4.heap.size, 3, none⟩ = some (.bool false) ∧ X.cell? ⟨W9.heap.size, 0, none⟩ = some (.int .i64 1) ∧ X.cell? ⟨W9.heap.size, 1, none⟩ = some (.int .i64 nn) ∧ X.cell? ⟨W9.heap.size, 2, none⟩ = some (.string ⟨#[]⟩) ∧ X.cell? ⟨W9.heap.size, 3, none⟩ = some (.bool false) ∧ X.cell? ⟨w5.heap.size, 0, none⟩ = some (.int .i64 2) ∧ X.cell? ⟨w5.heap.size, 1, none⟩ = some (.int .i64 0) ∧ X.cell? ⟨w5.heap.size, 2, none⟩ = some (.string u) ∧ X.cell? ⟨w5.heap.size, 3, none⟩ = some (.bool false) ∧ X.cell? ⟨W10.heap.size, 0, none⟩ = some (.int .i64 2) ∧ X.cell? ⟨W10.heap.size, 1, none⟩ = some (.int .i64 0) ∧ X.cell? ⟨W10.heap.size, 2, none⟩ = some (.string u) ∧ X.cell? ⟨W10.heap.size, 3, none⟩ = some (.bool false) ∧ X.cell? ⟨w3.heap.size, 0, none⟩ = some (.string ty) ∧ X.cell? ⟨w3.heap.size, 1, none⟩ = some (.string key) ∧ X.cell? ⟨w3.heap.size, 2, none⟩ = some (.int .i64 t) ∧ X.cell? ⟨w3.heap.size, 3, none⟩ = some (.int .i64 0) ∧ X.cell? ⟨w3.heap.size, 4, none⟩ = some (.slice (some ⟨vb, 0, none⟩) 2 2) ∧ X.cell? ⟨vb, 1, none⟩ = some (.int .i64 nn) ∧ X.cell? ⟨w8.heap.size, 4, none⟩ = some (.slice (some ⟨g, o, none⟩) 2 yc) ∧ X.cell? ⟨g, o + 1, none⟩ = some (.int .i64 (bits .xor .i64 nn 1)))) (by kernel_rfl) ?_ (fun hHeld => ?_)
      · exact HS.out _ HB.out
      refine wpAnyH_ready (rs := [0]) (by kernel_rfl) (by simp) ?_
      refine AllReadyH.cons rfl (fun K hK => ?_) AllReadyH.nil
      go_simp
      go_at_call 10
      (with_reducible refine (HAW.out _ HB.out).mono ?_)
      rintro e w13 ⟨rfl, hb⟩
      have h3 := HB.out.trans (hb.mono HB.out.size)
      have HB := Lib.hid h3
      clear hb h3
      try go_wp2_with fail
      refine hK.out _ _ ?_ (fun hHeld => ?_)
      · exact HS.out _ HB.out
      clear hK K
      try simp only [Act.put, List.setIfInBounds_toArray, List.set_cons_zero, List.set_cons_succ]
      refine take_at 1 90 _ (v := ?v1) rfl rfl (by kernel_rfl) (by kernel_rfl) (by kernel_rfl) (fun _ _ _ h => h) (Or.inl ⟨by rfl, ?hy1⟩) (by assumption) ?rest1
      case hy1 =>
        intro wX hSw
        try dsimp only at hSw
        go_simp
        first
        | done
        | (with_reducible rfl)
      try simp only [Act.put, List.setIfInBounds_toArray, List.set_cons_zero, List.set_cons_succ]
      refine take_at 2 91 _ (v := ?v2) rfl rfl (by kernel_rfl) (by kernel_rfl) (by kernel_rfl) (fun _ _ _ h => h) (Or.inl ⟨by rfl, ?hy2⟩) (by assumption) ?rest2
      case hy2 =>
        intro wX hSw
        try dsimp only at hSw
        go_simp
        first
        | done
        | (with_reducible rfl)
      try simp only [Act.put, List.setIfInBounds_toArray, List.set_cons_zero, List.set_cons_succ]
      refine take_at 3 92 _ (v := ?v3) rfl rfl (by kernel_rfl) (by kernel_rfl) (by kernel_rfl) (fun _ _ _ h => h) (Or.inl ⟨by rfl, ?hy3⟩) (by assumption) ?rest3
      case hy3 =>
        intro wX hSw
        try dsimp only at hSw
        go_simp
        first
        | done
        | (with_reducible rfl)
      try simp only [Act.put, List.setIfInBounds_toArray, List.set_cons_zero, List.set_cons_succ]
      refine take_at 4 93 _ (v := ?v4) rfl rfl (by kernel_rfl) (by kernel_rfl) (by kernel_rfl) (fun _ _ _ h => h) (Or.inl ⟨by rfl, ?hy4⟩) (by assumption) ?rest4
      case hy4 =>
        intro wX hSw
        try dsimp only at hSw
        go_simp
        first
        | done
        | (with_reducible rfl)
      try simp only [Act.put, List.setIfInBounds_toArray, List.set_cons_zero, List.set_cons_succ]
      refine take_at 5 94 _ (v := ?v5) rfl rfl (by kernel_rfl) (by kernel_rfl) (by kernel_rfl) (fun _ _ _ h => h) (Or.inl ⟨by rfl, ?hy5⟩) (by assumption) ?rest5
      case hy5 =>
        intro wX hSw
        try dsimp only at hSw
        go_simp
        first
        | done
        | (with_reducible rfl)
      try simp only [Act.put, List.setIfInBounds_toArray, List.set_cons_zero, List.set_cons_succ]
      refine take_at 6 95 _ (v := ?v6) rfl rfl (by kernel_rfl) (by kernel_rfl) (by kernel_rfl) (fun _ _ _ h => h) (Or.inl ⟨by rfl, ?hy6⟩) (by assumption) ?rest6
      case hy6 =>
        intro wX hSw
        try dsimp only at hSw
        go_simp
        first
        | done
        | (with_reducible rfl)
      try simp only [Act.put, List.setIfInBounds_toArray, List.set_cons_zero, List.set_cons_succ]
      refine take_at 7 96 _ (v := ?v7) rfl rfl (by kernel_rfl) (by kernel_rfl) (by kernel_rfl) (fun _ _ _ h => h) (Or.inl ⟨by rfl, ?hy7⟩) (by assumption) ?rest7
      case hy7 =>
        intro wX hSw
        try dsimp only at hSw
        go_simp
        first
        | done
        | (with_reducible rfl)
      try simp only [Act.put, List.setIfInBounds_toArray, List.set_cons_zero, List.set_cons_succ]
      refine take_at 8 97 _ (v := ?v8) rfl rfl (by kernel_rfl) (by kernel_rfl) (by kernel_rfl) (fun _ _ _ h => h) (Or.inl ⟨by rfl, ?hy8⟩) (by assumption) ?rest8
      case hy8 =>
        intro wX hSw
        try dsimp only at hSw
        go_simp
        first
        | done
        | (with_reducible rfl)
      try simp only [Act.put, List.setIfInBounds_toArray, List.set_cons_zero, List.set_cons_succ]
      refine take_at 9 98 _ (v := ?v9) rfl rfl (by kernel_rfl) (by kernel_rfl) (by kernel_rfl) (fun _ _ _ h => h) (Or.inl ⟨by rfl, ?hy9⟩) (by assumption) ?rest9
      case hy9 =>
        intro wX hSw
        try dsimp only at hSw
        go_simp
        first
        | done
        | (with_reducible rfl)
      try simp only [Act.put, List.setIfInBounds_toArray, List.set_cons_zero, List.set_cons_succ]
      refine take_at 10 99 _ (v := ?v10) rfl rfl (by kernel_rfl) (by kernel_rfl) (by kernel_rfl) (fun _ _ _ h => h) (Or.inl ⟨by rfl, ?hy10⟩) (by assumption) ?rest10
      case hy10 =>
        intro wX hSw
        try dsimp only at hSw
        go_simp
        first
        | done
        | (with_reducible rfl)
      try simp only [Act.put, List.setIfInBounds_toArray, List.set_cons_zero, List.set_cons_succ]
      refine take_at 11 100 _ (v := ?v11) rfl rfl (by kernel_rfl) (by kernel_rfl) (by kernel_rfl) (fun _ _ _ h => h) (Or.inl ⟨by rfl, ?hy11⟩) (by assumption) ?rest11
      case hy11 =>
        intro wX hSw
        try dsimp only at hSw
        go_simp
        first
        | done
        | (with_reducible rfl)
      try simp only [Act.put, List.setIfInBounds_toArray, List.set_cons_zero, List.set_cons_succ]
      refine take_at 12 101 _ (v := ?v12) rfl rfl (by kernel_rfl) (by kernel_rfl) (by kernel_rfl) (fun _ _ _ h => h) (Or.inl ⟨by rfl, ?hy12⟩) (by assumption) ?rest12
      case hy12 =>
        intro wX hSw
        try dsimp only at hSw
        go_simp
        first
        | done
        | (with_reducible rfl)
      try simp only [Act.put, List.setIfInBounds_toArray, List.set_cons_zero, List.set_cons_succ]
      refine take_at 13 102 _ (v := ?v13) rfl rfl (by kernel_rfl) (by kernel_rfl) (by kernel_rfl) (fun _ _ _ h => h) (Or.inl ⟨by rfl, ?hy13⟩) (by assumption) ?rest13
      case hy13 =>
        intro wX hSw
        try dsimp only at hSw
        go_simp
        first
        | done
        | (with_reducible rfl)
      try simp only [Act.put, List.setIfInBounds_toArray, List.set_cons_zero, List.set_cons_succ]
      refine take_at 14 103 _ (v := ?v14) rfl rfl (by kernel_rfl) (by kernel_rfl) (by kernel_rfl) (fun _ _ _ h => h) (Or.inl ⟨by rfl, ?hy14⟩) (by assumption) ?rest14
      case hy14 =>
        intro wX hSw
        try dsimp only at hSw
        go_simp
        first
        | done
        | (with_reducible rfl)
      try simp only [Act.put, List.setIfInBounds_toArray, List.set_cons_zero, List.set_cons_succ]
      refine take_at 15 104 _ (v := ?v15) rfl rfl (by kernel_rfl) (by kernel_rfl) (by kernel_rfl) (fun _ _ _ h => h) (Or.inl ⟨by rfl, ?hy15⟩) (by assumption) ?rest15
      case hy15 =>
        intro wX hSw
        try dsimp only at hSw
        go_simp
        first
        | done
        | (with_reducible rfl)
      try simp only [Act.put, List.setIfInBounds_toArray, List.set_cons_zero, List.set_cons_succ]
      refine take_at 16 105 _ (v := ?v16) rfl rfl (by kernel_rfl) (by kernel_rfl) (by kernel_rfl) (fun _ _ _ h => h) (Or.inl ⟨by rfl, ?hy16⟩) (by assumption) ?rest16
      case hy16 =>
        intro wX hSw
        try dsimp only at hSw
        go_simp
        first
        | done
        | (with_reducible rfl)
      try simp only [Act.put, List.setIfInBounds_toArray, List.set_cons_zero, List.set_cons_succ]
      refine take_at 17 106 _ (v := ?v17) rfl rfl (by kernel_rfl) (by kernel_rfl) (by kernel_rfl) (fun _ _ _ h => h) (Or.inl ⟨by rfl, ?hy17⟩) (by assumption) ?rest17
      case hy17 =>
        intro wX hSw
        try dsimp only at hSw
        go_simp
        first
        | done
        | (with_reducible rfl)
      try simp only [Act.put, List.setIfInBounds_toArray, List.set_cons_zero, List.set_cons_succ]
      refine take_at 18 107 _ (v := ?v18) rfl rfl (by kernel_rfl) (by kernel_rfl) (by kernel_rfl) (fun _ _ _ h => h) (Or.inl ⟨by rfl, ?hy18⟩) (by assumption) ?rest18
      case hy18 =>
        intro wX hSw
        try dsimp only at hSw
        go_simp
        first
        | done
        | (with_reducible rfl)
      try simp only [Act.put, List.setIfInBounds_toArray, List.set_cons_zero, List.set_cons_succ]
      refine take_at 19 108 _ (v := ?v19) rfl rfl (by kernel_rfl) (by kernel_rfl) (by kernel_rfl) (fun _ _ _ h => h) (Or.inl ⟨by rfl, ?hy19⟩) (by assumption) ?rest19
      case hy19 =>
        intro wX hSw
        try dsimp only at hSw
        go_simp
        first
        | done
        | (with_reducible rfl)
      try simp only [Act.put, List.setIfInBounds_toArray, List.set_cons_zero, List.set_cons_succ]
      refine take_at 20 109 _ (v := ?v20) rfl rfl (by kernel_rfl) (by kernel_rfl) (by kernel_rfl) (fun _ _ _ h => h) (Or.inl ⟨by rfl, ?hy20⟩) (by assumption) ?rest20
      case hy20 =>
        intro wX hSw
        try dsimp only at hSw
        go_simp
        first
        | done
        | (with_reducible rfl)
      try simp only [Act.put, List.setIfInBounds_toArray, List.set_cons_zero, List.set_cons_succ]
      refine take_at 21 110 _ (v := ?v21) rfl rfl (by kernel_rfl) (by kernel_rfl) (by kernel_rfl) (fun _ _ _ h => h) (Or.inl ⟨by rfl, ?hy21⟩) (by assumption) ?rest21
      case hy21 =>
        intro wX hSw
        try dsimp only at hSw
        go_simp
        first
        | done
        | (with_reducible rfl)
      try simp only [Act.put, List.setIfInBounds_toArray, List.set_cons_zero, List.set_cons_succ]
      refine take_at 22 111 _ (v := ?v22) rfl rfl (by kernel_rfl) (by kernel_rfl) (by kernel_rfl) (fun _ _ _ h => h) (Or.inl ⟨by rfl, ?hy22⟩) (by assumption) ?rest22
      case hy22 =>
        intro wX hSw
        try dsimp only at hSw
        go_simp
        first
        | done
        | (with_reducible rfl)
      try simp only [Act.put, List.setIfInBounds_toArray, List.set_cons_zero, List.set_cons_succ]
      refine take_at 23 112 _ (v := ?v23) rfl rfl (by kernel_rfl) (by kernel_rfl) (by kernel_rfl) (fun _ _ _ h => h) (Or.inl ⟨by rfl, ?hy23⟩) (by assumption) ?rest23
      case hy23 =>
        intro wX hSw
        try dsimp only at hSw
        go_simp
        first
        | done
        | (with_reducible rfl)
      try simp only [Act.put, List.setIfInBounds_toArray, List.set_cons_zero, List.set_cons_succ]
      refine take_at 24 113 _ (v := ?v24) rfl rfl (by kernel_rfl) (by kernel_rfl) (by kernel_rfl) (fun _ _ _ h => h) (Or.inl ⟨by rfl, ?hy24⟩) (by assumption) ?rest24
      case hy24 =>
        intro wX hSw
        try dsimp only at hSw
        go_simp
        first
        | done
        | (with_reducible rfl)
      try simp only [Act.put, List.setIfInBounds_toArray, List.set_cons_zero, List.set_cons_succ]
      refine take_at 25 114 _ (v := ?v25) rfl rfl (by kernel_rfl) (by kernel_rfl) (by kernel_rfl) (fun _ _ _ h => h) (Or.inl ⟨by rfl, ?hy25⟩) (by assumption) ?rest25
      case hy25 =>
        intro wX hSw
        try dsimp only at hSw
        go_simp
        first
        | done
        | (with_reducible rfl)
      try simp only [Act.put, List.setIfInBounds_toArray, List.set_cons_zero, List.set_cons_succ]
      refine take_at 26 115 _ (v := ?v26) rfl rfl (by kernel_rfl) (by kernel_rfl) (by kernel_rfl) (fun _ _ _ h => h) (Or.inl ⟨by rfl, ?hy26⟩) (by assumption) ?rest26
      case hy26 =>
        intro wX hSw
        try dsimp only at hSw
        go_simp
        first
        | done
        | (with_reducible rfl)
      try simp only [Act.put, List.setIfInBounds_toArray, List.set_cons_zero, List.set_cons_succ]
      refine take_at 27 116 _ (v := ?v27) rfl rfl (by kernel_rfl) (by kernel_rfl) (by kernel_rfl) (fun _ _ _ h => h) (Or.inl ⟨by rfl, ?hy27⟩) (by assumption) ?rest27
      case hy27 =>
        intro wX hSw
        try dsimp only at hSw
        go_simp
        first
        | done
        | (with_reducible rfl)
      try simp only [Act.put, List.setIfInBounds_toArray, List.set_cons_zero, List.set_cons_succ]
      refine take_at 28 117 _ (v := undef) rfl rfl (by kernel_rfl) (by kernel_rfl) (by kernel_rfl) (fun _ _ _ h => h) (Or.inr ⟨by rfl, rfl⟩) (by assumption) ?_
      try simp only [Act.put, List.setIfInBounds_toArray, List.set_cons_zero, List.set_cons_succ]
      refine take_at 29 118 _ (v := undef) rfl rfl (by kernel_rfl) (by kernel_rfl) (by kernel_rfl) (fun _ _ _ h => h) (Or.inr ⟨by rfl, rfl⟩) (by assumption) ?_
      try simp only [Act.put, List.setIfInBounds_toArray, List.set_cons_zero, List.set_cons_succ]
      refine take_at 30 119 _ (v := undef) rfl rfl (by kernel_rfl) (by kernel_rfl) (by kernel_rfl) (fun _ _ _ h => h) (Or.inr ⟨by rfl, rfl⟩) (by assumption) ?_
      try simp only [Act.put, List.setIfInBounds_toArray, List.set_cons_zero, List.set_cons_succ]
      refine take_at 31 120 _ (v := undef) rfl rfl (by kernel_rfl) (by kernel_rfl) (by kernel_rfl) (fun _ _ _ h => h) (Or.inr ⟨by rfl, rfl⟩) (by assumption) ?_
      try simp only [Act.put, List.setIfInBounds_toArray, List.set_cons_zero, List.set_cons_succ]
      refine take_at 32 121 _ (v := undef) rfl rfl (by kernel_rfl) (by kernel_rfl) (by kernel_rfl) (fun _ _ _ h => h) (Or.inr ⟨by rfl, rfl⟩) (by assumption) ?_
      try simp only [Act.put, List.setIfInBounds_toArray, List.set_cons_zero, List.set_cons_succ]
      refine take_at 33 122 _ (v := undef) rfl rfl (by kernel_rfl) (by kernel_rfl) (by kernel_rfl) (fun _ _ _ h => h) (Or.inr ⟨by rfl, rfl⟩) (by assumption) ?_
      try simp only [Act.put, List.setIfInBounds_toArray, List.set_cons_zero, List.set_cons_succ]
      refine take_at 34 123 _ (v := ?v34) rfl rfl (by kernel_rfl) (by kernel_rfl) (by kernel_rfl) (fun _ _ _ h => h) (Or.inl ⟨by rfl, ?hy34⟩) (by assumption) ?rest34
      case hy34 =>
        intro wX hSw
        try dsimp only at hSw
        go_simp
        first
        | done
        | (with_reducible rfl)
      try simp only [Act.put, List.setIfInBounds_toArray, List.set_cons_zero, List.set_cons_succ]
      refine take_at 35 124 _ (v := ?v35) rfl rfl (by kernel_rfl) (by kernel_rfl) (by kernel_rfl) (fun _ _ _ h => h) (Or.inl ⟨by rfl, ?hy35⟩) (by assumption) ?rest35
      case hy35 =>
        intro wX hSw
        try dsimp only at hSw
        go_simp
        first
        | done
        | (with_reducible rfl)
      try simp only [Act.put, List.setIfInBounds_toArray, List.set_cons_zero, List.set_cons_succ]
      refine take_at 36 125 _ (v := ?v36) rfl rfl (by kernel_rfl) (by kernel_rfl) (by kernel_rfl) (fun _ _ _ h => h) (Or.inl ⟨by rfl, ?hy36⟩) (by assumption) ?rest36
      case hy36 =>
        intro wX hSw
        try dsimp only at hSw
        go_simp
        first
        | done
        | (with_reducible rfl)
      try simp only [Act.put, List.setIfInBounds_toArray, List.set_cons_zero, List.set_cons_succ]
      refine take_at 37 126 _ (v := ?v37) rfl rfl (by kernel_rfl) (by kernel_rfl) (by kernel_rfl) (fun _ _ _ h => h) (Or.inl ⟨by rfl, ?hy37⟩) (by assumption) ?rest37
      case hy37 =>
        intro wX hSw
        try dsimp only at hSw
        go_simp
        first
        | done
        | (with_reducible rfl)
      try simp only [Act.put, List.setIfInBounds_toArray, List.set_cons_zero, List.set_cons_succ]
      refine take_at 38 127 _ (v := ?v38) rfl rfl (by kernel_rfl) (by kernel_rfl) (by kernel_rfl) (fun _ _ _ h => h) (Or.inl ⟨by rfl, ?hy38⟩) (by assumption) ?rest38
      case hy38 =>
        intro wX hSw
        try dsimp only at hSw
        go_simp
        first
        | done
        | (with_reducible rfl)
      try simp only [Act.put, List.setIfInBounds_toArray, List.set_cons_zero, List.set_cons_succ]
      refine take_at 39 128 _ (v := ?v39) rfl rfl (by kernel_rfl) (by kernel_rfl) (by kernel_rfl) (fun _ _ _ h => h) (Or.inl ⟨by rfl, ?hy39⟩) (by assumption) ?rest39
      case hy39 =>
        intro wX hSw
        try dsimp only at hSw
        go_simp
        first
        | done
        | (with_reducible rfl)
      try simp only [Act.put, List.setIfInBounds_toArray, List.set_cons_zero, List.set_cons_succ]
      refine take_at 40 129 _ (v := ?v40) rfl rfl (by kernel_rfl) (by kernel_rfl) (by kernel_rfl) (fun _ _ _ h => h) (Or.inl ⟨by rfl, ?hy40⟩) (by assumption) ?rest40
      case hy40 =>
        intro wX hSw
        try dsimp only at hSw
        go_simp
        first
        | done
        | (with_reducible rfl)
      try simp only [Act.put, List.setIfInBounds_toArray, List.set_cons_zero, List.set_cons_succ]
      refine take_at 41 130 _ (v := ?v41) rfl rfl (by kernel_rfl) (by kernel_rfl) (by kernel_rfl) (fun _ _ _ h => h) (Or.inl ⟨by rfl, ?hy41⟩) (by assumption) ?rest41
      case hy41 =>
        intro wX hSw
        try dsimp only at hSw
        go_simp
        first
        | done
        | (with_reducible rfl)
      try simp only [Act.put, List.setIfInBounds_toArray, List.set_cons_zero, List.set_cons_succ]
      refine take_at 42 131 _ (v := ?v42) rfl rfl (by kernel_rfl) (by kernel_rfl) (by kernel_rfl) (fun _ _ _ h => h) (Or.inl ⟨by rfl, ?hy42⟩) (by assumption) ?rest42
      case hy42 =>
        intro wX hSw
        try dsimp only at hSw
        go_simp
        first
        | done
        | (with_reducible rfl)
      try simp only [Act.put, List.setIfInBounds_toArray, List.set_cons_zero, List.set_cons_succ]
      refine take_at 43 132 _ (v := ?v43) rfl rfl (by kernel_rfl) (by kernel_rfl) (by kernel_rfl) (fun _ _ _ h => h) (Or.inl ⟨by rfl, ?hy43⟩) (by assumption) ?rest43
      case hy43 =>
        intro wX hSw
        try dsimp only at hSw
        go_simp
        first
        | done
        | (with_reducible rfl)
      try simp only [Act.put, List.setIfInBounds_toArray, List.set_cons_zero, List.set_cons_succ]
      refine take_at 44 133 _ (v := ?v44) rfl rfl (by kernel_rfl) (by kernel_rfl) (by kernel_rfl) (fun _ _ _ h => h) (Or.inl ⟨by rfl, ?hy44⟩) (by assumption) ?rest44
      case hy44 =>
        intro wX hSw
        try dsimp only at hSw
        go_simp
        first
        | done
        | (with_reducible rfl)
      try simp only [Act.put, List.setIfInBounds_toArray, List.set_cons_zero, List.set_cons_succ]
      refine take_at 45 134 _ (v := ?v45) rfl rfl (by kernel_rfl) (by kernel_rfl) (by kernel_rfl) (fun _ _ _ h => h) (Or.inl ⟨by rfl, ?hy45⟩) (by assumption) ?rest45
      case hy45 =>
        intro wX hSw
        try dsimp only at hSw
        go_simp
        first
        | done
        | (with_reducible rfl)
      try simp only [Act.put, List.setIfInBounds_toArray, List.set_cons_zero, List.set_cons_succ]
      refine take_at 46 135 _ (v := ?v46) rfl rfl (by kernel_rfl) (by kernel_rfl) (by kernel_rfl) (fun _ _ _ h => h) (Or.inl ⟨by rfl, ?hy46⟩) (by assumption) ?rest46
      case hy46 =>
        intro wX hSw
        try dsimp only at hSw
        go_simp
        first
        | done
        | (with_reducible rfl)
      try simp only [Act.put, List.setIfInBounds_toArray, List.set_cons_zero, List.set_cons_succ]
      refine take_at 47 136 _ (v := ?v47) rfl rfl (by kernel_rfl) (by kernel_rfl) (by kernel_rfl) (fun _ _ _ h => h) (Or.inl ⟨by rfl, ?hy47⟩) (by assumption) ?rest47
      case hy47 =>
        intro wX hSw
        try dsimp only at hSw
        go_simp
        first
        | done
        | (with_reducible rfl)
      try simp only [Act.put, List.setIfInBounds_toArray, List.set_cons_zero, List.set_cons_succ]
      refine take_at 48 137 _ (v := ?v48) rfl rfl (by kernel_rfl) (by kernel_rfl) (by kernel_rfl) (fun _ _ _ h => h) (Or.inl ⟨by rfl, ?hy48⟩) (by assumption) ?rest48
      case hy48 =>
        intro wX hSw
        try dsimp only at hSw
        go_simp
        first
        | done
        | (with_reducible rfl)
      try simp only [Act.put, List.setIfInBounds_toArray, List.set_cons_zero, List.set_cons_succ]
      refine take_at 49 138 _ (v := ?v49) rfl rfl (by kernel_rfl) (by kernel_rfl) (by kernel_rfl) (fun _ _ _ h => h) (Or.inl ⟨by rfl, ?hy49⟩) (by assumption) ?rest49
      case hy49 =>
        intro wX hSw
        try dsimp only at hSw
        go_simp
        first
        | done
        | (with_reducible rfl)
      try simp only [Act.put, List.setIfInBounds_toArray, List.set_cons_zero, List.set_cons_succ]
      refine take_at 50 139 _ (v := ?v50) rfl rfl (by kernel_rfl) (by kernel_rfl) (by kernel_rfl) (fun _ _ _ h => h) (Or.inl ⟨by rfl, ?hy50⟩) (by assumption) ?rest50
      case hy50 =>
        intro wX hSw
        try dsimp only at hSw
        go_simp
        first
        | done
        | (with_reducible rfl)
      try simp only [Act.put, List.setIfInBounds_toArray, List.set_cons_zero, List.set_cons_succ]
      refine take_at 51 140 _ (v := ?v51) rfl rfl (by kernel_rfl) (by kernel_rfl) (by kernel_rfl) (fun _ _ _ h => h) (Or.inl ⟨by rfl, ?hy51⟩) (by assumption) ?rest51
      case hy51 =>
        intro wX hSw
        try dsimp only at hSw
        go_simp
        first
        | done
        | (with_reducible rfl)
      try simp only [Act.put, List.setIfInBounds_toArray, List.set_cons_zero, List.set_cons_succ]
      refine take_at 52 141 _ (v := ?v52) rfl rfl (by kernel_rfl) (by kernel_rfl) (by kernel_rfl) (fun _ _ _ h => h) (Or.inl ⟨by rfl, ?hy52⟩) (by assumption) ?rest52
      case hy52 =>
        intro wX hSw
        try dsimp only at hSw
        go_simp
        first
        | done
        | (with_reducible rfl)
      try simp only [Act.put, List.setIfInBounds_toArray, List.set_cons_zero, List.set_cons_succ]
      refine take_at 53 142 _ (v := ?v53) rfl rfl (by kernel_rfl) (by kernel_rfl) (by kernel_rfl) (fun _ _ _ h => h) (Or.inl ⟨by rfl, ?hy53⟩) (by assumption) ?rest53
      case hy53 =>
        intro wX hSw
        try dsimp only at hSw
        go_simp
        first
        | done
        | (with_reducible rfl)
      try simp only [Act.put, List.setIfInBounds_toArray, List.set_cons_zero, List.set_cons_succ]
      refine take_at 54 143 _ (v := ?v54) rfl rfl (by kernel_rfl) (by kernel_rfl) (by kernel_rfl) (fun _ _ _ h => h) (Or.inl ⟨by rfl, ?hy54⟩) (by assumption) ?rest54
      case hy54 =>
        intro wX hSw
        try dsimp only at hSw
        go_simp
        first
        | done
        | (with_reducible rfl)
      try simp only [Act.put, List.setIfInBounds_toArray, List.set_cons_zero, List.set_cons_succ]
      refine take_at 55 144 _ (v := ?v55) rfl rfl (by kernel_rfl) (by kernel_rfl) (by kernel_rfl) (fun _ _ _ h => h) (Or.inl ⟨by rfl, ?hy55⟩) (by assumption) ?rest55
      case hy55 =>
        intro wX hSw
        try dsimp only at hSw
        go_simp
        first
        | done
        | (with_reducible rfl)
      try simp only [Act.put, List.setIfInBounds_toArray, List.set_cons_zero, List.set_cons_succ]
      refine wpAnyH_ready (rs := [56]) (by kernel_rfl) (by simp) ?_
      refine AllReadyH.cons rfl (fun K hK => ?_) AllReadyH.nil
      go_simp
      go_at_call 23
      (with_reducible refine (HCP.out _ HB.out).mono ?_)
      rintro e w14 ⟨g2, o2, yc2, rfl, hy3, hy4, hc2⟩
      have HC2 := Lib.hid hc2
      have h3 := HB.out.trans (hc2.be.mono HB.out.size)
      have HB := Lib.hid h3
      clear hc2 h3
      try go_wp2_with fail
      refine hK.out _ _ ?_ (fun hHeld => ?_)
      · exact HS.out _ HB.out
      clear hK K
      try simp only [Act.put, List.setIfInBounds_toArray, List.set_cons_zero, List.set_cons_succ]
      refine wpAnyH_ready (rs := [57]) (by kernel_rfl) (by simp) ?_
      refine AllReadyH.cons rfl (fun K hK => ?_) AllReadyH.nil
      go_simp
      go_at_call 19
      (with_reducible refine (same_yes _ _ _ _ _ _ _ _ _ (vsAB nn u) _ (HVX.out _ HB.out) HC2.out.vl).mono ?_)
      rintro e w15 ⟨rfl, hb⟩
      have h3 := HB.out.trans (hb.mono HB.out.size)
      have HB := Lib.hid h3
      clear hb h3
      try go_wp2_with fail
      refine hK.out _ _ ?_ (fun hHeld => ?_)
      · exact HS.out _ HB.out
      clear hK K
      try simp only [Act.put, List.setIfInBounds_toArray, List.set_cons_zero, List.set_cons_succ]
      refine take_at 58 147 _ (v := ?v58) rfl rfl (by kernel_rfl) (by kernel_rfl) (by kernel_rfl) (fun _ _ _ h => h) (Or.inl ⟨by rfl, ?hy58⟩) (by assumption) ?rest58
      case hy58 =>
        intro wX hSw
        try dsimp only at hSw
        go_simp
        first
        | done
        | (with_reducible rfl)
      try simp only [Act.put, List.setIfInBounds_toArray, List.set_cons_zero, List.set_cons_succ]
      refine take_at 59 4 _ (v := ?v59) rfl rfl (by kernel_rfl) (by kernel_rfl) (by kernel_rfl) (fun _ _ _ h => h) (Or.inl ⟨by rfl, ?hy59⟩) (by assumption) ?rest59
      case hy59 =>
        intro wX hSw
        try dsimp only at hSw
        go_simp
        first
        | done
        | (with_reducible rfl)
      try simp only [Act.put, List.setIfInBounds_toArray, List.set_cons_zero, List.set_cons_succ]
      refine wpAnyH_done (by kernel_rfl) ?_ _
      refine NoPanic.normal ?_
      go_wp2
      go_ret
      exact ⟨rfl, HBE.out.trans (HB.out.mono HBE.out.size)⟩
  · obtain ⟨f1, f2, f3⟩ := c_facts (key := key) (t := t) (n := nn) (s := u) (b := bb)
    obtain rfl : n = 3 := HN.out
    have hne2 : ((0 : Int) != bits .xor .i64 0 1) = true := by decide
    clear hsh hu hnn HSH HN
    have HG := Lib.hid (get_is f1 _ HF.out.sc HF.out.vl)
    go_wp2_with fail
    refine HG.out.mono ?_
    rintro e w4 ⟨rfl, hb4⟩
    have HF := Lib.hid ((HF.out.call hb4).alloc (.cells #[.int .i64 1, .int .i64 nn, .string ⟨#[]⟩, .bool false] 33))
    have H8 : Hid (Row (w4.alloc (.cells #[.int .i64 1, .int .i64 nn, .string ⟨#[]⟩, .bool false] 33)) w4.heap.size 33 #[.int .i64 1, .int .i64 nn, .string ⟨#[]⟩, .bool false]) := Lib.hid (Row.made _ _ _)
    clear x0 x1 x2 x3 x4
    obtain ⟨_, x0, x1, x2, x3, x4⟩ := Row.five HF.out.rx
    clear hb4 HG
    have HG := Lib.hid (get_is f2 _ HF.out.sc HF.out.vl)
    go_wp2_with fail
    refine HG.out.mono ?_
    rintro e w5 ⟨rfl, hb5⟩
    have HF := Lib.hid ((HF.out.call hb5).alloc (.cells #[.int .i64 2, .int .i64 0, .string u, .bool false] 33))
    have H8 := Lib.hid ((row_call H8.out hb5).alloc (.cells #[.int .i64 2, .int .i64 0, .string u, .bool false] 33))
    have H10 : Hid (Row (w5.alloc (.cells #[.int .i64 2, .int .i64 0, .string u, .bool false] 33)) w5.heap.size 33 #[.int .i64 2, .int .i64 0, .string u, .bool false]) := Lib.hid (Row.made _ _ _)
    clear x0 x1 x2 x3 x4
    obtain ⟨_, x0, x1, x2, x3, x4⟩ := Row.five HF.out.rx
    clear hb5 HG
    have HG := Lib.hid (get_is f3 _ HF.out.sc HF.out.vl)
    go_wp2_with fail
    refine HG.out.mono ?_
    rintro e w6 ⟨rfl, hb6⟩
    have HF := Lib.hid ((HF.out.call hb6).alloc (.cells #[.int .i64 3, .int .i64 0, .string ⟨#[]⟩, .bool bb] 33))
    have H8 := Lib.hid ((row_call H8.out hb6).alloc (.cells #[.int .i64 3, .int .i64 0, .string ⟨#[]⟩, .bool bb] 33))
    have H10 := Lib.hid ((row_call H10.out hb6).alloc (.cells #[.int .i64 3, .int .i64 0, .string ⟨#[]⟩, .bool bb] 33))
    have H12 : Hid (Row (w6.alloc (.cells #[.int .i64 3, .int .i64 0, .string ⟨#[]⟩, .bool bb] 33)) w6.heap.size 33 #[.int .i64 3, .int .i64 0, .string ⟨#[]⟩, .bool bb]) := Lib.hid (Row.made _ _ _)
    clear x0 x1 x2 x3 x4
    obtain ⟨_, x0, x1, x2, x3, x4⟩ := Row.five HF.out.rx
    clear hb6 HG
    go_upto_region 6 with fail
    generalize hW6 : (w6.alloc (.cells #[.int .i64 3, .int .i64 0, .string ⟨#[]⟩, .bool bb] 33)) = W6 at HF H8 H10 H12 x0 x1 x2 x3 x4 ⊢
    clear hW6
    have hX : ∀ X, Below W6.heap.size W6 X → Fx w X w3.heap.size vb ⟨#[67]⟩ key t 3 (vsC nn u bb) p ∧ Row X w4.heap.size 33 #[.int .i64 1, .int .i64 nn, .string ⟨#[]⟩, .bool false] ∧ Row X w5.heap.size 33 #[.int .i64 2, .int .i64 0, .string u, .bool false] ∧ Row X w6.heap.size 33 #[.int .i64 3, .int .i64 0, .string ⟨#[]⟩, .bool bb] := fun X h => ⟨HF.out.call h, row_call H8.out h, row_call H10.out h, row_call H12.out h⟩
    have HX := Lib.hid hX
    clear hX
    obtain ⟨sm, hsm⟩ : ∃ sm : Nat, min s.size 9 = sm := ⟨_, rfl⟩
    have hmin : min (s.size : Int) 9 = (sm : Int) := by omega
    have hm0 : (0 : Int) ≤ (sm : Int) := by omega
    have hm1 : (sm : Int) ≤ (s.size : Int) := by omega
    have hov : ¬ 9223372036854775807 < 1 + min sm s.size := by omega
    have HGY := Lib.hid (fun (X : World) (hX : Below W6.heap.size W6 X) => get_no (key := key) (t := t) (vs := (vsC nn u bb)) (get_none (fs_y ⟨#[67]⟩ (s.extract 0 sm))) X (HF.out.call hX).sc (HF.out.call hX).vl)
    clear hsm
    have HBA : Hid (Below W6.heap.size W6 (W6.alloc (.cells #[.int .i64 0, .int .i64 0, .string ⟨#[]⟩, .bool false] 33))) := (Below.refl _ W6).alloc (Nat.le_refl _) _
    have HBB := Lib.hid (z_behind W6)
    obtain ⟨xx0, xx1, xx2, xx3, xx4⟩ := five_behind HF.out.rx
    go_cut [14, 15] (fun s14 s15 wx => s15 = .bool false ∧ Hid (Fx w wx w3.heap.size vb ⟨#[67]⟩ key t 3 (vsC nn u bb) p ∧ Row wx w4.heap.size 33 #[.int .i64 1, .int .i64 nn, .string ⟨#[]⟩, .bool false] ∧ Row wx w5.heap.size 33 #[.int .i64 2, .int .i64 0, .string u, .bool false] ∧ Row wx w6.heap.size 33 #[.int .i64 3, .int .i64 0, .string ⟨#[]⟩, .bool bb]))
    case first =>
      go_region_law (first
        | (go_simp
           go_at_call 22
           (with_reducible refine (HGY.out _ (Below.refl _ W6).drew).mono ?_)
           rintro e w7 ⟨rfl, hb⟩
           have h7 := (Below.refl _ W6).drew.trans (hb.mono (Nat.le_refl _))
           have H7 := Lib.hid h7
           clear hb h7)
        | (go_simp
           go_at_call 22
           (with_reducible refine (HGY.out _ HBA.out.drew).mono ?_)
           rintro e w7 ⟨rfl, hb⟩
           obtain ⟨h7, hz⟩ := HBB.out _ hb
           obtain ⟨hlt1, p10, p11, p12, p13, f10, f11, f12, f13⟩ := hz.facts
           have H7 := Lib.hid h7
           clear hb h7 hz)
        | fail)
      all_goals
        go_wp2
        go_meet
        first
          | exact ⟨rfl, Lib.hid (HX.out _ (H7.out.alloc H7.out.size _))⟩
          | exact ⟨rfl, Lib.hid (HX.out _ (below4 H7.out W6.heap.size (Nat.le_refl _) _ _ _ _))⟩
          | trace_state
    case rest =>
      obtain ⟨rfl, hall⟩ := hcut
      obtain ⟨hf, h8, h10, h12⟩ := hall.out
      have HF := Lib.hid hf
      have H8 := Lib.hid h8
      have H10 := Lib.hid h10
      have H12 := Lib.hid h12
      clear x0 x1 x2 x3 x4
      obtain ⟨_, x0, x1, x2, x3, x4⟩ := Row.five hf.rx
      have y0 : wc.cell? ⟨vb, 0, none⟩ = some (.int .i64 2) := (hf.rv.cell 0).trans rfl
      clear hall hf h8 h10 h12 HBA HBB HGY HX xx0 xx1 xx2 xx3 xx4
      go_wp2_with fail
      refine (copy_n ⟨#[67]⟩ key t 0 vb 3 (vsC nn u bb) _ HF.out.rv rfl (by decide) (by decide)).mono ?_
      rintro e w8 ⟨g, o, yc, rfl, hy2, hy9, hcp⟩
      have HC := Lib.hid hcp
      have HF8 := Lib.hid (HF.out.call hcp.be)
      go_upto_region 8 with fail
      generalize h9 : w8.alloc (.cells #[.string ⟨#[67]⟩, .string key, .int .i64 t, .int .i64 0, .slice (some ⟨g, o, none⟩) 3 yc] 24) = W9
      have hb9 : Below w8.heap.size w8 W9 := by rw [← h9]; exact (Below.refl _ w8).alloc (Nat.le_refl _) _
      have H16 : Hid (Row W9 w8.heap.size 24 #[.string ⟨#[67]⟩, .string key, .int .i64 t, .int .i64 0, .slice (some ⟨g, o, none⟩) 3 yc]) := by rw [← h9]; exact Row.made _ _ _
      have HF9 := Lib.hid (HF8.out.call hb9)
      have HC9 := Lib.hid (HC.out.call hb9)
      obtain ⟨_, p0, p1, p2, p3, p4⟩ := Row.five HF9.out.rx
      obtain ⟨v0, v1, v2, v3, v4, v5, v6, v7, v8, v9, v10, v11⟩ := c_cells HF9.out.rv
      have hgl := HC.out.lt
      have hgl9 := HC9.out.lt
      clear h9 hb9 HF8 HC x0 x1 x2 x3 x4 y0
      go_upto_region 9 with fail
      generalize h10 : W9.alloc (.cells #[.int .i64 2, .int .i64 0, .string u, .bool false] 33) = W10
      have hb10 : Below W9.heap.size W9 W10 := by rw [← h10]; exact (Below.refl _ W9).alloc (Nat.le_refl _) _
      have HVL := Lib.hid HF9.out.rv.lt
      have HXL := Lib.hid HF9.out.rx.lt
      have H17 : Hid (Row W10 W9.heap.size 33 #[.int .i64 2, .int .i64 0, .string u, .bool false]) := by rw [← h10]; exact Row.made _ _ _
      have HL910 := Lib.hid H17.out.lt
      have HF10 := Lib.hid (HF9.out.call hb10)
      have HC10 := Lib.hid (HC9.out.call hb10)
      have H16L9 := Lib.hid H16.out.lt
      have H16 := Lib.hid (row_call H16.out hb10)
      clear p0 p1 p2 p3 p4 v0 v1 v2 v3 v4 v5 v6 v7 v8 v9 v10 v11
      obtain ⟨_, p0, p1, p2, p3, p4⟩ := Row.five HF10.out.rx
      obtain ⟨v0, v1, v2, v3, v4, v5, v6, v7, v8, v9, v10, v11⟩ := c_cells HF10.out.rv
      have hgl10 := HC10.out.lt
      clear h10 hb10 HF9 HC9
      go_upto_region 10 with fail
      generalize h11 : W10.alloc (.cells #[.int .i64 1, .int .i64 nn, .string ⟨#[]⟩, .bool false] 33) = W11
      have hb11 : Below W10.heap.size W10 W11 := by rw [← h11]; exact (Below.refl _ W10).alloc (Nat.le_refl _) _
      have H18 : Hid (Row W11 W10.heap.size 33 #[.int .i64 1, .int .i64 nn, .string ⟨#[]⟩, .bool false]) := by rw [← h11]; exact Row.made _ _ _
      have HF11 := Lib.hid (HF10.out.call hb11)
      have HC11 := Lib.hid (HC10.out.call hb11)
      have H16 := Lib.hid (row_call H16.out hb11)
      have H17 := Lib.hid (row_call H17.out hb11)
      clear p0 p1 p2 p3 p4 v0 v1 v2 v3 v4 v5 v6 v7 v8 v9 v10 v11
      obtain ⟨_, p0, p1, p2, p3, p4⟩ := Row.five HF11.out.rx
      obtain ⟨_, q0, q1, q2, q3, q4⟩ := Row.five H16.out
      obtain ⟨v0, v1, v2, v3, v4, v5, v6, v7, v8, v9, v10, v11⟩ := c_cells HF11.out.rv
      have yI : W11.cell? ⟨g, o + 1, none⟩ = some (.int .i64 0) := HC11.out.ce 1 _ rfl
      have yF : W11.frozen? ⟨g, o + 1, none⟩ = false := HC11.out.fz _
      clear h11 hb11 HF10 HC10
      have h1718 : W9.heap.size ≠ W10.heap.size := by have := HL910.out; omega
      have h1817 : W10.heap.size ≠ W9.heap.size := fun e => h1718 e.symm
      have hxs : ¬ (w3.heap.size = W9.heap.size ∨ w3.heap.size = W10.heap.size) := by have := HXL.out; have := HL910.out; omega
      have hvs : ¬ (vb = W9.heap.size ∨ vb = W10.heap.size) := by have := HVL.out; have := HL910.out; omega
      have hgs : ¬ (g = W9.heap.size ∨ g = W10.heap.size) := by omega
      have h16s : ¬ (w8.heap.size = W9.heap.size ∨ w8.heap.size = W10.heap.size) := by have := H16L9.out; have := HL910.out; omega
      obtain ⟨fm0, fm1, fm2, fm3⟩ : W11.frozen? ⟨W9.heap.size, 0, none⟩ = false ∧ W11.frozen? ⟨W9.heap.size, 1, none⟩ = false ∧ W11.frozen? ⟨W9.heap.size, 2, none⟩ = false ∧ W11.frozen? ⟨W9.heap.size, 3, none⟩ = false := ⟨H17.out.free 0, H17.out.free 1, H17.out.free 2, H17.out.free 3⟩
      obtain ⟨fn0, fn1, fn2, fn3⟩ : W11.frozen? ⟨W10.heap.size, 0, none⟩ = false ∧ W11.frozen? ⟨W10.heap.size, 1, none⟩ = false ∧ W11.frozen? ⟨W10.heap.size, 2, none⟩ = false ∧ W11.frozen? ⟨W10.heap.size, 3, none⟩ = false := ⟨H18.out.free 0, H18.out.free 1, H18.out.free 2, H18.out.free 3⟩
      obtain ⟨m0, m1, m2, m3⟩ := four_cells H17.out
      obtain ⟨n0, n1, n2, n3⟩ := four_cells H18.out
      have HSK : Hid (∀ X, Turns W11 X (fun k => k = W9.heap.size ∨ k = W10.heap.size) → (∀ i, X.frozen? ⟨W9.heap.size, i, none⟩ = false) → (∀ i, X.frozen? ⟨W10.heap.size, i, none⟩ = false) → X.cell? ⟨w3.heap.size, 4, none⟩ = some (.slice (some ⟨vb, 0, none⟩) 3 3) ∧ X.cell? ⟨vb, 0, none⟩ = some (.int .i64 2) ∧ X.cell? ⟨vb, 1, none⟩ = some (.int .i64 0) ∧ X.cell? ⟨vb, 2, none⟩ = some (.string u) ∧ X.cell? ⟨vb, 3, none⟩ = some (.bool false) ∧ X.cell? ⟨vb, 4, none⟩ = some (.int .i64 1) ∧ X.cell? ⟨vb, 5, none⟩ = some (.int .i64 nn) ∧ X.cell? ⟨vb, 6, none⟩ = some (.string ⟨#[]⟩) ∧ X.cell? ⟨vb, 7, none⟩ = some (.bool false) ∧ X.frozen? ⟨W9.heap.size, 0, none⟩ = false ∧ X.frozen? ⟨W9.heap.size, 1, none⟩ = false ∧ X.frozen? ⟨W9.heap.size, 2, none⟩ = false ∧ X.frozen? ⟨W9.heap.size, 3, none⟩ = false ∧ X.frozen? ⟨W10.heap.size, 0, none⟩ = false ∧ X.frozen? ⟨W10.heap.size, 1, none⟩ = false ∧ X.frozen? ⟨W10.heap.size, 2, none⟩ = false ∧ X.frozen? ⟨W10.heap.size, 3, none⟩ = false) := Lib.hid (fun X h fa fb => ⟨(Row.turns HF11.out.rx h hxs).is 4 rfl, (Row.turns HF11.out.rv h hvs).is 0 rfl, (Row.turns HF11.out.rv h hvs).is 1 rfl, (Row.turns HF11.out.rv h hvs).is 2 rfl, (Row.turns HF11.out.rv h hvs).is 3 rfl, (Row.turns HF11.out.rv h hvs).is 4 rfl, (Row.turns HF11.out.rv h hvs).is 5 rfl, (Row.turns HF11.out.rv h hvs).is 6 rfl, (Row.turns HF11.out.rv h hvs).is 7 rfl, fa 0, fa 1, fa 2, fa 3, fb 0, fb 1, fb 2, fb 3⟩)
      have HY := Lib.hid (show g < W11.heap.size ∧ W11.cell? ⟨g, o + 1, none⟩ = some (.int .i64 0) ∧ W11.frozen? ⟨g, o + 1, none⟩ = false from ⟨HC11.out.lt, yI, yF⟩)
      have hxx : w3.heap.size ≠ W9.heap.size ∧ w3.heap.size ≠ W10.heap.size := ⟨fun e => hxs (.inl e), fun e => hxs (.inr e)⟩
      have hvv : vb ≠ W9.heap.size ∧ vb ≠ W10.heap.size := ⟨fun e => hvs (.inl e), fun e => hvs (.inr e)⟩
      have HXX := Lib.hid hxx
      have HVV := Lib.hid hvv
      have HGS := Lib.hid hgs
      have H16S := Lib.hid h16s
      have HNE := Lib.hid h1718
      clear hxs hvs hxx hvv hgs h16s yI yF p1 p2 p3 q0 q1 q2 q3 q4 v8 v9 v10 v11
      have HK0 := Lib.hid (HSK.out W11.drew (tu_drew (Turns.refl W11 _)) (fun i => (row_drew H17.out).free i) (fun i => (row_drew H18.out).free i))
      have HK1 := Lib.hid (fun (u0 u1 u2 u3 : Value) => HSK.out (((((W11.setCell ⟨W9.heap.size, 0, none⟩ u0).setCell ⟨W9.heap.size, 1, none⟩ u1).setCell ⟨W9.heap.size, 2, none⟩ u2).setCell ⟨W9.heap.size, 3, none⟩ u3).drew) (tu_drew (tu4 (Turns.refl W11 _) (.inl rfl) _ _ _ _)) (fun i => (row_drew (st4 H17.out _ _ _ _)).free i) (fun i => (row_drew (pa4 H18.out h1817 _ _ _ _)).free i))
      have HK2 := Lib.hid (fun (u0 u1 u2 u3 : Value) => HSK.out (((((W11.setCell ⟨W10.heap.size, 0, none⟩ u0).setCell ⟨W10.heap.size, 1, none⟩ u1).setCell ⟨W10.heap.size, 2, none⟩ u2).setCell ⟨W10.heap.size, 3, none⟩ u3).drew) (tu_drew (tu4 (Turns.refl W11 _) (.inr rfl) _ _ _ _)) (fun i => (row_drew (pa4 H17.out h1718 _ _ _ _)).free i) (fun i => (row_drew (st4 H18.out _ _ _ _)).free i))
      have HK12 := Lib.hid (fun (u0 u1 u2 u3 x0 x1 x2 x3 : Value) => HSK.out (((((((((W11.setCell ⟨W9.heap.size, 0, none⟩ u0).setCell ⟨W9.heap.size, 1, none⟩ u1).setCell ⟨W9.heap.size, 2, none⟩ u2).setCell ⟨W9.heap.size, 3, none⟩ u3).setCell ⟨W10.heap.size, 0, none⟩ x0).setCell ⟨W10.heap.size, 1, none⟩ x1).setCell ⟨W10.heap.size, 2, none⟩ x2).setCell ⟨W10.heap.size, 3, none⟩ x3).drew) (tu_drew (tu4 (tu4 (Turns.refl W11 _) (.inl rfl) _ _ _ _) (.inr rfl) _ _ _ _)) (fun i => (row_drew (pa4 (st4 H17.out _ _ _ _) h1718 _ _ _ _)).free i) (fun i => (row_drew (st4 (pa4 H18.out h1817 _ _ _ _) _ _ _ _)).free i))
      have HK21 := Lib.hid (fun (u0 u1 u2 u3 x0 x1 x2 x3 : Value) => HSK.out (((((((((W11.setCell ⟨W10.heap.size, 0, none⟩ u0).setCell ⟨W10.heap.size, 1, none⟩ u1).setCell ⟨W10.heap.size, 2, none⟩ u2).setCell ⟨W10.heap.size, 3, none⟩ u3).setCell ⟨W9.heap.size, 0, none⟩ x0).setCell ⟨W9.heap.size, 1, none⟩ x1).setCell ⟨W9.heap.size, 2, none⟩ x2).setCell ⟨W9.heap.size, 3, none⟩ x3).drew) (tu_drew (tu4 (tu4 (Turns.refl W11 _) (.inr rfl) _ _ _ _) (.inl rfl) _ _ _ _)) (fun i => (row_drew (st4 (pa4 H17.out h1718 _ _ _ _) _ _ _ _)).free i) (fun i => (row_drew (pa4 (st4 H18.out _ _ _ _) h1817 _ _ _ _)).free i))
      clear HSK
      go_upto_region 11 with fail
      go_cut [] (fun wx => Hid (Turns W11 wx (fun k => k = W9.heap.size ∨ k = W10.heap.size) ∧ Row wx W9.heap.size 33 #[.int .i64 1, .int .i64 nn, .string ⟨#[]⟩, .bool false] ∧ Row wx W10.heap.size 33 #[.int .i64 2, .int .i64 0, .string u, .bool false]))
      case first =>
        go_region_held3 (fun X => X.cell? ⟨w3.heap.size, 4, none⟩ = some (.slice (some ⟨vb, 0, none⟩) 3 3) ∧ X.cell? ⟨vb, 0, none⟩ = some (.int .i64 2) ∧ X.cell? ⟨vb, 1, none⟩ = some (.int .i64 0) ∧ X.cell? ⟨vb, 2, none⟩ = some (.string u) ∧ X.cell? ⟨vb, 3, none⟩ = some (.bool false) ∧ X.cell? ⟨vb, 4, none⟩ = some (.int .i64 1) ∧ X.cell? ⟨vb, 5, none⟩ = some (.int .i64 nn) ∧ X.cell? ⟨vb, 6, none⟩ = some (.string ⟨#[]⟩) ∧ X.cell? ⟨vb, 7, none⟩ = some (.bool false) ∧ X.frozen? ⟨W9.heap.size, 0, none⟩ = false ∧ X.frozen? ⟨W9.heap.size, 1, none⟩ = false ∧ X.frozen? ⟨W9.heap.size, 2, none⟩ = false ∧ X.frozen? ⟨W9.heap.size, 3, none⟩ = false ∧ X.frozen? ⟨W10.heap.size, 0, none⟩ = false ∧ X.frozen? ⟨W10.heap.size, 1, none⟩ = false ∧ X.frozen? ⟨W10.heap.size, 2, none⟩ = false ∧ X.frozen? ⟨W10.heap.size, 3, none⟩ = false)
          (first
            | with_reducible exact ⟨p4, v0, v1, v2, v3, v4, v5, v6, v7, fm0, fm1, fm2, fm3, fn0, fn1, fn2, fn3⟩
            | with_reducible exact HK0.out
            | with_reducible exact HK1.out _ _ _ _
            | with_reducible exact HK2.out _ _ _ _
            | with_reducible exact HK12.out _ _ _ _ _ _ _ _
            | with_reducible exact HK21.out _ _ _ _ _ _ _ _
            | fail)
          (fail)
        all_goals
          go_wp2
          go_meet
          first
            | with_reducible exact Lib.hid (sw_ab H17.out H18.out h1718 _ _ _ _ _ _ _ _)
            | with_reducible exact Lib.hid (sw_ba H17.out H18.out h1718 _ _ _ _ _ _ _ _)
            | trace_state
      case rest =>
        obtain ⟨ht, hr17, hr18⟩ := hcut.out
        have hbe := ht.below HC11.out.be HC11.out.be.size (fun k hk e => by have := HC11.out.ge; rcases e with e | e <;> omega)
        have H16 := Lib.hid (H16.out.turns ht H16S.out)
        have H17 := Lib.hid hr17
        have H18 := Lib.hid hr18
        obtain ⟨yI, yF, HG12⟩ := y_turns ht HY.out.1 HGS.out HY.out.2.1 HY.out.2.2
        obtain ⟨_, q0, q1, q2, q3, q4⟩ := Row.five H16.out
        clear ht hr17 hr18 m0 m1 m2 m3 n0 n1 n2 n3 fm0 fm1 fm2 fm3 fn0 fn1 fn2 fn3 HK0 HK1 HK2 HK12 HK21 p0 p4 v0 v1 v2 v3 v4 v5 v6 v7 h1718 h1817
        go_upto_region 15 with fail
        have hbV := hbe.setCell (p := ⟨g, o + 1, none⟩) HC11.out.ge (.int .i64 (bits .xor .i64 0 1))
        have hyV : (wc.setCell ⟨g, o + 1, none⟩ (.int .i64 (bits .xor .i64 0 1))).cell? ⟨g, o + 1, none⟩ = some (.int .i64 (bits .xor .i64 0 1)) := World.cell?_setCell_same' _ _ _ (by rw [yI]; rfl)
        have hgV : g < (wc.setCell ⟨g, o + 1, none⟩ (.int .i64 (bits .xor .i64 0 1))).heap.size := by simpa using HG12
        have R16 := Lib.hid (H16.out.past (p := ⟨g, o + 1, none⟩) (by show w8.heap.size ≠ g; omega) (.int .i64 (bits .xor .i64 0 1)))
        have R17 := Lib.hid (H17.out.past (p := ⟨g, o + 1, none⟩) (by show W9.heap.size ≠ g; omega) (.int .i64 (bits .xor .i64 0 1)))
        have R18 := Lib.hid (H18.out.past (p := ⟨g, o + 1, none⟩) (by show W10.heap.size ≠ g; omega) (.int .i64 (bits .xor .i64 0 1)))
        generalize wc.setCell ⟨g, o + 1, none⟩ (.int .i64 (bits .xor .i64 0 1)) = V at hbV hyV hgV R16 R17 R18 ⊢
        have HYV := Lib.hid hyV
        have HGV := Lib.hid hgV
        have HFV := Lib.hid (HF.out.call hbV)
        have R8 := Lib.hid (row_call H8.out hbV)
        have R10 := Lib.hid (row_call H10.out hbV)
        have R12 := Lib.hid (row_call H12.out hbV)
        have hS : ∀ X, Below V.heap.size V X → X.cell? ⟨w4.heap.size, 0, none⟩ = some (.int .i64 1) ∧ X.cell? ⟨w4.heap.size, 1, none⟩ = some (.int .i64 nn) ∧ X.cell? ⟨w4.heap.size, 2, none⟩ = some (.string ⟨#[]⟩) ∧ X.cell? ⟨w4.heap.size, 3, none⟩ = some (.bool false) ∧ X.cell? ⟨W9.heap.size, 0, none⟩ = some (.int .i64 1) ∧ X.cell? ⟨W9.heap.size, 1, none⟩ = some (.int .i64 nn) ∧ X.cell? ⟨W9.heap.size, 2, none⟩ = some (.string ⟨#[]⟩) ∧ X.cell? ⟨W9.heap.size, 3, none⟩ = some (.bool false) ∧ X.cell? ⟨w5.heap.size, 0, none⟩ = some (.int .i64 2) ∧ X.cell? ⟨w5.heap.size, 1, none⟩ = some (.int .i64 0) ∧ X.cell? ⟨w5.heap.size, 2, none⟩ = some (.string u) ∧ X.cell? ⟨w5.heap.size, 3, none⟩ = some (.bool false) ∧ X.cell? ⟨W10.heap.size, 0, none⟩ = some (.int .i64 2) ∧ X.cell? ⟨W10.heap.size, 1, none⟩ = some (.int .i64 0) ∧ X.cell? ⟨W10.heap.size, 2, none⟩ = some (.string u) ∧ X.cell? ⟨W10.heap.size, 3, none⟩ = some (.bool false) ∧ X.cell? ⟨w6.heap.size, 0, none⟩ = some (.int .i64 3) ∧ X.cell? ⟨w6.heap.size, 1, none⟩ = some (.int .i64 0) ∧ X.cell? ⟨w6.heap.size, 2, none⟩ = some (.string ⟨#[]⟩) ∧ X.cell? ⟨w6.heap.size, 3, none⟩ = some (.bool bb) ∧ X.cell? ⟨w3.heap.size, 0, none⟩ = some (.string ⟨#[67]⟩) ∧ X.cell? ⟨w3.heap.size, 1, none⟩ = some (.string key) ∧ X.cell? ⟨w3.heap.size, 2, none⟩ = some (.int .i64 t) ∧ X.cell? ⟨w3.heap.size, 3, none⟩ = some (.int .i64 0) ∧ X.cell? ⟨w3.heap.size, 4, none⟩ = some (.slice (some ⟨vb, 0, none⟩) 3 3) ∧ X.cell? ⟨vb, 1, none⟩ = some (.int .i64 0) ∧ X.cell? ⟨vb, 8, none⟩ = some (.int .i64 3) ∧ X.cell? ⟨vb, 9, none⟩ = some (.int .i64 0) ∧ X.cell? ⟨vb, 10, none⟩ = some (.string ⟨#[]⟩) ∧ X.cell? ⟨vb, 11, none⟩ = some (.bool bb) ∧ X.cell? ⟨w8.heap.size, 4, none⟩ = some (.slice (some ⟨g, o, none⟩) 3 yc) ∧ X.cell? ⟨g, o + 1, none⟩ = some (.int .i64 (bits .xor .i64 0 1)) := fun X h =>
          ⟨((row_call R8.out h).cell 0).trans rfl, ((row_call R8.out h).cell 1).trans rfl, ((row_call R8.out h).cell 2).trans rfl, ((row_call R8.out h).cell 3).trans rfl, ((row_call R17.out h).cell 0).trans rfl, ((row_call R17.out h).cell 1).trans rfl, ((row_call R17.out h).cell 2).trans rfl, ((row_call R17.out h).cell 3).trans rfl, ((row_call R10.out h).cell 0).trans rfl, ((row_call R10.out h).cell 1).trans rfl, ((row_call R10.out h).cell 2).trans rfl, ((row_call R10.out h).cell 3).trans rfl, ((row_call R18.out h).cell 0).trans rfl, ((row_call R18.out h).cell 1).trans rfl, ((row_call R18.out h).cell 2).trans rfl, ((row_call R18.out h).cell 3).trans rfl, ((row_call R12.out h).cell 0).trans rfl, ((row_call R12.out h).cell 1).trans rfl, ((row_call R12.out h).cell 2).trans rfl, ((row_call R12.out h).cell 3).trans rfl, ((row_call HFV.out.rx h).cell 0).trans rfl, ((row_call HFV.out.rx h).cell 1).trans rfl, ((row_call HFV.out.rx h).cell 2).trans rfl, ((row_call HFV.out.rx h).cell 3).trans rfl, ((row_call HFV.out.rx h).cell 4).trans rfl, ((row_call HFV.out.rv h).cell 1).trans rfl, ((row_call HFV.out.rv h).cell 8).trans rfl, ((row_call HFV.out.rv h).cell 9).trans rfl, ((row_call HFV.out.rv h).cell 10).trans rfl, ((row_call HFV.out.rv h).cell 11).trans rfl, ((row_call R16.out h).cell 4).trans rfl, (h.cell (p := ⟨g, o + 1, none⟩) (by have := HGV.out; exact this)).trans HYV.out⟩
        have HS := Lib.hid hS
        --obtain ⟨s0, s1, s2, s3, s4, s5, s6, s7, s8, s9, s10, s11, s12, s13, s14, s15, s16, s17, s18, s19, s20, s21, s22, s23, s24, s25, s26, s27, s28, s29, s30, s31⟩ := hS V (Below.refl _ V)
        have HAW := Lib.hid (fun (X : World) (h : Below V.heap.size V X) => awake04 X ((HM.out.below HFV.out.be).below h))
        have HCP := Lib.hid (fun (X : World) (h : Below V.heap.size V X) => copy_n ⟨#[67]⟩ key t 0 vb 3 (vsC nn u bb) X (row_call HFV.out.rv h) rfl (by decide) (by decide))
        have HVX := Lib.hid (fun (X : World) (h : Below V.heap.size V X) => HFV.out.vl.below h h.size)
        have HBE := Lib.hid HFV.out.be
        clear hS hbV hyV hgV hgl hgl9 hgl10 yI yF HF H8 H10 H12 H16 H17 H18 HF11 HC11 HFV R8 R10 R12 R16 R17 R18 q0 q1 q2 q3 q4 hbe HG12 HY HGS H16S HNE HXX HVV
        have HB : Hid (Below V.heap.size V V.drew) := (Below.refl _ V).drew
        refine wp_region_noPanic ?_
        refine wp_region_held_drew (S := (fun X => X.cell? ⟨w4.heap.size, 0, none⟩ = some (.int .i64 1) ∧ X.cell? ⟨w4.heap.size, 1, none⟩ = some (.int .i64 nn) ∧ X.cell? ⟨w4.heap.size, 2, none⟩ = some (.string ⟨#[]⟩) ∧ X.cell? ⟨w4.heap.size, 3, none⟩ = some (.bool false) ∧ X.cell? ⟨W9.heap.size, 0, none⟩ = some (.int .i64 1) ∧ X.cell? ⟨W9.heap.size, 1, none⟩ = some (.int .i64 nn) ∧ X.cell? ⟨W9.heap.size, 2, none⟩ = some (.string ⟨#[]⟩) ∧ X.cell? ⟨W9.heap.size, 3, none⟩ = some (.bool false) ∧ X.cell? ⟨w5.heap.size, 0, none⟩ = some (.int .i64 2) ∧ X.cell? ⟨w5.heap.size, 1, none⟩ = some (.int .i64 0) ∧ X.cell? ⟨w5.heap.size, 2, none⟩ = some (.string u) ∧ X.cell? ⟨w5.heap.size, 3, none⟩ = some (.bool false) ∧ X.cell? ⟨W10.heap.size, 0, none⟩ = some (.int .i64 2) ∧ X.cell? ⟨W10.heap.size, 1, none⟩ = some (.int .i64 0) ∧ X.cell? ⟨W10.heap.size, 2, none⟩ = some (.string u) ∧ X.cell? ⟨W10.heap.size, 3, none⟩ = some (.bool false) ∧ X.cell? ⟨w6.heap.size, 0, none⟩ = some (.int .i64 3) ∧ X.cell? ⟨w6.heap.size, 1, none⟩ = some (.int .i64 0) ∧ X.cell? ⟨w6.heap.size, 2, none⟩ = some (.string ⟨#[]⟩) ∧ X.cell? ⟨w6.heap.size, 3, none⟩ = some (.bool bb) ∧ X.cell? ⟨w3.heap.size, 0, none⟩ = some (.string ⟨#[67]⟩) ∧ X.cell? ⟨w3.heap.size, 1, none⟩ = some (.string key) ∧ X.cell? ⟨w3.heap.size, 2, none⟩ = some (.int .i64 t) ∧ X.cell? ⟨w3.heap.size, 3, none⟩ = some (.int .i64 0) ∧ X.cell? ⟨w3.heap.size, 4, none⟩ = some (.slice (some ⟨vb, 0, none⟩) 3 3) ∧ X.cell? ⟨vb, 1, none⟩ = some (.int .i64 0) ∧ X.cell? ⟨vb, 8, none⟩ = some (.int .i64 3) ∧ X.cell? ⟨vb, 9, none⟩ = some (.int .i64 0) ∧ X.cell? ⟨vb, 10, none⟩ = some (.string ⟨#[]⟩) ∧ X.cell? ⟨vb, 11, none⟩ = some (.bool bb) ∧ X.cell? ⟨w8.heap.size, 4, none⟩ = some (.slice (some ⟨g, o, none⟩) 3 yc) ∧ X.cell? ⟨g, o + 1, none⟩ = some (.int .i64 (bits .xor .i64 0 1)))) (by kernel_rfl) ?_ (fun hHeld => ?_)
        · exact HS.out _ HB.out
        refine wpAnyH_ready (rs := [0]) (by kernel_rfl) (by simp) ?_
        refine AllReadyH.cons rfl (fun K hK => ?_) AllReadyH.nil
        go_simp
        go_at_call 10
        (with_reducible refine (HAW.out _ HB.out).mono ?_)
        rintro e w13 ⟨rfl, hb⟩
        have h3 := HB.out.trans (hb.mono HB.out.size)
        have HB := Lib.hid h3
        clear hb h3
        try go_wp2_with fail
        refine hK.out _ _ ?_ (fun hHeld => ?_)
        · exact HS.out _ HB.out
        clear hK K
        try simp only [Act.put, List.setIfInBounds_toArray, List.set_cons_zero, List.set_cons_succ]
        refine take_at 1 90 _ (v := ?vc1) rfl rfl (by kernel_rfl) (by kernel_rfl) (by kernel_rfl) (fun _ _ _ h => h) (Or.inl ⟨by rfl, ?hyc1⟩) (by assumption) ?restc1
        case hyc1 =>
          intro wX hSw
          try dsimp only at hSw
          go_simp
          first
          | done
          | (with_reducible rfl)
        try simp only [Act.put, List.setIfInBounds_toArray, List.set_cons_zero, List.set_cons_succ]
        refine take_at 2 91 _ (v := ?vc2) rfl rfl (by kernel_rfl) (by kernel_rfl) (by kernel_rfl) (fun _ _ _ h => h) (Or.inl ⟨by rfl, ?hyc2⟩) (by assumption) ?restc2
        case hyc2 =>
          intro wX hSw
          try dsimp only at hSw
          go_simp
          first
          | done
          | (with_reducible rfl)
        try simp only [Act.put, List.setIfInBounds_toArray, List.set_cons_zero, List.set_cons_succ]
        refine take_at 3 92 _ (v := ?vc3) rfl rfl (by kernel_rfl) (by kernel_rfl) (by kernel_rfl) (fun _ _ _ h => h) (Or.inl ⟨by rfl, ?hyc3⟩) (by assumption) ?restc3
        case hyc3 =>
          intro wX hSw
          try dsimp only at hSw
          go_simp
          first
          | done
          | (with_reducible rfl)
        try simp only [Act.put, List.setIfInBounds_toArray, List.set_cons_zero, List.set_cons_succ]
        refine take_at 4 93 _ (v := ?vc4) rfl rfl (by kernel_rfl) (by kernel_rfl) (by kernel_rfl) (fun _ _ _ h => h) (Or.inl ⟨by rfl, ?hyc4⟩) (by assumption) ?restc4
        case hyc4 =>
          intro wX hSw
          try dsimp only at hSw
          go_simp
          first
          | done
          | (with_reducible rfl)
        try simp only [Act.put, List.setIfInBounds_toArray, List.set_cons_zero, List.set_cons_succ]
        refine take_at 5 94 _ (v := ?vc5) rfl rfl (by kernel_rfl) (by kernel_rfl) (by kernel_rfl) (fun _ _ _ h => h) (Or.inl ⟨by rfl, ?hyc5⟩) (by assumption) ?restc5
        case hyc5 =>
          intro wX hSw
          try dsimp only at hSw
          go_simp
          first
          | done
          | (with_reducible rfl)
        try simp only [Act.put, List.setIfInBounds_toArray, List.set_cons_zero, List.set_cons_succ]
        refine take_at 6 95 _ (v := ?vc6) rfl rfl (by kernel_rfl) (by kernel_rfl) (by kernel_rfl) (fun _ _ _ h => h) (Or.inl ⟨by rfl, ?hyc6⟩) (by assumption) ?restc6
        case hyc6 =>
          intro wX hSw
          try dsimp only at hSw
          go_simp
          first
          | done
          | (with_reducible rfl)
        try simp only [Act.put, List.setIfInBounds_toArray, List.set_cons_zero, List.set_cons_succ]
        refine take_at 7 96 _ (v := ?vc7) rfl rfl (by kernel_rfl) (by kernel_rfl) (by kernel_rfl) (fun _ _ _ h => h) (Or.inl ⟨by rfl, ?hyc7⟩) (by assumption) ?restc7
        case hyc7 =>
          intro wX hSw
          try dsimp only at hSw
          go_simp
          first
          | done
          | (with_reducible rfl)
        try simp only [Act.put, List.setIfInBounds_toArray, List.set_cons_zero, List.set_cons_succ]
        refine take_at 8 97 _ (v := ?vc8) rfl rfl (by kernel_rfl) (by kernel_rfl) (by kernel_rfl) (fun _ _ _ h => h) (Or.inl ⟨by rfl, ?hyc8⟩) (by assumption) ?restc8
        case hyc8 =>
          intro wX hSw
          try dsimp only at hSw
          go_simp
          first
          | done
          | (with_reducible rfl)
        try simp only [Act.put, List.setIfInBounds_toArray, List.set_cons_zero, List.set_cons_succ]
        refine take_at 9 98 _ (v := ?vc9) rfl rfl (by kernel_rfl) (by kernel_rfl) (by kernel_rfl) (fun _ _ _ h => h) (Or.inl ⟨by rfl, ?hyc9⟩) (by assumption) ?restc9
        case hyc9 =>
          intro wX hSw
          try dsimp only at hSw
          go_simp
          first
          | done
          | (with_reducible rfl)
        try simp only [Act.put, List.setIfInBounds_toArray, List.set_cons_zero, List.set_cons_succ]
        refine take_at 10 99 _ (v := ?vc10) rfl rfl (by kernel_rfl) (by kernel_rfl) (by kernel_rfl) (fun _ _ _ h => h) (Or.inl ⟨by rfl, ?hyc10⟩) (by assumption) ?restc10
        case hyc10 =>
          intro wX hSw
          try dsimp only at hSw
          go_simp
          first
          | done
          | (with_reducible rfl)
        try simp only [Act.put, List.setIfInBounds_toArray, List.set_cons_zero, List.set_cons_succ]
        refine take_at 11 100 _ (v := ?vc11) rfl rfl (by kernel_rfl) (by kernel_rfl) (by kernel_rfl) (fun _ _ _ h => h) (Or.inl ⟨by rfl, ?hyc11⟩) (by assumption) ?restc11
        case hyc11 =>
          intro wX hSw
          try dsimp only at hSw
          go_simp
          first
          | done
          | (with_reducible rfl)
        try simp only [Act.put, List.setIfInBounds_toArray, List.set_cons_zero, List.set_cons_succ]
        refine take_at 12 101 _ (v := ?vc12) rfl rfl (by kernel_rfl) (by kernel_rfl) (by kernel_rfl) (fun _ _ _ h => h) (Or.inl ⟨by rfl, ?hyc12⟩) (by assumption) ?restc12
        case hyc12 =>
          intro wX hSw
          try dsimp only at hSw
          go_simp
          first
          | done
          | (with_reducible rfl)
        try simp only [Act.put, List.setIfInBounds_toArray, List.set_cons_zero, List.set_cons_succ]
        refine take_at 13 102 _ (v := ?vc13) rfl rfl (by kernel_rfl) (by kernel_rfl) (by kernel_rfl) (fun _ _ _ h => h) (Or.inl ⟨by rfl, ?hyc13⟩) (by assumption) ?restc13
        case hyc13 =>
          intro wX hSw
          try dsimp only at hSw
          go_simp
          first
          | done
          | (with_reducible rfl)
        try simp only [Act.put, List.setIfInBounds_toArray, List.set_cons_zero, List.set_cons_succ]
        refine take_at 14 103 _ (v := ?vc14) rfl rfl (by kernel_rfl) (by kernel_rfl) (by kernel_rfl) (fun _ _ _ h => h) (Or.inl ⟨by rfl, ?hyc14⟩) (by assumption) ?restc14
        case hyc14 =>
          intro wX hSw
          try dsimp only at hSw
          go_simp
          first
          | done
          | (with_reducible rfl)
        try simp only [Act.put, List.setIfInBounds_toArray, List.set_cons_zero, List.set_cons_succ]
        refine take_at 15 104 _ (v := ?vc15) rfl rfl (by kernel_rfl) (by kernel_rfl) (by kernel_rfl) (fun _ _ _ h => h) (Or.inl ⟨by rfl, ?hyc15⟩) (by assumption) ?restc15
        case hyc15 =>
          intro wX hSw
          try dsimp only at hSw
          go_simp
          first
          | done
          | (with_reducible rfl)
        try simp only [Act.put, List.setIfInBounds_toArray, List.set_cons_zero, List.set_cons_succ]
        refine take_at 16 105 _ (v := ?vc16) rfl rfl (by kernel_rfl) (by kernel_rfl) (by kernel_rfl) (fun _ _ _ h => h) (Or.inl ⟨by rfl, ?hyc16⟩) (by assumption) ?restc16
        case hyc16 =>
          intro wX hSw
          try dsimp only at hSw
          go_simp
          first
          | done
          | (with_reducible rfl)
        try simp only [Act.put, List.setIfInBounds_toArray, List.set_cons_zero, List.set_cons_succ]
        refine take_at 17 106 _ (v := ?vc17) rfl rfl (by kernel_rfl) (by kernel_rfl) (by kernel_rfl) (fun _ _ _ h => h) (Or.inl ⟨by rfl, ?hyc17⟩) (by assumption) ?restc17
        case hyc17 =>
          intro wX hSw
          try dsimp only at hSw
          go_simp
          first
          | done
          | (with_reducible rfl)
        try simp only [Act.put, List.setIfInBounds_toArray, List.set_cons_zero, List.set_cons_succ]
        refine take_at 18 107 _ (v := ?vc18) rfl rfl (by kernel_rfl) (by kernel_rfl) (by kernel_rfl) (fun _ _ _ h => h) (Or.inl ⟨by rfl, ?hyc18⟩) (by assumption) ?restc18
        case hyc18 =>
          intro wX hSw
          try dsimp only at hSw
          go_simp
          first
          | done
          | (with_reducible rfl)
        try simp only [Act.put, List.setIfInBounds_toArray, List.set_cons_zero, List.set_cons_succ]
        refine take_at 19 108 _ (v := ?vc19) rfl rfl (by kernel_rfl) (by kernel_rfl) (by kernel_rfl) (fun _ _ _ h => h) (Or.inl ⟨by rfl, ?hyc19⟩) (by assumption) ?restc19
        case hyc19 =>
          intro wX hSw
          try dsimp only at hSw
          go_simp
          first
          | done
          | (with_reducible rfl)
        try simp only [Act.put, List.setIfInBounds_toArray, List.set_cons_zero, List.set_cons_succ]
        refine take_at 20 109 _ (v := ?vc20) rfl rfl (by kernel_rfl) (by kernel_rfl) (by kernel_rfl) (fun _ _ _ h => h) (Or.inl ⟨by rfl, ?hyc20⟩) (by assumption) ?restc20
        case hyc20 =>
          intro wX hSw
          try dsimp only at hSw
          go_simp
          first
          | done
          | (with_reducible rfl)
        try simp only [Act.put, List.setIfInBounds_toArray, List.set_cons_zero, List.set_cons_succ]
        refine take_at 21 110 _ (v := ?vc21) rfl rfl (by kernel_rfl) (by kernel_rfl) (by kernel_rfl) (fun _ _ _ h => h) (Or.inl ⟨by rfl, ?hyc21⟩) (by assumption) ?restc21
        case hyc21 =>
          intro wX hSw
          try dsimp only at hSw
          go_simp
          first
          | done
          | (with_reducible rfl)
        try simp only [Act.put, List.setIfInBounds_toArray, List.set_cons_zero, List.set_cons_succ]
        refine take_at 22 111 _ (v := ?vc22) rfl rfl (by kernel_rfl) (by kernel_rfl) (by kernel_rfl) (fun _ _ _ h => h) (Or.inl ⟨by rfl, ?hyc22⟩) (by assumption) ?restc22
        case hyc22 =>
          intro wX hSw
          try dsimp only at hSw
          go_simp
          first
          | done
          | (with_reducible rfl)
        try simp only [Act.put, List.setIfInBounds_toArray, List.set_cons_zero, List.set_cons_succ]
        refine take_at 23 112 _ (v := ?vc23) rfl rfl (by kernel_rfl) (by kernel_rfl) (by kernel_rfl) (fun _ _ _ h => h) (Or.inl ⟨by rfl, ?hyc23⟩) (by assumption) ?restc23
        case hyc23 =>
          intro wX hSw
          try dsimp only at hSw
          go_simp
          first
          | done
          | (with_reducible rfl)
        try simp only [Act.put, List.setIfInBounds_toArray, List.set_cons_zero, List.set_cons_succ]
        refine take_at 24 113 _ (v := ?vc24) rfl rfl (by kernel_rfl) (by kernel_rfl) (by kernel_rfl) (fun _ _ _ h => h) (Or.inl ⟨by rfl, ?hyc24⟩) (by assumption) ?restc24
        case hyc24 =>
          intro wX hSw
          try dsimp only at hSw
          go_simp
          first
          | done
          | (with_reducible rfl)
        try simp only [Act.put, List.setIfInBounds_toArray, List.set_cons_zero, List.set_cons_succ]
        refine take_at 25 114 _ (v := ?vc25) rfl rfl (by kernel_rfl) (by kernel_rfl) (by kernel_rfl) (fun _ _ _ h => h) (Or.inl ⟨by rfl, ?hyc25⟩) (by assumption) ?restc25
        case hyc25 =>
          intro wX hSw
          try dsimp only at hSw
          go_simp
          first
          | done
          | (with_reducible rfl)
        try simp only [Act.put, List.setIfInBounds_toArray, List.set_cons_zero, List.set_cons_succ]
        refine take_at 26 115 _ (v := ?vc26) rfl rfl (by kernel_rfl) (by kernel_rfl) (by kernel_rfl) (fun _ _ _ h => h) (Or.inl ⟨by rfl, ?hyc26⟩) (by assumption) ?restc26
        case hyc26 =>
          intro wX hSw
          try dsimp only at hSw
          go_simp
          first
          | done
          | (with_reducible rfl)
        try simp only [Act.put, List.setIfInBounds_toArray, List.set_cons_zero, List.set_cons_succ]
        refine take_at 27 116 _ (v := ?vc27) rfl rfl (by kernel_rfl) (by kernel_rfl) (by kernel_rfl) (fun _ _ _ h => h) (Or.inl ⟨by rfl, ?hyc27⟩) (by assumption) ?restc27
        case hyc27 =>
          intro wX hSw
          try dsimp only at hSw
          go_simp
          first
          | done
          | (with_reducible rfl)
        try simp only [Act.put, List.setIfInBounds_toArray, List.set_cons_zero, List.set_cons_succ]
        refine take_at 28 117 _ (v := ?vc28) rfl rfl (by kernel_rfl) (by kernel_rfl) (by kernel_rfl) (fun _ _ _ h => h) (Or.inl ⟨by rfl, ?hyc28⟩) (by assumption) ?restc28
        case hyc28 =>
          intro wX hSw
          try dsimp only at hSw
          go_simp
          first
          | done
          | (with_reducible rfl)
        try simp only [Act.put, List.setIfInBounds_toArray, List.set_cons_zero, List.set_cons_succ]
        refine take_at 29 118 _ (v := ?vc29) rfl rfl (by kernel_rfl) (by kernel_rfl) (by kernel_rfl) (fun _ _ _ h => h) (Or.inl ⟨by rfl, ?hyc29⟩) (by assumption) ?restc29
        case hyc29 =>
          intro wX hSw
          try dsimp only at hSw
          go_simp
          first
          | done
          | (with_reducible rfl)
        try simp only [Act.put, List.setIfInBounds_toArray, List.set_cons_zero, List.set_cons_succ]
        refine take_at 30 119 _ (v := ?vc30) rfl rfl (by kernel_rfl) (by kernel_rfl) (by kernel_rfl) (fun _ _ _ h => h) (Or.inl ⟨by rfl, ?hyc30⟩) (by assumption) ?restc30
        case hyc30 =>
          intro wX hSw
          try dsimp only at hSw
          go_simp
          first
          | done
          | (with_reducible rfl)
        try simp only [Act.put, List.setIfInBounds_toArray, List.set_cons_zero, List.set_cons_succ]
        refine take_at 31 120 _ (v := ?vc31) rfl rfl (by kernel_rfl) (by kernel_rfl) (by kernel_rfl) (fun _ _ _ h => h) (Or.inl ⟨by rfl, ?hyc31⟩) (by assumption) ?restc31
        case hyc31 =>
          intro wX hSw
          try dsimp only at hSw
          go_simp
          first
          | done
          | (with_reducible rfl)
        try simp only [Act.put, List.setIfInBounds_toArray, List.set_cons_zero, List.set_cons_succ]
        refine take_at 32 121 _ (v := ?vc32) rfl rfl (by kernel_rfl) (by kernel_rfl) (by kernel_rfl) (fun _ _ _ h => h) (Or.inl ⟨by rfl, ?hyc32⟩) (by assumption) ?restc32
        case hyc32 =>
          intro wX hSw
          try dsimp only at hSw
          go_simp
          first
          | done
          | (with_reducible rfl)
        try simp only [Act.put, List.setIfInBounds_toArray, List.set_cons_zero, List.set_cons_succ]
        refine take_at 33 122 _ (v := ?vc33) rfl rfl (by kernel_rfl) (by kernel_rfl) (by kernel_rfl) (fun _ _ _ h => h) (Or.inl ⟨by rfl, ?hyc33⟩) (by assumption) ?restc33
        case hyc33 =>
          intro wX hSw
          try dsimp only at hSw
          go_simp
          first
          | done
          | (with_reducible rfl)
        try simp only [Act.put, List.setIfInBounds_toArray, List.set_cons_zero, List.set_cons_succ]
        refine take_at 34 123 _ (v := ?vc34) rfl rfl (by kernel_rfl) (by kernel_rfl) (by kernel_rfl) (fun _ _ _ h => h) (Or.inl ⟨by rfl, ?hyc34⟩) (by assumption) ?restc34
        case hyc34 =>
          intro wX hSw
          try dsimp only at hSw
          go_simp
          first
          | done
          | (with_reducible rfl)
        try simp only [Act.put, List.setIfInBounds_toArray, List.set_cons_zero, List.set_cons_succ]
        refine take_at 35 124 _ (v := ?vc35) rfl rfl (by kernel_rfl) (by kernel_rfl) (by kernel_rfl) (fun _ _ _ h => h) (Or.inl ⟨by rfl, ?hyc35⟩) (by assumption) ?restc35
        case hyc35 =>
          intro wX hSw
          try dsimp only at hSw
          go_simp
          first
          | done
          | (with_reducible rfl)
        try simp only [Act.put, List.setIfInBounds_toArray, List.set_cons_zero, List.set_cons_succ]
        refine take_at 36 125 _ (v := ?vc36) rfl rfl (by kernel_rfl) (by kernel_rfl) (by kernel_rfl) (fun _ _ _ h => h) (Or.inl ⟨by rfl, ?hyc36⟩) (by assumption) ?restc36
        case hyc36 =>
          intro wX hSw
          try dsimp only at hSw
          go_simp
          first
          | done
          | (with_reducible rfl)
        try simp only [Act.put, List.setIfInBounds_toArray, List.set_cons_zero, List.set_cons_succ]
        refine take_at 37 126 _ (v := ?vc37) rfl rfl (by kernel_rfl) (by kernel_rfl) (by kernel_rfl) (fun _ _ _ h => h) (Or.inl ⟨by rfl, ?hyc37⟩) (by assumption) ?restc37
        case hyc37 =>
          intro wX hSw
          try dsimp only at hSw
          go_simp
          first
          | done
          | (with_reducible rfl)
        try simp only [Act.put, List.setIfInBounds_toArray, List.set_cons_zero, List.set_cons_succ]
        refine take_at 38 127 _ (v := ?vc38) rfl rfl (by kernel_rfl) (by kernel_rfl) (by kernel_rfl) (fun _ _ _ h => h) (Or.inl ⟨by rfl, ?hyc38⟩) (by assumption) ?restc38
        case hyc38 =>
          intro wX hSw
          try dsimp only at hSw
          go_simp
          first
          | done
          | (with_reducible rfl)
        try simp only [Act.put, List.setIfInBounds_toArray, List.set_cons_zero, List.set_cons_succ]
        refine take_at 39 128 _ (v := ?vc39) rfl rfl (by kernel_rfl) (by kernel_rfl) (by kernel_rfl) (fun _ _ _ h => h) (Or.inl ⟨by rfl, ?hyc39⟩) (by assumption) ?restc39
        case hyc39 =>
          intro wX hSw
          try dsimp only at hSw
          go_simp
          first
          | done
          | (with_reducible rfl)
        try simp only [Act.put, List.setIfInBounds_toArray, List.set_cons_zero, List.set_cons_succ]
        refine take_at 40 129 _ (v := ?vc40) rfl rfl (by kernel_rfl) (by kernel_rfl) (by kernel_rfl) (fun _ _ _ h => h) (Or.inl ⟨by rfl, ?hyc40⟩) (by assumption) ?restc40
        case hyc40 =>
          intro wX hSw
          try dsimp only at hSw
          go_simp
          first
          | done
          | (with_reducible rfl)
        try simp only [Act.put, List.setIfInBounds_toArray, List.set_cons_zero, List.set_cons_succ]
        refine take_at 41 130 _ (v := ?vc41) rfl rfl (by kernel_rfl) (by kernel_rfl) (by kernel_rfl) (fun _ _ _ h => h) (Or.inl ⟨by rfl, ?hyc41⟩) (by assumption) ?restc41
        case hyc41 =>
          intro wX hSw
          try dsimp only at hSw
          go_simp
          first
          | done
          | (with_reducible rfl)
        try simp only [Act.put, List.setIfInBounds_toArray, List.set_cons_zero, List.set_cons_succ]
        refine take_at 42 131 _ (v := ?vc42) rfl rfl (by kernel_rfl) (by kernel_rfl) (by kernel_rfl) (fun _ _ _ h => h) (Or.inl ⟨by rfl, ?hyc42⟩) (by assumption) ?restc42
        case hyc42 =>
          intro wX hSw
          try dsimp only at hSw
          go_simp
          first
          | done
          | (with_reducible rfl)
        try simp only [Act.put, List.setIfInBounds_toArray, List.set_cons_zero, List.set_cons_succ]
        refine take_at 43 132 _ (v := ?vc43) rfl rfl (by kernel_rfl) (by kernel_rfl) (by kernel_rfl) (fun _ _ _ h => h) (Or.inl ⟨by rfl, ?hyc43⟩) (by assumption) ?restc43
        case hyc43 =>
          intro wX hSw
          try dsimp only at hSw
          go_simp
          first
          | done
          | (with_reducible rfl)
        try simp only [Act.put, List.setIfInBounds_toArray, List.set_cons_zero, List.set_cons_succ]
        refine take_at 44 133 _ (v := ?vc44) rfl rfl (by kernel_rfl) (by kernel_rfl) (by kernel_rfl) (fun _ _ _ h => h) (Or.inl ⟨by rfl, ?hyc44⟩) (by assumption) ?restc44
        case hyc44 =>
          intro wX hSw
          try dsimp only at hSw
          go_simp
          first
          | done
          | (with_reducible rfl)
        try simp only [Act.put, List.setIfInBounds_toArray, List.set_cons_zero, List.set_cons_succ]
        refine take_at 45 134 _ (v := ?vc45) rfl rfl (by kernel_rfl) (by kernel_rfl) (by kernel_rfl) (fun _ _ _ h => h) (Or.inl ⟨by rfl, ?hyc45⟩) (by assumption) ?restc45
        case hyc45 =>
          intro wX hSw
          try dsimp only at hSw
          go_simp
          first
          | done
          | (with_reducible rfl)
        try simp only [Act.put, List.setIfInBounds_toArray, List.set_cons_zero, List.set_cons_succ]
        refine take_at 46 135 _ (v := ?vc46) rfl rfl (by kernel_rfl) (by kernel_rfl) (by kernel_rfl) (fun _ _ _ h => h) (Or.inl ⟨by rfl, ?hyc46⟩) (by assumption) ?restc46
        case hyc46 =>
          intro wX hSw
          try dsimp only at hSw
          go_simp
          first
          | done
          | (with_reducible rfl)
        try simp only [Act.put, List.setIfInBounds_toArray, List.set_cons_zero, List.set_cons_succ]
        refine take_at 47 136 _ (v := ?vc47) rfl rfl (by kernel_rfl) (by kernel_rfl) (by kernel_rfl) (fun _ _ _ h => h) (Or.inl ⟨by rfl, ?hyc47⟩) (by assumption) ?restc47
        case hyc47 =>
          intro wX hSw
          try dsimp only at hSw
          go_simp
          first
          | done
          | (with_reducible rfl)
        try simp only [Act.put, List.setIfInBounds_toArray, List.set_cons_zero, List.set_cons_succ]
        refine take_at 48 137 _ (v := ?vc48) rfl rfl (by kernel_rfl) (by kernel_rfl) (by kernel_rfl) (fun _ _ _ h => h) (Or.inl ⟨by rfl, ?hyc48⟩) (by assumption) ?restc48
        case hyc48 =>
          intro wX hSw
          try dsimp only at hSw
          go_simp
          first
          | done
          | (with_reducible rfl)
        try simp only [Act.put, List.setIfInBounds_toArray, List.set_cons_zero, List.set_cons_succ]
        refine take_at 49 138 _ (v := ?vc49) rfl rfl (by kernel_rfl) (by kernel_rfl) (by kernel_rfl) (fun _ _ _ h => h) (Or.inl ⟨by rfl, ?hyc49⟩) (by assumption) ?restc49
        case hyc49 =>
          intro wX hSw
          try dsimp only at hSw
          go_simp
          first
          | done
          | (with_reducible rfl)
        try simp only [Act.put, List.setIfInBounds_toArray, List.set_cons_zero, List.set_cons_succ]
        refine take_at 50 139 _ (v := ?vc50) rfl rfl (by kernel_rfl) (by kernel_rfl) (by kernel_rfl) (fun _ _ _ h => h) (Or.inl ⟨by rfl, ?hyc50⟩) (by assumption) ?restc50
        case hyc50 =>
          intro wX hSw
          try dsimp only at hSw
          go_simp
          first
          | done
          | (with_reducible rfl)
        try simp only [Act.put, List.setIfInBounds_toArray, List.set_cons_zero, List.set_cons_succ]
        refine take_at 51 140 _ (v := ?vc51) rfl rfl (by kernel_rfl) (by kernel_rfl) (by kernel_rfl) (fun _ _ _ h => h) (Or.inl ⟨by rfl, ?hyc51⟩) (by assumption) ?restc51
        case hyc51 =>
          intro wX hSw
          try dsimp only at hSw
          go_simp
          first
          | done
          | (with_reducible rfl)
        try simp only [Act.put, List.setIfInBounds_toArray, List.set_cons_zero, List.set_cons_succ]
        refine take_at 52 141 _ (v := ?vc52) rfl rfl (by kernel_rfl) (by kernel_rfl) (by kernel_rfl) (fun _ _ _ h => h) (Or.inl ⟨by rfl, ?hyc52⟩) (by assumption) ?restc52
        case hyc52 =>
          intro wX hSw
          try dsimp only at hSw
          go_simp
          first
          | done
          | (with_reducible rfl)
        try simp only [Act.put, List.setIfInBounds_toArray, List.set_cons_zero, List.set_cons_succ]
        refine take_at 53 142 _ (v := ?vc53) rfl rfl (by kernel_rfl) (by kernel_rfl) (by kernel_rfl) (fun _ _ _ h => h) (Or.inl ⟨by rfl, ?hyc53⟩) (by assumption) ?restc53
        case hyc53 =>
          intro wX hSw
          try dsimp only at hSw
          go_simp
          first
          | done
          | (with_reducible rfl)
        try simp only [Act.put, List.setIfInBounds_toArray, List.set_cons_zero, List.set_cons_succ]
        refine take_at 54 143 _ (v := ?vc54) rfl rfl (by kernel_rfl) (by kernel_rfl) (by kernel_rfl) (fun _ _ _ h => h) (Or.inl ⟨by rfl, ?hyc54⟩) (by assumption) ?restc54
        case hyc54 =>
          intro wX hSw
          try dsimp only at hSw
          go_simp
          first
          | done
          | (with_reducible rfl)
        try simp only [Act.put, List.setIfInBounds_toArray, List.set_cons_zero, List.set_cons_succ]
        refine take_at 55 144 _ (v := ?vc55) rfl rfl (by kernel_rfl) (by kernel_rfl) (by kernel_rfl) (fun _ _ _ h => h) (Or.inl ⟨by rfl, ?hyc55⟩) (by assumption) ?restc55
        case hyc55 =>
          intro wX hSw
          try dsimp only at hSw
          go_simp
          first
          | done
          | (with_reducible rfl)
        try simp only [Act.put, List.setIfInBounds_toArray, List.set_cons_zero, List.set_cons_succ]
        refine wpAnyH_ready (rs := [56]) (by kernel_rfl) (by simp) ?_
        refine AllReadyH.cons rfl (fun K hK => ?_) AllReadyH.nil
        go_simp
        go_at_call 23
        (with_reducible refine (HCP.out _ HB.out).mono ?_)
        rintro e w14 ⟨g2, o2, yc2, rfl, hy3, hy4, hc2⟩
        have HC2 := Lib.hid hc2
        have h3 := HB.out.trans (hc2.be.mono HB.out.size)
        have HB := Lib.hid h3
        clear hc2 h3
        try go_wp2_with fail
        refine hK.out _ _ ?_ (fun hHeld => ?_)
        · exact HS.out _ HB.out
        clear hK K
        try simp only [Act.put, List.setIfInBounds_toArray, List.set_cons_zero, List.set_cons_succ]
        refine wpAnyH_ready (rs := [57]) (by kernel_rfl) (by simp) ?_
        refine AllReadyH.cons rfl (fun K hK => ?_) AllReadyH.nil
        go_simp
        go_at_call 19
        (with_reducible refine (same_yes _ _ _ _ _ _ _ _ _ (vsC nn u bb) _ (HVX.out _ HB.out) HC2.out.vl).mono ?_)
        rintro e w15 ⟨rfl, hb⟩
        have h3 := HB.out.trans (hb.mono HB.out.size)
        have HB := Lib.hid h3
        clear hb h3
        try go_wp2_with fail
        refine hK.out _ _ ?_ (fun hHeld => ?_)
        · exact HS.out _ HB.out
        clear hK K
        try simp only [Act.put, List.setIfInBounds_toArray, List.set_cons_zero, List.set_cons_succ]
        refine take_at 58 147 _ (v := ?vc58) rfl rfl (by kernel_rfl) (by kernel_rfl) (by kernel_rfl) (fun _ _ _ h => h) (Or.inl ⟨by rfl, ?hyc58⟩) (by assumption) ?restc58
        case hyc58 =>
          intro wX hSw
          try dsimp only at hSw
          go_simp
          first
          | done
          | (with_reducible rfl)
        try simp only [Act.put, List.setIfInBounds_toArray, List.set_cons_zero, List.set_cons_succ]
        refine take_at 59 4 _ (v := ?vc59) rfl rfl (by kernel_rfl) (by kernel_rfl) (by kernel_rfl) (fun _ _ _ h => h) (Or.inl ⟨by rfl, ?hyc59⟩) (by assumption) ?restc59
        case hyc59 =>
          intro wX hSw
          try dsimp only at hSw
          go_simp
          first
          | done
          | (with_reducible rfl)
        try simp only [Act.put, List.setIfInBounds_toArray, List.set_cons_zero, List.set_cons_succ]
        refine wpAnyH_done (by kernel_rfl) ?_ _
        refine NoPanic.normal ?_
        go_wp2
        go_ret
        exact ⟨rfl, HBE.out.trans (HB.out.mono HBE.out.size)⟩
end Go.Proofs.YtookojgemipakaaDoor.E4
