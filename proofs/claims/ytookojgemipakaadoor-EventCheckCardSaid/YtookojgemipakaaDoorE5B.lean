/- The law EventCheck, walked. -/
import Derived.Test.YtookojgemipakaaDoorE4F
import Derived.Deep.RegionHeld3
import Derived.Deep.CutBlock
import Derived.Deep.DeepCutAuto
import Derived.Lib.SliceRun
import Derived.Test.YtookojgemipakaaDoorTab
section
namespace Go.Proofs.YtookojgemipakaaDoor.E4
open Go.RowKit Go.Proofs.YtookojgemipakaaDoor Go.Proofs.YtookojgemipakaaDoor.Door Go.Proofs.YtookojgemipakaaDoor.Ev Go.Proofs.YtookojgemipakaaDoor.Sch Go.Proofs.YtookojgemipakaaDoor.Ty Go.Proofs.YtookojgemipakaaDoor.Evl
set_option linter.unusedVariables false
set_option maxRecDepth 100000
theorem find_none (n : ByteArray) (w : World) :
    Calls Tryd.prog 63 #[.pointer none, .string n] w fun e w' => e = .returned (.tuple #[.agg #[.string ⟨#[]⟩, .slice none 0 0], .bool false]) ∧ Below w.heap.size w w' := by
  go_enter Tryd.func63, Tryd.ntmps63
  go_wp2_with fail
  refine (place_nil _ _).mono ?_
  rintro e w' ⟨rfl, hb⟩
  have R : Row w' w.heap.size 67 #[.string ByteArray.empty, .slice none 0 0] := Row.below (Row.made w _ _) hb (by simp)
  have c0 : w'.cell? ⟨w.heap.size, 0, none⟩ = some (.string ByteArray.empty) := (R.cell 0).trans rfl
  have c1 : w'.cell? ⟨w.heap.size, 1, none⟩ = some (.slice none 0 0) := (R.cell 1).trans rfl
  have f0 := R.free 0
  have f1 := R.free 1
  have HB := Lib.hid (((Below.refl w.heap.size w).alloc (Nat.le_refl _) _).trans (hb.mono (by simp)))
  clear hb R
  go_wp2
  have e0 : (w'.setCell ⟨w.heap.size, 0, none⟩ (.string ⟨#[]⟩)).cell? ⟨w.heap.size, 0, none⟩ = some (.string ⟨#[]⟩) := World.cell?_setCell_same' _ _ _ (by rw [c0]; rfl)
  try simp only [Exit.inBlock, Exit.then]
  refine bodyPost_ret (by simp [results, Tryd.results63, go_sem, e0, c1]; try rfl) rfl ?_
  exact ⟨rfl, (HB.out.setCell (Nat.le_refl _) _).setCell (Nat.le_refl _) _⟩
theorem typed_nil (ty key : ByteArray) (t q : Int) (A : Option Addr) (n c : Nat) (w : World) :
    Calls Tryd.prog 35 #[.pointer none, .agg #[.string ty, .string key, .int .i64 t, .int .i64 q, .slice A n c]] w fun e w' => e = .returned (.bool false) ∧ Below w.heap.size w w' := by
  have hX : Below w.heap.size w (w.alloc (.cells #[.string ty, .string key, .int .i64 t, .int .i64 q, .slice A n c] 24)) := (Below.refl _ w).alloc (Nat.le_refl _) _
  have HX := Lib.hid hX
  clear hX
  go_enter Tryd.func35, Tryd.ntmps35
  go_wp2_with fail
  refine (find_none ty _).mono ?_
  rintro e w1 ⟨rfl, hb1⟩
  have HB1 := Lib.hid (HX.out.trans (hb1.mono HX.out.size))
  clear hb1
  go_wp2
  go_ret
  exact ⟨rfl, HB1.out.alloc HB1.out.size _⟩
theorem check_nil (ty key : ByteArray) (t q : Int) (A : Option Addr) (n c : Nat) (w : World) :
    Calls Tryd.prog 11 #[.pointer none, .agg #[.string ty, .string key, .int .i64 t, .int .i64 q, .slice A n c]] w fun e w' => e = .returned (.int .i64 10) ∧ Below w.heap.size w w' :=
  check_by _ ty key t q A n c w false fun X _ => typed_nil ty key t q A n c X
/-- What was made is of its type. -/
theorem shape_typed {ty key : ByteArray} {t : Int} {vs : List VV} (h : Shape ty key t vs) : TypedP typesL ty vs := by
  rcases h.vb with ⟨n, s, hty, _, hs, rfl⟩ | ⟨n, s, b, rfl, _, hs, rfl⟩
  · rcases hty with rfl | rfl
    · exact ⟨0, ⟨#[65]⟩, [(sx, 1), (ss, 2)], idx_A, rfl, fits_two (fits_num _ _) (fits_text _ _ hs)⟩
    · exact ⟨1, ⟨#[66]⟩, [(sx, 1), (ss, 2)], idx_B, rfl, fits_two (fits_num _ _) (fits_text _ _ hs)⟩
  · exact ⟨2, ⟨#[67]⟩, [(ss, 2), (sx, 1), (sb, 3)], idx_C', rfl, fits_three (fits_text _ _ hs) (fits_num _ _) (fits_truth _ _)⟩
theorem typed_len {ty : ByteArray} {vs us : List VV} (h : TypedP typesL ty vs) (g : TypedP typesL ty us) : vs.length = us.length := by
  obtain ⟨i, n, fs, h1, h2, h3⟩ := h
  exact h3.1.symm.trans ((typedP_at h1 h2).1 g).1
theorem shape_drop {ty key : ByteArray} {t : Int} {vs : List VV} (h : Shape ty key t vs) : ¬ TypedP typesL ty (vs.drop 1) := fun g => by
  have := typed_len (shape_typed h) g
  rw [List.length_drop] at this
  have h2 : 2 ≤ vs.length := by rcases h.vb with ⟨_, _, _, _, _, rfl⟩ | ⟨_, _, _, _, _, _, rfl⟩ <;> simp [vsAB, vsC]
  omega
theorem idx_D : idx (typesL.map Prod.fst) ⟨#[68]⟩ < 0 := by rw [idx_data]; decide
theorem shape_kind {ty key : ByteArray} {t n : Int} {vs : List VV} (h : Shape ty key t vs) : ¬ TypedP typesL ty (⟨3, n, ⟨#[]⟩, false⟩ :: vs.drop 1) := fun g => by
  rcases h.vb with ⟨n', s, hty, _, hs, rfl⟩ | ⟨n', s, b, rfl, _, hs, rfl⟩
  · have hf : fitsAll [(sx, 1), (ss, 2)] (⟨3, n, ⟨#[]⟩, false⟩ :: (vsAB n' s).drop 1) := by
      rcases hty with rfl | rfl
      · exact (typedP_at idx_A rfl).1 g
      · exact (typedP_at idx_B rfl).1 g
    have := (hf.2 0 (by simp) (by simp [vsAB])).2
    simp at this
  · have hf := (typedP_at (fs := [(ss, 2), (sx, 1), (sb, 3)]) idx_C' rfl).1 g
    have := (hf.2 0 (by simp) (by simp [vsC])).2
    simp at this
end Go.Proofs.YtookojgemipakaaDoor.E4
end
section
namespace Go.Proofs.YtookojgemipakaaDoor.E5
open Go.RowKit Go.Proofs.YtookojgemipakaaDoor Go.Proofs.YtookojgemipakaaDoor.Door Go.Proofs.YtookojgemipakaaDoor.Ev Go.Proofs.YtookojgemipakaaDoor.Sch Go.Proofs.YtookojgemipakaaDoor.Ty Go.Proofs.YtookojgemipakaaDoor.Evl Go.Proofs.YtookojgemipakaaDoor.E4
set_option linter.unusedVariables false
set_option maxRecDepth 100000
theorem Row.five {X : World} {b : Nat} {t : TypeId} {c0 c1 c2 c3 c4 : Value} (r : Row X b t #[c0, c1, c2, c3, c4]) : b < X.heap.size ∧ X.cell? ⟨b, 0, none⟩ = some c0 ∧ X.cell? ⟨b, 1, none⟩ = some c1 ∧ X.cell? ⟨b, 2, none⟩ = some c2 ∧ X.cell? ⟨b, 3, none⟩ = some c3 ∧ X.cell? ⟨b, 4, none⟩ = some c4 :=
  ⟨r.lt, (r.cell 0).trans rfl, (r.cell 1).trans rfl, (r.cell 2).trans rfl, (r.cell 3).trans rfl, (r.cell 4).trans rfl⟩
/-- What stands behind the schema's and the event's making, and the fields' reading. -/
structure Fx (w wx : World) (b7 vb : Nat) (ty key : ByteArray) (t : Int) (n : Nat) (vs : List VV) (p : Option Addr) : Prop where
  be : Below w.heap.size w wx
  sc : Sc wx wx.heap.size p typesL
  rx : Row wx b7 24 #[.string ty, .string key, .int .i64 t, .int .i64 0, .slice (some ⟨vb, 0, none⟩) n n]
  rv : Row wx vb 33 (vcells vs).toArray
  vl : VL wx wx.heap.size (.slice (some ⟨vb, 0, none⟩) n n) vs
section
variable {w wx wy : World} {b7 vb : Nat} {ty key : ByteArray} {t : Int} {n : Nat} {vs : List VV} {p : Option Addr}
theorem Fx.call (h : Fx w wx b7 vb ty key t n vs p) (g : Below wx.heap.size wx wy) : Fx w wy b7 vb ty key t n vs p :=
  ⟨h.be.trans (g.mono h.be.size), h.sc.below g g.size, h.rx.below g h.rx.lt, h.rv.below g h.rv.lt, h.vl.below g g.size⟩
theorem Fx.alloc (h : Fx w wx b7 vb ty key t n vs p) (o : Obj) : Fx w (wx.alloc o) b7 vb ty key t n vs p := h.call ((Below.refl _ wx).alloc (Nat.le_refl _) o)
end
theorem row_call {w w' : World} {b : Nat} {t : TypeId} {cs : Array Value} (h : Row w b t cs) (g : Below w.heap.size w w') : Row w' b t cs := h.below g h.lt
/-- What the event has become, and what is wrong with it. -/
def Ev2 (w wx : World) (b : Nat) (p : Option Addr) (want : Int) : Prop := ∃ ty key t q A n c vs r,
  Below w.heap.size w wx ∧ Sc wx wx.heap.size p typesL ∧ Row wx b 24 #[.string ty, .string key, .int .i64 t, .int .i64 q, .slice A n c] ∧ VL wx wx.heap.size (.slice A n c) vs ∧ (r = true ↔ TypedP typesL ty vs) ∧ want = checkM r key t q ∧
    (-9223372036854775808 ≤ t ∧ t ≤ 9223372036854775807) ∧ (-9223372036854775808 ≤ q ∧ q ≤ 9223372036854775807)
theorem ev2_mk {w w2 wx : World} {b : Nat} {p : Option Addr} {want : Int} {ty key : ByteArray} {t q : Int} {A : Option Addr} {n c : Nat} {vs : List VV} (hS : Sc w2 w2.heap.size p typesL) (hB : Below w.heap.size w w2) (hb : Below w2.heap.size w2 wx)
    (hr : Row wx b 24 #[.string ty, .string key, .int .i64 t, .int .i64 q, .slice A n c]) (hv : VL wx wx.heap.size (.slice A n c) vs) (r : Bool) (hrr : r = true ↔ TypedP typesL ty vs) (hw : want = checkM r key t q)
    (ht : -9223372036854775808 ≤ t ∧ t ≤ 9223372036854775807) (hq : -9223372036854775808 ≤ q ∧ q ≤ 9223372036854775807) : Ev2 w wx b p want :=
  ⟨ty, key, t, q, A, n, c, vs, r, hB.trans (hb.mono hB.size), hS.below hb hb.size, hr, hv, hrr, hw, ht, hq⟩
theorem five0 {X : World} {b : Nat} {t : TypeId} {c0 c1 c2 c3 c4 : Value} (r : Row X b t #[c0, c1, c2, c3, c4]) (u : Value) : Row (X.setCell ⟨b, 0, none⟩ u) b t #[u, c1, c2, c3, c4] := by simpa using r.put 0 u
theorem five1 {X : World} {b : Nat} {t : TypeId} {c0 c1 c2 c3 c4 : Value} (r : Row X b t #[c0, c1, c2, c3, c4]) (u : Value) : Row (X.setCell ⟨b, 1, none⟩ u) b t #[c0, u, c2, c3, c4] := by simpa using r.put 1 u
theorem five2 {X : World} {b : Nat} {t : TypeId} {c0 c1 c2 c3 c4 : Value} (r : Row X b t #[c0, c1, c2, c3, c4]) (u : Value) : Row (X.setCell ⟨b, 2, none⟩ u) b t #[c0, c1, u, c3, c4] := by simpa using r.put 2 u
theorem five3 {X : World} {b : Nat} {t : TypeId} {c0 c1 c2 c3 c4 : Value} (r : Row X b t #[c0, c1, c2, c3, c4]) (u : Value) : Row (X.setCell ⟨b, 3, none⟩ u) b t #[c0, c1, c2, u, c4] := by simpa using r.put 3 u
theorem five4 {X : World} {b : Nat} {t : TypeId} {c0 c1 c2 c3 c4 : Value} (r : Row X b t #[c0, c1, c2, c3, c4]) (u : Value) : Row (X.setCell ⟨b, 4, none⟩ u) b t #[c0, c1, c2, c3, u] := by simpa using r.put 4 u
theorem st4v {X : World} {b : Nat} {a : VV} {r : List VV} (h : Row X b 33 (vcells (a :: r)).toArray) (k i : Int) (s : ByteArray) (c : Bool) : Row ((((X.setCell ⟨b, 0, none⟩ (.int .i64 k)).setCell ⟨b, 1, none⟩ (.int .i64 i)).setCell ⟨b, 2, none⟩ (.string s)).setCell ⟨b, 3, none⟩ (.bool c)) b 33 (vcells (⟨k, i, s, c⟩ :: r)).toArray := by
  have := (((h.put 0 (.int .i64 k)).put 1 (.int .i64 i)).put 2 (.string s)).put 3 (.bool c)
  simpa [vcells, VV.cells] using this
/-- The values behind the first. -/
theorem vl_drop {X : World} {b n m : Nat} {vs : List VV} (h : Row X b 33 (vcells vs).toArray) (hn : vs.length = n) (hm : n = m + 1) (h9 : n ≤ 1000) : VL X X.heap.size (.slice (some ⟨b, 4, none⟩) m m) (vs.drop 1) := by
  have hl : (vs.drop 1).length = m := by rw [List.length_drop]; omega
  refine ⟨_, m, by rw [hl], by omega, by omega, fun k hk => ⟨b, 4, rfl, h.lt, fun j u hj => ?_⟩⟩
  have hk1 : k + 1 < vs.length := by omega
  have := vcells_get vs (k + 1) hk1 j u (by simpa [List.getElem_drop, Nat.add_comm] using hj)
  rw [show 4 + k * 4 + j = (k + 1) * 4 + j by omega, h.cell]
  simpa using this
theorem past4 {X : World} {b b' : Nat} {t : TypeId} {cs : Array Value} (r : Row X b t cs) (h : b ≠ b') (u0 u1 u2 u3 : Value) : Row ((((X.setCell ⟨b', 0, none⟩ u0).setCell ⟨b', 1, none⟩ u1).setCell ⟨b', 2, none⟩ u2).setCell ⟨b', 3, none⟩ u3) b t cs :=
  (((r.past (p := ⟨b', 0, none⟩) h u0).past (p := ⟨b', 1, none⟩) h u1).past (p := ⟨b', 2, none⟩) h u2).past (p := ⟨b', 3, none⟩) h u3
theorem setCell_id {X : World} {b i : Nat} {t : TypeId} {cs : Array Value} {v : Value} (h : Row X b t cs) (hv : cs[i]? = some v) : X.setCell ⟨b, i, none⟩ v = X := by
  have hh : (X.setCell ⟨b, i, none⟩ v).heap = X.heap := by
    apply Array.ext_getElem?
    intro j
    by_cases hj : j = b
    · subst hj
      have h1 : Row (X.setCell ⟨j, i, none⟩ v) j t (cs.setIfInBounds i v) := h.put i v
      have h2 : cs.setIfInBounds i v = cs := by
        apply Array.ext_getElem?
        intro k
        rw [Array.getElem?_setIfInBounds]
        split
        · rename_i e
          subst e
          split
          · exact hv.symm
          · rename_i e
            rw [Array.getElem?_eq_none (by omega)]
        · rfl
      rw [h2] at h1
      exact Eq.trans h1 (Eq.symm h)
    · exact heap_setCell_other X ⟨b, i, none⟩ j v hj
  cases X
  simp only [World.setCell] at hh ⊢
  simp only [hh]
theorem and1 (n : Int) : bits .and .i64 n 1 = n % 2 := by
  have hm : (BitVec.ofInt 64 1).toNat = 2 ^ 1 - 1 := by decide
  have key : (BitVec.ofInt 64 n &&& BitVec.ofInt 64 1).toNat = (n % ((2 ^ 64 : Nat) : Int)).toNat % 2 ^ 1 := by
    rw [BitVec.toNat_and, BitVec.toNat_ofInt, hm, Nat.and_two_pow_sub_one_eq_mod]
  show IntKind.i64.wrap ((BitVec.ofInt 64 n &&& BitVec.ofInt 64 1).toNat : Nat) = n % 2
  rw [key, IntKind.wrap_i64]
  omega
theorem u8_info : (Tryd.prog.info? 5).map (fun i => (i.zero, i.size, i.bytes)) = some (some (.int .u8 0), 1, 1) := by kernel_rfl
theorem conv_zero (w : World) (M : Nat) : (convert 34 9 (.slice (some ⟨w.heap.size, 0, none⟩) M M)).run Tryd.prog (w.alloc (.cells (madeCells #[.int .u8 0] M) 5)) = .ok (.string ⟨(List.replicate M (0 : UInt8)).toArray⟩) (w.alloc (.cells (madeCells #[.int .u8 0] M) 5)) := by
  have := run_convert_bytes_back (P := Tryd.prog) (w.alloc (.cells (madeCells #[.int .u8 0] M) 5)) 34 9 5 ⟨w.heap.size, 0, none⟩ M (List.replicate M (0 : UInt8)) Tryd.underlying34 Tryd.underlying5 Tryd.underlying9 (fun j hj => by
    rw [List.length_replicate] at hj
    rw [show (⟨w.heap.size, 0, none⟩ : Addr).add j = ⟨w.heap.size, j, none⟩ by rw [Addr.add_lit, Nat.zero_add]]
    rw [(Row.made w 5 (madeCells #[.int .u8 0] M)).cell j]
    simp [madeCells, hj, Nat.mod_one])
  rw [List.length_replicate] at this
  exact this
theorem zero_size (M : Nat) : ((⟨(List.replicate M (0 : UInt8)).toArray⟩ : ByteArray)).size = M := by
  show (List.replicate M (0 : UInt8)).toArray.size = M
  simp
theorem take_at {P : Program} {ops : Array Oper} {Q : Exit → Act → World → Prop} {md : Region.Mode} {S : World → Prop} {fuel : Nat} {listed : Array Bool} {a : Act} {w : World} (i : Nat) (d : Tmp) (oi : Oper) {v : Value} (hi : ops[i]? = some oi) (hd : oi.dst = some d)
    (hs : Region.noSelect ops = true) (hf : Region.free md ops listed i = true) (hr : (Region.ready md ops listed).contains i = true)
    (hQ : ∀ c a w, Q (.panic c) (a.put oi.dst v) w → Q (.panic c) a w) (hy : YieldsIf P ops S oi v a) (hS : S w)
    (h : wpAnyH P md ops Q S fuel (listed.setIfInBounds i true) (a.put (some d) v) w) : wpAnyH P md ops Q S (fuel + 1) listed a w :=
  wpAnyH_take hi hs hf hr hQ hy hS (by rw [hd]; exact h)
theorem cells5 {X : World} {b : Nat} {t : TypeId} {c0 c1 c2 c3 c4 : Value} (r : Row X b t #[c0, c1, c2, c3, c4]) : X.cell? ⟨b, 0, none⟩ = some c0 ∧ X.cell? ⟨b, 1, none⟩ = some c1 ∧ X.cell? ⟨b, 2, none⟩ = some c2 ∧ X.cell? ⟨b, 3, none⟩ = some c3 ∧ X.cell? ⟨b, 4, none⟩ = some c4 := ⟨(r.cell 0).trans rfl, (r.cell 1).trans rfl, (r.cell 2).trans rfl, (r.cell 3).trans rfl, (r.cell 4).trans rfl⟩
set_option maxHeartbeats 4000000 in
theorem check_walk (x : EI) (kind n0 : Int) (w : World) (hx : EIOk w w.heap.size x) (hkd : -9223372036854775808 ≤ kind ∧ kind ≤ 9223372036854775807) (hn0 : -9223372036854775808 ≤ n0 ∧ n0 ≤ 9223372036854775807) (hm : ML w) :
    Calls Tryd.prog 3 #[.agg #[.string x.ty, .string x.key, .int .i64 x.t, .int .i64 x.q, .slice x.va x.vn x.vc], .int .i64 kind, .int .i64 n0] w fun e w' => e = .returned (.bool true) ∧ Below w.heap.size w w' := by
  have HM := Lib.hid hm
  have hX : Below w.heap.size w (w.alloc (.cells #[.string x.ty, .string x.key, .int .i64 x.t, .int .i64 x.q, .slice x.va x.vn x.vc] 24)) := (Below.refl _ w).alloc (Nat.le_refl _) _
  have HX := Lib.hid hX
  have HI := Lib.hid ((hx.below hX).mono hX.size)
  have HR0 : Hid (Row (w.alloc (.cells #[.string x.ty, .string x.key, .int .i64 x.t, .int .i64 x.q, .slice x.va x.vn x.vc] 24)) w.heap.size 24 #[.string x.ty, .string x.key, .int .i64 x.t, .int .i64 x.q, .slice x.va x.vn x.vc]) := Lib.hid (Row.made w _ _)
  clear hx hX hm
  go_enter Tryd.func3, Tryd.ntmps3
  go_wp2_with fail
  refine (types_any _).mono ?_
  rintro e w1 ⟨v1, rfl, ht1, hb1⟩
  have HT1 := Lib.hid ht1
  clear ht1
  go_wp2_with fail
  refine (new_any _ typesL _ _ HT1.out (Nat.le_refl _)).mono ?_
  rintro e w2 ⟨p, c, rfl, hr, hsc, _, hb2⟩
  obtain rfl := typesL_ok hr
  have HS := Lib.hid (hsc rfl)
  have hB0 := hb1.trans (hb2.mono hb1.size)
  have HB2 := Lib.hid (HX.out.trans (hB0.mono HX.out.size))
  have HI2 := Lib.hid ((HI.out.below hB0).mono hB0.size)
  have HR2 := Lib.hid (HR0.out.below hB0 HR0.out.lt)
  obtain ⟨_, e0, e1, e2, e3, e4⟩ := Row.five HR2.out
  clear hb1 hb2 hr hsc hB0 HI HR0 HT1
  go_wp2_with fail
  refine (made_end x _ HI2.out).mono ?_
  rintro e w3 ⟨vb, ty, key, t, vs, n, rfl, hn, hrv, hge, hb3, hsh⟩
  have HN := Lib.hid hn
  have HSH := Lib.hid hsh
  have hfx : Fx w (w3.alloc (.cells #[.string ty, .string key, .int .i64 t, .int .i64 0, .slice (some ⟨vb, 0, none⟩) n n] 24)) w3.heap.size vb ty key t n vs p := by
    have hz : Below w3.heap.size w3 (w3.alloc (.cells #[.string ty, .string key, .int .i64 t, .int .i64 0, .slice (some ⟨vb, 0, none⟩) n n] 24)) := (Below.refl _ w3).alloc (Nat.le_refl _) _
    have hbz := HB2.out.trans (hb3.mono HB2.out.size)
    exact ⟨hbz.trans (hz.mono hbz.size), (HS.out.below hb3 hb3.size).below hz hz.size, Row.made _ _ _, hrv.alloc _, (vl_row hrv (by simp) hn.symm (by have := hsh.vb; rw [hn]; rcases this with ⟨_, _, _, _, _, rfl⟩ | ⟨_, _, _, _, _, _, rfl⟩ <;> simp [vsAB, vsC])).below hz hz.size⟩
  have HF := Lib.hid hfx
  obtain ⟨_, x0, x1, x2, x3, x4⟩ := Row.five hfx.rx
  have HGE := Lib.hid hge
  have HV3 := Lib.hid hrv.lt
  have H23 := Lib.hid hb3
  have HBW := Lib.hid HB2.out
  clear hn hrv hge hb3 hfx HB2 HI2 HR2 HX e0 e1 e2 e3 e4
  have a15 := and15 kind
  obtain ⟨k, hk⟩ : ∃ k : Nat, kind % 16 % 8 = (k : Int) := ⟨(kind % 16 % 8).toNat, by omega⟩
  have hk8 : k < 8 := by omega
  have hkt : (kind % 16).tmod 8 = (k : Int) := by rw [Int.tmod_eq_emod_of_nonneg (by omega)]; exact hk
  clear hk
  go_upto_block 0 with fail
  generalize hWx : w3.alloc (.cells #[.string ty, .string key, .int .i64 t, .int .i64 0, .slice (some ⟨vb, 0, none⟩) n n] 24) = Wx at HF x0 x1 x2 x3 x4 ⊢
  have hb2 : Below w2.heap.size w2 Wx := by rw [← hWx]; exact H23.out.alloc H23.out.size _
  have HB2 := Lib.hid hb2
  have HRX := Lib.hid HF.out.rx
  have HRV := Lib.hid HF.out.rv
  have h27 := H23.out.size
  have hv7 : vb ≠ w3.heap.size := by have := HV3.out; omega
  have HVR := Lib.hid (fun (X : World) (h : Row X vb 33 (vcells vs).toArray) => vl_row h (by simp) HN.out.symm (by have := HSH.out.vb; rw [HN.out]; rcases this with ⟨_, _, _, _, _, rfl⟩ | ⟨_, _, _, _, _, _, rfl⟩ <;> simp [vsAB, vsC]))
  have HTY := Lib.hid (shape_typed HSH.out)
  have htb := HSH.out.tb
  have hkb : keyB key = true := by have := HSH.out.kb; unfold keyB; rw [decide_eq_true this.1, decide_eq_true this.2]; rfl
  have HKB := Lib.hid hkb
  have HTB := Lib.hid (show TimeB t = true from by unfold TimeB; exact decide_eq_true ⟨htb.1, by omega⟩)
  have hTQ : (-9223372036854775808 ≤ t ∧ t ≤ 9223372036854775807) ∧ (-9223372036854775808 ≤ (0 : Int) ∧ (0 : Int) ≤ 9223372036854775807) := by omega
  obtain ⟨fz0, fz1, fz2, fz3, fz4⟩ : Wx.frozen? ⟨w3.heap.size, 0, none⟩ = false ∧ Wx.frozen? ⟨w3.heap.size, 1, none⟩ = false ∧ Wx.frozen? ⟨w3.heap.size, 2, none⟩ = false ∧ Wx.frozen? ⟨w3.heap.size, 3, none⟩ = false ∧ Wx.frozen? ⟨w3.heap.size, 4, none⟩ = false := ⟨HRX.out.free 0, HRX.out.free 1, HRX.out.free 2, HRX.out.free 3, HRX.out.free 4⟩
  have HGE2 := HGE.out
  clear hb2 hkb hWx
  go_cut [10] (fun s10 wx => ∃ want : Int, s10 = .int .i64 want ∧ Hid (Ev2 w wx w3.heap.size p want))
  case first =>
    have hkc : k = 0 ∨ k = 1 ∨ k = 2 ∨ k = 3 ∨ k = 4 ∨ k = 5 ∨ k = 6 ∨ k = 7 := by omega
    clear hk8
    rcases hkc with rfl | rfl | rfl | rfl | rfl | rfl | rfl | rfl
    · go_wp2
      go_meet
      exact ⟨10, rfl, Lib.hid (ev2_mk HS.out HBW.out (HB2.out.setCell (p := ⟨w3.heap.size, 0, none⟩) h27 _) (five0 HRX.out _) (HVR.out _ (HRV.out.past (p := ⟨w3.heap.size, 0, none⟩) hv7 _)) false ⟨fun h => (by cases h), fun h => absurd h (typedP_no idx_D)⟩ rfl hTQ.1 hTQ.2)⟩
    · rcases HSH.out.vb with ⟨nn, u, hty, hnn, hu, rfl⟩ | ⟨nn, u, bb, rfl, hnn, hu, rfl⟩
      · obtain rfl : n = 2 := HN.out
        clear hty hnn hu
        go_wp2
        go_meet
        exact ⟨10, rfl, Lib.hid (ev2_mk HS.out HBW.out (HB2.out.setCell (p := ⟨w3.heap.size, 4, none⟩) h27 _) (five4 HRX.out _) (vl_drop (n := 2) (m := 1) (HRV.out.past (p := ⟨w3.heap.size, 4, none⟩) hv7 _) rfl rfl (by decide)) false ⟨fun h => (by cases h), fun h => absurd h (shape_drop HSH.out)⟩ rfl hTQ.1 hTQ.2)⟩
      · obtain rfl : n = 3 := HN.out
        clear hnn hu
        go_wp2
        go_meet
        exact ⟨10, rfl, Lib.hid (ev2_mk HS.out HBW.out (HB2.out.setCell (p := ⟨w3.heap.size, 4, none⟩) h27 _) (five4 HRX.out _) (vl_drop (n := 3) (m := 2) (HRV.out.past (p := ⟨w3.heap.size, 4, none⟩) hv7 _) rfl rfl (by decide)) false ⟨fun h => (by cases h), fun h => absurd h (shape_drop HSH.out)⟩ rfl hTQ.1 hTQ.2)⟩
    · rcases HSH.out.vb with ⟨nn, u, hty, hnn, hu, rfl⟩ | ⟨nn, u, bb, rfl, hnn, hu, rfl⟩
      · obtain rfl : n = 2 := HN.out
        clear hty hnn hu
        have v0 : Wx.cell? ⟨vb, 0, none⟩ = some (.int .i64 1) := (HRV.out.cell 0).trans rfl
        have g0 : Wx.frozen? ⟨vb, 0, none⟩ = false := HRV.out.free 0
        have v1 : Wx.cell? ⟨vb, 1, none⟩ = some (.int .i64 nn) := (HRV.out.cell 1).trans rfl
        have g1 : Wx.frozen? ⟨vb, 1, none⟩ = false := HRV.out.free 1
        have v2 : Wx.cell? ⟨vb, 2, none⟩ = some (.string ⟨#[]⟩) := (HRV.out.cell 2).trans rfl
        have g2 : Wx.frozen? ⟨vb, 2, none⟩ = false := HRV.out.free 2
        have v3 : Wx.cell? ⟨vb, 3, none⟩ = some (.bool false) := (HRV.out.cell 3).trans rfl
        have g3 : Wx.frozen? ⟨vb, 3, none⟩ = false := HRV.out.free 3
        go_wp2
        go_meet
        exact ⟨10, rfl, Lib.hid (ev2_mk HS.out HBW.out ((((HB2.out.setCell (p := ⟨vb, 0, none⟩) HGE2 _).setCell (p := ⟨vb, 1, none⟩) HGE2 _).setCell (p := ⟨vb, 2, none⟩) HGE2 _).setCell (p := ⟨vb, 3, none⟩) HGE2 _) (past4 HRX.out (fun e => hv7 e.symm) _ _ _ _) (vl_row (L := ⟨3, n0, ⟨#[]⟩, false⟩ :: (vsAB nn u).drop 1) (st4v (r := (vsAB nn u).drop 1) HRV.out 3 n0 ⟨#[]⟩ false) (by simp) rfl (by decide)) false ⟨fun h => (by cases h), fun h => absurd h (shape_kind HSH.out)⟩ rfl hTQ.1 hTQ.2)⟩
      · obtain rfl : n = 3 := HN.out
        clear hnn hu
        have v0 : Wx.cell? ⟨vb, 0, none⟩ = some (.int .i64 2) := (HRV.out.cell 0).trans rfl
        have g0 : Wx.frozen? ⟨vb, 0, none⟩ = false := HRV.out.free 0
        have v1 : Wx.cell? ⟨vb, 1, none⟩ = some (.int .i64 0) := (HRV.out.cell 1).trans rfl
        have g1 : Wx.frozen? ⟨vb, 1, none⟩ = false := HRV.out.free 1
        have v2 : Wx.cell? ⟨vb, 2, none⟩ = some (.string u) := (HRV.out.cell 2).trans rfl
        have g2 : Wx.frozen? ⟨vb, 2, none⟩ = false := HRV.out.free 2
        have v3 : Wx.cell? ⟨vb, 3, none⟩ = some (.bool false) := (HRV.out.cell 3).trans rfl
        have g3 : Wx.frozen? ⟨vb, 3, none⟩ = false := HRV.out.free 3
        go_wp2
        go_meet
        exact ⟨10, rfl, Lib.hid (ev2_mk HS.out HBW.out ((((HB2.out.setCell (p := ⟨vb, 0, none⟩) HGE2 _).setCell (p := ⟨vb, 1, none⟩) HGE2 _).setCell (p := ⟨vb, 2, none⟩) HGE2 _).setCell (p := ⟨vb, 3, none⟩) HGE2 _) (past4 HRX.out (fun e => hv7 e.symm) _ _ _ _) (vl_row (L := ⟨3, n0, ⟨#[]⟩, false⟩ :: (vsC nn u bb).drop 1) (st4v (r := (vsC nn u bb).drop 1) HRV.out 3 n0 ⟨#[]⟩ false) (by simp) rfl (by decide)) false ⟨fun h => (by cases h), fun h => absurd h (shape_kind HSH.out)⟩ rfl hTQ.1 hTQ.2)⟩
    · go_wp2
      go_meet
      exact ⟨11, rfl, Lib.hid (ev2_mk HS.out HBW.out (HB2.out.setCell (p := ⟨w3.heap.size, 1, none⟩) h27 _) (five1 HRX.out _) (HVR.out _ (HRV.out.past (p := ⟨w3.heap.size, 1, none⟩) hv7 _)) true ⟨fun _ => HTY.out, fun _ => rfl⟩ rfl hTQ.1 hTQ.2)⟩
    · have a3 := and3 n0
      obtain ⟨M, hM⟩ : ∃ M : Nat, 30 + n0 % 4 = (M : Int) := ⟨(30 + n0 % 4).toNat, by omega⟩
      have hM1 : 30 ≤ M ∧ M ≤ 33 := by omega
      have hwr : IntKind.i64.wrap (30 + n0 % 4) = (M : Int) := by rw [IntKind.wrap_i64]; omega
      have hmk := fun wx => run_make_cell (P := Tryd.prog) 34 5 (.int .u8 0) (.int .u8 0) 1 Tryd.underlying34 u8_info rfl .i64 .i64 M (by omega) (by omega) wx
      have hcv := conv_zero Wx M
      have hKS := zero_size M
      have HX1 := Lib.hid (HB2.out.alloc HB2.out.size (.cells (madeCells #[.int .u8 0] M) 5))
      have HR1 := Lib.hid (HRX.out.alloc (.cells (madeCells #[.int .u8 0] M) 5))
      have HV1 := Lib.hid (HRV.out.alloc (.cells (madeCells #[.int .u8 0] M) 5))
      generalize hK : (⟨(List.replicate M (0 : UInt8)).toArray⟩ : ByteArray) = K at hcv hKS
      obtain ⟨z1, z2⟩ : (Wx.alloc (.cells (madeCells #[.int .u8 0] M) 5)).frozen? ⟨w3.heap.size, 1, none⟩ = false ∧ (Wx.alloc (.cells (madeCells #[.int .u8 0] M) 5)).cell? ⟨w3.heap.size, 1, none⟩ = some (.string key) := ⟨HR1.out.free 1, (HR1.out.cell 1).trans rfl⟩
      clear hK
      by_cases h3 : n0 % 4 = 3
      · have h3d : (n0 % 4 == 3) = true := by simp [h3]
        have HKK := Lib.hid (show keyB K = false from by unfold keyB; rw [hKS]; rw [decide_eq_true (show 1 ≤ M by omega), decide_eq_false (show ¬ M ≤ 32 by omega)]; rfl)
        clear h3 hM hKS
        go_wp2
        go_meet
        exact ⟨11, rfl, Lib.hid (ev2_mk HS.out HBW.out (HX1.out.setCell (p := ⟨w3.heap.size, 1, none⟩) h27 _) (five1 HR1.out _) (HVR.out _ (HV1.out.past (p := ⟨w3.heap.size, 1, none⟩) hv7 _)) true ⟨fun _ => HTY.out, fun _ => rfl⟩ (ck_11 _ _ HKK.out).symm hTQ.1 hTQ.2)⟩
      · have h3d : (n0 % 4 == 3) = false := by simp [h3]
        have HKK := Lib.hid (show keyB K = true from by unfold keyB; rw [hKS]; rw [decide_eq_true (show 1 ≤ M by omega), decide_eq_true (show M ≤ 32 by omega)]; rfl)
        clear h3 hM hKS
        go_wp2
        go_meet
        exact ⟨0, rfl, Lib.hid (ev2_mk HS.out HBW.out (HX1.out.setCell (p := ⟨w3.heap.size, 1, none⟩) h27 _) (five1 HR1.out _) (HVR.out _ (HV1.out.past (p := ⟨w3.heap.size, 1, none⟩) hv7 _)) true ⟨fun _ => HTY.out, fun _ => rfl⟩ (ck_0 HKK.out HTB.out (by decide)).symm hTQ.1 hTQ.2)⟩
    · have a255 := and255 n0
      have hwr : IntKind.i64.wrap (-1 - n0 % 256) = -1 - n0 % 256 := by rw [IntKind.wrap_i64]; omega
      have HTF := Lib.hid (show TimeB (-1 - n0 % 256) = false from by unfold TimeB; exact decide_eq_false (by omega))
      go_wp2
      go_meet
      exact ⟨12, rfl, Lib.hid (ev2_mk HS.out HBW.out (HB2.out.setCell (p := ⟨w3.heap.size, 2, none⟩) h27 _) (five2 HRX.out _) (HVR.out _ (HRV.out.past (p := ⟨w3.heap.size, 2, none⟩) hv7 _)) true ⟨fun _ => HTY.out, fun _ => rfl⟩ (ck_12a _ HKB.out HTF.out).symm (by omega) hTQ.2)⟩
    · have a1 := and1 n0
      have hwr : IntKind.i64.wrap (1099511627776 + n0 % 2) = 1099511627776 + n0 % 2 := by rw [IntKind.wrap_i64]; omega
      by_cases h1 : n0 % 2 = 1
      · have h1d : (n0 % 2 == 1) = true := by simp [h1]
        have HTF := Lib.hid (show TimeB (1099511627776 + n0 % 2) = false from by unfold TimeB; exact decide_eq_false (by omega))
        clear h1
        go_wp2
        go_meet
        exact ⟨12, rfl, Lib.hid (ev2_mk HS.out HBW.out (HB2.out.setCell (p := ⟨w3.heap.size, 2, none⟩) h27 _) (five2 HRX.out _) (HVR.out _ (HRV.out.past (p := ⟨w3.heap.size, 2, none⟩) hv7 _)) true ⟨fun _ => HTY.out, fun _ => rfl⟩ (ck_12a _ HKB.out HTF.out).symm (by omega) hTQ.2)⟩
      · have h1d : (n0 % 2 == 1) = false := by simp [h1]
        have HTF := Lib.hid (show TimeB (1099511627776 + n0 % 2) = true from by unfold TimeB; exact decide_eq_true (by omega))
        clear h1
        go_wp2
        go_meet
        exact ⟨0, rfl, Lib.hid (ev2_mk HS.out HBW.out (HB2.out.setCell (p := ⟨w3.heap.size, 2, none⟩) h27 _) (five2 HRX.out _) (HVR.out _ (HRV.out.past (p := ⟨w3.heap.size, 2, none⟩) hv7 _)) true ⟨fun _ => HTY.out, fun _ => rfl⟩ (ck_0 HKB.out HTF.out (by decide)).symm (by omega) hTQ.2)⟩
    · by_cases hn : n0 < 0
      · have hnd : decide (n0 < 0) = true := decide_eq_true hn
        have HNN := Lib.hid hn
        clear hn
        go_wp2
        go_meet
        exact ⟨12, rfl, Lib.hid (ev2_mk HS.out HBW.out (HB2.out.setCell (p := ⟨w3.heap.size, 3, none⟩) h27 _) (five3 HRX.out _) (HVR.out _ (HRV.out.past (p := ⟨w3.heap.size, 3, none⟩) hv7 _)) true ⟨fun _ => HTY.out, fun _ => rfl⟩ (ck_12b HKB.out HTB.out HNN.out).symm hTQ.1 hn0)⟩
      · have hnd : decide (n0 < 0) = false := decide_eq_false hn
        have HNN := Lib.hid (show ¬ n0 < 0 from hn)
        clear hn
        go_wp2
        go_meet
        exact ⟨0, rfl, Lib.hid (ev2_mk HS.out HBW.out (HB2.out.setCell (p := ⟨w3.heap.size, 3, none⟩) h27 _) (five3 HRX.out _) (HVR.out _ (HRV.out.past (p := ⟨w3.heap.size, 3, none⟩) hv7 _)) true ⟨fun _ => HTY.out, fun _ => rfl⟩ (ck_0 HKB.out HTB.out (by have := HNN.out; omega)).symm hTQ.1 hn0)⟩
  case rest =>
    obtain ⟨want, rfl, hev⟩ := hcut
    obtain ⟨ty', key', t', q', A, n', c, vs', r, hB, hS, hR, hV, hr, hw, ht, hq⟩ := hev.out
    have hwt : IntKind.i64.wrap t' = t' := by rw [IntKind.wrap_i64]; omega
    have hwq : IntKind.i64.wrap q' = q' := by rw [IntKind.wrap_i64]; omega
    have hwt0 : IntKind.i64.wrap (t' + 0) = t' := by rw [Int.add_zero]; exact hwt
    have hwq0 : IntKind.i64.wrap (q' + 0) = q' := by rw [Int.add_zero]; exact hwq
    obtain ⟨_, r0, r1, r2, r3, r4⟩ := Row.five hR
    have gz2 := hR.free 2
    have gz3 := hR.free 3
    have hlt := hR.lt
    have hbV : Below wc.heap.size wc ((wc.setCell ⟨w3.heap.size, 2, none⟩ (.int .i64 t')).setCell ⟨w3.heap.size, 3, none⟩ (.int .i64 q')) → True := fun _ => trivial
    have HID2 : Hid ((wc.setCell ⟨w3.heap.size, 2, none⟩ (.int .i64 t')).setCell ⟨w3.heap.size, 3, none⟩ (.int .i64 q') = wc) := by
      show _ = _
      rw [setCell_id hR rfl, setCell_id hR rfl]
    have HRR := Lib.hid hR
    have HRn := Lib.hid hR
    have HVn := Lib.hid hV
    have HSn := Lib.hid hS
    have HBn := Lib.hid hB
    have HQ := Lib.hid hr
    have HW := Lib.hid hw
    clear hR hV hS hB hr hev hbV hw x0 x1 x2 x3 x4 fz0 fz1 fz2 fz3 fz4 hv7 h27 HGE2 htb hTQ a15 hk8 hkt
    go_upto_region 28 with fail
    rw [HID2.out]
    have HB : Hid (Below wc.heap.size wc wc.drew) := (Below.refl _ wc).drew
    have HAW := Lib.hid (fun (X : World) (h : Below wc.heap.size wc X) => awake04 X ((HM.out.below HBn.out).below h))
    have HCK := Lib.hid (fun (X : World) (h : Below wc.heap.size wc X) => check_any p typesL ty' key' t' q' A n' c vs' X (HSn.out.below h h.size) (HVn.out.below h h.size) typesL_short r HQ.out)
    rw [← HW.out] at HCK
    have HSV := Lib.hid (show ∀ X, Below wc.heap.size wc X → _ from fun X h => cells5 (row_call HRn.out h))
    have HBE := Lib.hid HBn.out
    have HKY := Lib.hid (key_any key')
    clear r0 r1 r2 r3 r4 gz2 gz3 hlt hwt hwq hwt0 hwq0 HBn HRn HVn HSn HID2 HRR hq ht HQ HW HM
    by_cases hks : 1 ≤ key'.size
    · obtain ⟨kb, hkb⟩ : ∃ b, decide ((key'.size : Int) ≤ 32) = b := ⟨_, rfl⟩
      have hk1 : decide ((1 : Int) ≤ (key'.size : Int)) = true := decide_eq_true (by omega)
      have hk2 : (1 : Int) ≤ (key'.size : Int) := by omega
      have hky : keyB key' = kb := by rw [← hkb]; unfold keyB; rw [decide_eq_true hks, Bool.true_and]; exact decide_eq_decide.2 (by omega)
      rw [hky] at HKY
      clear hks hky
      refine wp_region_noPanic ?_
      refine wp_region_held_drew (S := (fun X => X.cell? ⟨w3.heap.size, 0, none⟩ = some (.string ty') ∧ X.cell? ⟨w3.heap.size, 1, none⟩ = some (.string key') ∧ X.cell? ⟨w3.heap.size, 2, none⟩ = some (.int .i64 t') ∧ X.cell? ⟨w3.heap.size, 3, none⟩ = some (.int .i64 q') ∧ X.cell? ⟨w3.heap.size, 4, none⟩ = some (.slice A n' c))) (by kernel_rfl) ?_ (fun hHeld => ?_)
      · exact HSV.out _ HB.out
      refine wpAnyH_ready (rs := [0]) (by kernel_rfl) (by simp) ?_
      refine AllReadyH.cons rfl (fun K hK => ?_) AllReadyH.nil
      go_simp
      go_at_call 10
      (with_reducible refine (HAW.out _ HB.out).mono ?_)
      rintro e w13 ⟨rfl, hb⟩
      have h3 := HB.out.trans (hb.mono HB.out.size)
      have HB := Lib.hid h3
      clear hb h3
      try go_wp2_with fail
      refine hK.out _ _ ?_ (fun hHeld => ?_)
      · exact HSV.out _ HB.out
      clear hK K
      try simp only [Act.put, List.setIfInBounds_toArray, List.set_cons_zero, List.set_cons_succ]
      refine take_at 1 80 _ (v := ?va1) rfl rfl (by kernel_rfl) (by kernel_rfl) (by kernel_rfl) (fun _ _ _ h => h) (Or.inl ⟨by rfl, ?hya1⟩) (by assumption) ?resta1
      case hya1 =>
        intro wX hSw
        try dsimp only at hSw
        go_simp
        first
        | done
        | (with_reducible rfl)
      try simp only [Act.put, List.setIfInBounds_toArray, List.set_cons_zero, List.set_cons_succ]
      refine take_at 2 81 _ (v := ?va2) rfl rfl (by kernel_rfl) (by kernel_rfl) (by kernel_rfl) (fun _ _ _ h => h) (Or.inl ⟨by rfl, ?hya2⟩) (by assumption) ?resta2
      case hya2 =>
        intro wX hSw
        try dsimp only at hSw
        go_simp
        first
        | done
        | (with_reducible rfl)
      try simp only [Act.put, List.setIfInBounds_toArray, List.set_cons_zero, List.set_cons_succ]
      refine take_at 3 82 _ (v := ?va3) rfl rfl (by kernel_rfl) (by kernel_rfl) (by kernel_rfl) (fun _ _ _ h => h) (Or.inl ⟨by rfl, ?hya3⟩) (by assumption) ?resta3
      case hya3 =>
        intro wX hSw
        try dsimp only at hSw
        go_simp
        first
        | done
        | (with_reducible rfl)
      try simp only [Act.put, List.setIfInBounds_toArray, List.set_cons_zero, List.set_cons_succ]
      refine take_at 5 84 _ (v := ?va5) rfl rfl (by kernel_rfl) (by kernel_rfl) (by kernel_rfl) (fun _ _ _ h => h) (Or.inl ⟨by rfl, ?hya5⟩) (by assumption) ?resta5
      case hya5 =>
        intro wX hSw
        try dsimp only at hSw
        go_simp
        first
        | done
        | (with_reducible rfl)
      try simp only [Act.put, List.setIfInBounds_toArray, List.set_cons_zero, List.set_cons_succ]
      refine wpAnyH_ready (rs := [4]) (by kernel_rfl) (by simp) ?_
      refine AllReadyH.cons rfl (fun K hK => ?_) AllReadyH.nil
      go_simp
      go_at_call 11
      (with_reducible refine (HCK.out _ HB.out).mono ?_)
      rintro e w13 ⟨rfl, hb⟩
      have h3 := HB.out.trans (hb.mono HB.out.size)
      have HB := Lib.hid h3
      clear hb h3
      try go_wp2_with fail
      refine hK.out _ _ ?_ (fun hHeld => ?_)
      · exact HSV.out _ HB.out
      clear hK K
      try simp only [Act.put, List.setIfInBounds_toArray, List.set_cons_zero, List.set_cons_succ]
      refine take_at 6 85 _ (v := ?va6) rfl rfl (by kernel_rfl) (by kernel_rfl) (by kernel_rfl) (fun _ _ _ h => h) (Or.inl ⟨by rfl, ?hya6⟩) (by assumption) ?resta6
      case hya6 =>
        intro wX hSw
        try dsimp only at hSw
        go_simp
        first
        | done
        | (with_reducible rfl)
      try simp only [Act.put, List.setIfInBounds_toArray, List.set_cons_zero, List.set_cons_succ]
      refine take_at 7 86 _ (v := ?va7) rfl rfl (by kernel_rfl) (by kernel_rfl) (by kernel_rfl) (fun _ _ _ h => h) (Or.inl ⟨by rfl, ?hya7⟩) (by assumption) ?resta7
      case hya7 =>
        intro wX hSw
        try dsimp only at hSw
        go_simp
        first
        | done
        | (with_reducible rfl)
      try simp only [Act.put, List.setIfInBounds_toArray, List.set_cons_zero, List.set_cons_succ]
      refine take_at 8 87 _ (v := ?va8) rfl rfl (by kernel_rfl) (by kernel_rfl) (by kernel_rfl) (fun _ _ _ h => h) (Or.inl ⟨by rfl, ?hya8⟩) (by assumption) ?resta8
      case hya8 =>
        intro wX hSw
        try dsimp only at hSw
        go_simp
        first
        | done
        | (with_reducible rfl)
      try simp only [Act.put, List.setIfInBounds_toArray, List.set_cons_zero, List.set_cons_succ]
      refine take_at 9 88 _ (v := ?va9) rfl rfl (by kernel_rfl) (by kernel_rfl) (by kernel_rfl) (fun _ _ _ h => h) (Or.inl ⟨by rfl, ?hya9⟩) (by assumption) ?resta9
      case hya9 =>
        intro wX hSw
        try dsimp only at hSw
        go_simp
        first
        | done
        | (with_reducible rfl)
      try simp only [Act.put, List.setIfInBounds_toArray, List.set_cons_zero, List.set_cons_succ]
      refine take_at 10 89 _ (v := ?va10) rfl rfl (by kernel_rfl) (by kernel_rfl) (by kernel_rfl) (fun _ _ _ h => h) (Or.inl ⟨by rfl, ?hya10⟩) (by assumption) ?resta10
      case hya10 =>
        intro wX hSw
        try dsimp only at hSw
        go_simp
        first
        | done
        | (with_reducible rfl)
      try simp only [Act.put, List.setIfInBounds_toArray, List.set_cons_zero, List.set_cons_succ]
      refine wpAnyH_ready (rs := [11]) (by kernel_rfl) (by simp) ?_
      refine AllReadyH.cons rfl (fun K hK => ?_) AllReadyH.nil
      go_simp
      go_at_call 11
      (with_reducible refine (check_nil _ _ _ _ _ _ _ _).mono ?_)
      rintro e w13 ⟨rfl, hb⟩
      have h3 := HB.out.trans (hb.mono HB.out.size)
      have HB := Lib.hid h3
      clear hb h3
      try go_wp2_with fail
      refine hK.out _ _ ?_ (fun hHeld => ?_)
      · exact HSV.out _ HB.out
      clear hK K
      try simp only [Act.put, List.setIfInBounds_toArray, List.set_cons_zero, List.set_cons_succ]
      refine take_at 12 91 _ (v := ?va12) rfl rfl (by kernel_rfl) (by kernel_rfl) (by kernel_rfl) (fun _ _ _ h => h) (Or.inl ⟨by rfl, ?hya12⟩) (by assumption) ?resta12
      case hya12 =>
        intro wX hSw
        try dsimp only at hSw
        go_simp
        first
        | done
        | (with_reducible rfl)
      try simp only [Act.put, List.setIfInBounds_toArray, List.set_cons_zero, List.set_cons_succ]
      refine take_at 13 92 _ (v := ?va13) rfl rfl (by kernel_rfl) (by kernel_rfl) (by kernel_rfl) (fun _ _ _ h => h) (Or.inl ⟨by rfl, ?hya13⟩) (by assumption) ?resta13
      case hya13 =>
        intro wX hSw
        try dsimp only at hSw
        go_simp
        first
        | done
        | (with_reducible rfl)
      try simp only [Act.put, List.setIfInBounds_toArray, List.set_cons_zero, List.set_cons_succ]
      refine take_at 14 93 _ (v := ?va14) rfl rfl (by kernel_rfl) (by kernel_rfl) (by kernel_rfl) (fun _ _ _ h => h) (Or.inl ⟨by rfl, ?hya14⟩) (by assumption) ?resta14
      case hya14 =>
        intro wX hSw
        try dsimp only at hSw
        go_simp
        first
        | done
        | (with_reducible rfl)
      try simp only [Act.put, List.setIfInBounds_toArray, List.set_cons_zero, List.set_cons_succ]
      refine take_at 15 94 _ (v := ?va15) rfl rfl (by kernel_rfl) (by kernel_rfl) (by kernel_rfl) (fun _ _ _ h => h) (Or.inl ⟨by rfl, ?hya15⟩) (by assumption) ?resta15
      case hya15 =>
        intro wX hSw
        try dsimp only at hSw
        go_simp
        first
        | done
        | (with_reducible rfl)
      try simp only [Act.put, List.setIfInBounds_toArray, List.set_cons_zero, List.set_cons_succ]
      refine take_at 16 95 _ (v := ?va16) rfl rfl (by kernel_rfl) (by kernel_rfl) (by kernel_rfl) (fun _ _ _ h => h) (Or.inl ⟨by rfl, ?hya16⟩) (by assumption) ?resta16
      case hya16 =>
        intro wX hSw
        try dsimp only at hSw
        go_simp
        first
        | done
        | (with_reducible rfl)
      try simp only [Act.put, List.setIfInBounds_toArray, List.set_cons_zero, List.set_cons_succ]
      refine take_at 18 97 _ (v := ?va18) rfl rfl (by kernel_rfl) (by kernel_rfl) (by kernel_rfl) (fun _ _ _ h => h) (Or.inl ⟨by rfl, ?hya18⟩) (by assumption) ?resta18
      case hya18 =>
        intro wX hSw
        try dsimp only at hSw
        go_simp
        first
        | done
        | (with_reducible rfl)
      try simp only [Act.put, List.setIfInBounds_toArray, List.set_cons_zero, List.set_cons_succ]
      refine take_at 19 98 _ (v := ?va19) rfl rfl (by kernel_rfl) (by kernel_rfl) (by kernel_rfl) (fun _ _ _ h => h) (Or.inl ⟨by rfl, ?hya19⟩) (by assumption) ?resta19
      case hya19 =>
        intro wX hSw
        try dsimp only at hSw
        go_simp
        first
        | done
        | (with_reducible rfl)
      try simp only [Act.put, List.setIfInBounds_toArray, List.set_cons_zero, List.set_cons_succ]
      refine take_at 20 99 _ (v := ?va20) rfl rfl (by kernel_rfl) (by kernel_rfl) (by kernel_rfl) (fun _ _ _ h => h) (Or.inl ⟨by rfl, ?hya20⟩) (by assumption) ?resta20
      case hya20 =>
        intro wX hSw
        try dsimp only at hSw
        go_simp
        first
        | done
        | (with_reducible rfl)
      try simp only [Act.put, List.setIfInBounds_toArray, List.set_cons_zero, List.set_cons_succ]
      refine take_at 21 100 _ (v := ?va21) rfl rfl (by kernel_rfl) (by kernel_rfl) (by kernel_rfl) (fun _ _ _ h => h) (Or.inl ⟨by rfl, ?hya21⟩) (by assumption) ?resta21
      case hya21 =>
        intro wX hSw
        try dsimp only at hSw
        go_simp
        first
        | done
        | (with_reducible rfl)
      try simp only [Act.put, List.setIfInBounds_toArray, List.set_cons_zero, List.set_cons_succ]
      refine wpAnyH_ready (rs := [17]) (by kernel_rfl) (by simp) ?_
      refine AllReadyH.cons rfl (fun K hK => ?_) AllReadyH.nil
      go_simp
      go_at_call 12
      (with_reducible refine (HKY.out _).mono ?_)
      rintro e w13 ⟨rfl, hb⟩
      have h3 := HB.out.trans (hb.mono HB.out.size)
      have HB := Lib.hid h3
      clear hb h3
      try go_wp2_with fail
      refine hK.out _ _ ?_ (fun hHeld => ?_)
      · exact HSV.out _ HB.out
      clear hK K
      try simp only [Act.put, List.setIfInBounds_toArray, List.set_cons_zero, List.set_cons_succ]
      refine take_at 22 101 _ (v := ?va22) rfl rfl (by kernel_rfl) (by kernel_rfl) (by kernel_rfl) (fun _ _ _ h => h) (Or.inl ⟨by rfl, ?hya22⟩) (by assumption) ?resta22
      case hya22 =>
        intro wX hSw
        try dsimp only at hSw
        go_simp
        first
        | done
        | (with_reducible rfl)
      try simp only [Act.put, List.setIfInBounds_toArray, List.set_cons_zero, List.set_cons_succ]
      refine take_at 23 102 _ (v := ?va23) rfl rfl (by kernel_rfl) (by kernel_rfl) (by kernel_rfl) (fun _ _ _ h => h) (Or.inl ⟨by rfl, ?hya23⟩) (by assumption) ?resta23
      case hya23 =>
        intro wX hSw
        try dsimp only at hSw
        go_simp
        first
        | done
        | (with_reducible rfl)
      try simp only [Act.put, List.setIfInBounds_toArray, List.set_cons_zero, List.set_cons_succ]
      refine take_at 24 103 _ (v := ?va24) rfl rfl (by kernel_rfl) (by kernel_rfl) (by kernel_rfl) (fun _ _ _ h => h) (Or.inl ⟨by rfl, ?hya24⟩) (by assumption) ?resta24
      case hya24 =>
        intro wX hSw
        try dsimp only at hSw
        go_simp
        first
        | done
        | (with_reducible rfl)
      try simp only [Act.put, List.setIfInBounds_toArray, List.set_cons_zero, List.set_cons_succ]
      refine take_at 25 104 _ (v := ?va25) rfl rfl (by kernel_rfl) (by kernel_rfl) (by kernel_rfl) (fun _ _ _ h => h) (Or.inl ⟨by rfl, ?hya25⟩) (by assumption) ?resta25
      case hya25 =>
        intro wX hSw
        try dsimp only at hSw
        go_simp
        first
        | done
        | (with_reducible rfl)
      try simp only [Act.put, List.setIfInBounds_toArray, List.set_cons_zero, List.set_cons_succ]
      refine take_at 26 105 _ (v := ?va26) rfl rfl (by kernel_rfl) (by kernel_rfl) (by kernel_rfl) (fun _ _ _ h => h) (Or.inl ⟨by rfl, ?hya26⟩) (by assumption) ?resta26
      case hya26 =>
        intro wX hSw
        try dsimp only at hSw
        go_simp
        first
        | done
        | (with_reducible rfl)
      try simp only [Act.put, List.setIfInBounds_toArray, List.set_cons_zero, List.set_cons_succ]
      refine take_at 27 106 _ (v := ?va27) rfl rfl (by kernel_rfl) (by kernel_rfl) (by kernel_rfl) (fun _ _ _ h => h) (Or.inl ⟨by rfl, ?hya27⟩) (by assumption) ?resta27
      case hya27 =>
        intro wX hSw
        try dsimp only at hSw
        go_simp
        first
        | done
        | (with_reducible rfl)
      try simp only [Act.put, List.setIfInBounds_toArray, List.set_cons_zero, List.set_cons_succ]
      refine take_at 28 107 _ (v := ?va28) rfl rfl (by kernel_rfl) (by kernel_rfl) (by kernel_rfl) (fun _ _ _ h => h) (Or.inl ⟨by rfl, ?hya28⟩) (by assumption) ?resta28
      case hya28 =>
        intro wX hSw
        try dsimp only at hSw
        go_simp
        first
        | done
        | (with_reducible rfl)
      try simp only [Act.put, List.setIfInBounds_toArray, List.set_cons_zero, List.set_cons_succ]
      refine take_at 29 108 _ (v := ?va29) rfl rfl (by kernel_rfl) (by kernel_rfl) (by kernel_rfl) (fun _ _ _ h => h) (Or.inl ⟨by rfl, ?hya29⟩) (by assumption) ?resta29
      case hya29 =>
        intro wX hSw
        try dsimp only at hSw
        go_simp
        first
        | done
        | (with_reducible rfl)
      try simp only [Act.put, List.setIfInBounds_toArray, List.set_cons_zero, List.set_cons_succ]
      refine take_at 30 6 _ (v := ?va30) rfl rfl (by kernel_rfl) (by kernel_rfl) (by kernel_rfl) (fun _ _ _ h => h) (Or.inl ⟨by rfl, ?hya30⟩) (by assumption) ?resta30
      case hya30 =>
        intro wX hSw
        try dsimp only at hSw
        go_simp
        first
        | done
        | (with_reducible rfl)
      try simp only [Act.put, List.setIfInBounds_toArray, List.set_cons_zero, List.set_cons_succ]
      refine wpAnyH_done (by kernel_rfl) ?_ _
      refine NoPanic.normal ?_
      go_wp2
      go_ret
      exact ⟨rfl, HBE.out.trans (HB.out.mono HBE.out.size)⟩
    · have hk1 : decide ((1 : Int) ≤ (key'.size : Int)) = false := decide_eq_false (by omega)
      have hk2 : ¬ (1 : Int) ≤ (key'.size : Int) := by omega
      have hky : keyB key' = false := by unfold keyB; rw [decide_eq_false hks]; rfl
      rw [hky] at HKY
      clear hks hky
      refine wp_region_noPanic ?_
      refine wp_region_held_drew (S := (fun X => X.cell? ⟨w3.heap.size, 0, none⟩ = some (.string ty') ∧ X.cell? ⟨w3.heap.size, 1, none⟩ = some (.string key') ∧ X.cell? ⟨w3.heap.size, 2, none⟩ = some (.int .i64 t') ∧ X.cell? ⟨w3.heap.size, 3, none⟩ = some (.int .i64 q') ∧ X.cell? ⟨w3.heap.size, 4, none⟩ = some (.slice A n' c))) (by kernel_rfl) ?_ (fun hHeld => ?_)
      · exact HSV.out _ HB.out
      refine wpAnyH_ready (rs := [0]) (by kernel_rfl) (by simp) ?_
      refine AllReadyH.cons rfl (fun K hK => ?_) AllReadyH.nil
      go_simp
      go_at_call 10
      (with_reducible refine (HAW.out _ HB.out).mono ?_)
      rintro e w13 ⟨rfl, hb⟩
      have h3 := HB.out.trans (hb.mono HB.out.size)
      have HB := Lib.hid h3
      clear hb h3
      try go_wp2_with fail
      refine hK.out _ _ ?_ (fun hHeld => ?_)
      · exact HSV.out _ HB.out
      clear hK K
      try simp only [Act.put, List.setIfInBounds_toArray, List.set_cons_zero, List.set_cons_succ]
      refine take_at 1 80 _ (v := ?vb1) rfl rfl (by kernel_rfl) (by kernel_rfl) (by kernel_rfl) (fun _ _ _ h => h) (Or.inl ⟨by rfl, ?hyb1⟩) (by assumption) ?restb1
      case hyb1 =>
        intro wX hSw
        try dsimp only at hSw
        go_simp
        first
        | done
        | (with_reducible rfl)
      try simp only [Act.put, List.setIfInBounds_toArray, List.set_cons_zero, List.set_cons_succ]
      refine take_at 2 81 _ (v := ?vb2) rfl rfl (by kernel_rfl) (by kernel_rfl) (by kernel_rfl) (fun _ _ _ h => h) (Or.inl ⟨by rfl, ?hyb2⟩) (by assumption) ?restb2
      case hyb2 =>
        intro wX hSw
        try dsimp only at hSw
        go_simp
        first
        | done
        | (with_reducible rfl)
      try simp only [Act.put, List.setIfInBounds_toArray, List.set_cons_zero, List.set_cons_succ]
      refine take_at 3 82 _ (v := ?vb3) rfl rfl (by kernel_rfl) (by kernel_rfl) (by kernel_rfl) (fun _ _ _ h => h) (Or.inl ⟨by rfl, ?hyb3⟩) (by assumption) ?restb3
      case hyb3 =>
        intro wX hSw
        try dsimp only at hSw
        go_simp
        first
        | done
        | (with_reducible rfl)
      try simp only [Act.put, List.setIfInBounds_toArray, List.set_cons_zero, List.set_cons_succ]
      refine take_at 5 84 _ (v := ?vb5) rfl rfl (by kernel_rfl) (by kernel_rfl) (by kernel_rfl) (fun _ _ _ h => h) (Or.inl ⟨by rfl, ?hyb5⟩) (by assumption) ?restb5
      case hyb5 =>
        intro wX hSw
        try dsimp only at hSw
        go_simp
        first
        | done
        | (with_reducible rfl)
      try simp only [Act.put, List.setIfInBounds_toArray, List.set_cons_zero, List.set_cons_succ]
      refine wpAnyH_ready (rs := [4]) (by kernel_rfl) (by simp) ?_
      refine AllReadyH.cons rfl (fun K hK => ?_) AllReadyH.nil
      go_simp
      go_at_call 11
      (with_reducible refine (HCK.out _ HB.out).mono ?_)
      rintro e w13 ⟨rfl, hb⟩
      have h3 := HB.out.trans (hb.mono HB.out.size)
      have HB := Lib.hid h3
      clear hb h3
      try go_wp2_with fail
      refine hK.out _ _ ?_ (fun hHeld => ?_)
      · exact HSV.out _ HB.out
      clear hK K
      try simp only [Act.put, List.setIfInBounds_toArray, List.set_cons_zero, List.set_cons_succ]
      refine take_at 6 85 _ (v := ?vb6) rfl rfl (by kernel_rfl) (by kernel_rfl) (by kernel_rfl) (fun _ _ _ h => h) (Or.inl ⟨by rfl, ?hyb6⟩) (by assumption) ?restb6
      case hyb6 =>
        intro wX hSw
        try dsimp only at hSw
        go_simp
        first
        | done
        | (with_reducible rfl)
      try simp only [Act.put, List.setIfInBounds_toArray, List.set_cons_zero, List.set_cons_succ]
      refine take_at 7 86 _ (v := ?vb7) rfl rfl (by kernel_rfl) (by kernel_rfl) (by kernel_rfl) (fun _ _ _ h => h) (Or.inl ⟨by rfl, ?hyb7⟩) (by assumption) ?restb7
      case hyb7 =>
        intro wX hSw
        try dsimp only at hSw
        go_simp
        first
        | done
        | (with_reducible rfl)
      try simp only [Act.put, List.setIfInBounds_toArray, List.set_cons_zero, List.set_cons_succ]
      refine take_at 8 87 _ (v := ?vb8) rfl rfl (by kernel_rfl) (by kernel_rfl) (by kernel_rfl) (fun _ _ _ h => h) (Or.inl ⟨by rfl, ?hyb8⟩) (by assumption) ?restb8
      case hyb8 =>
        intro wX hSw
        try dsimp only at hSw
        go_simp
        first
        | done
        | (with_reducible rfl)
      try simp only [Act.put, List.setIfInBounds_toArray, List.set_cons_zero, List.set_cons_succ]
      refine take_at 9 88 _ (v := ?vb9) rfl rfl (by kernel_rfl) (by kernel_rfl) (by kernel_rfl) (fun _ _ _ h => h) (Or.inl ⟨by rfl, ?hyb9⟩) (by assumption) ?restb9
      case hyb9 =>
        intro wX hSw
        try dsimp only at hSw
        go_simp
        first
        | done
        | (with_reducible rfl)
      try simp only [Act.put, List.setIfInBounds_toArray, List.set_cons_zero, List.set_cons_succ]
      refine take_at 10 89 _ (v := ?vb10) rfl rfl (by kernel_rfl) (by kernel_rfl) (by kernel_rfl) (fun _ _ _ h => h) (Or.inl ⟨by rfl, ?hyb10⟩) (by assumption) ?restb10
      case hyb10 =>
        intro wX hSw
        try dsimp only at hSw
        go_simp
        first
        | done
        | (with_reducible rfl)
      try simp only [Act.put, List.setIfInBounds_toArray, List.set_cons_zero, List.set_cons_succ]
      refine wpAnyH_ready (rs := [11]) (by kernel_rfl) (by simp) ?_
      refine AllReadyH.cons rfl (fun K hK => ?_) AllReadyH.nil
      go_simp
      go_at_call 11
      (with_reducible refine (check_nil _ _ _ _ _ _ _ _).mono ?_)
      rintro e w13 ⟨rfl, hb⟩
      have h3 := HB.out.trans (hb.mono HB.out.size)
      have HB := Lib.hid h3
      clear hb h3
      try go_wp2_with fail
      refine hK.out _ _ ?_ (fun hHeld => ?_)
      · exact HSV.out _ HB.out
      clear hK K
      try simp only [Act.put, List.setIfInBounds_toArray, List.set_cons_zero, List.set_cons_succ]
      refine take_at 12 91 _ (v := ?vb12) rfl rfl (by kernel_rfl) (by kernel_rfl) (by kernel_rfl) (fun _ _ _ h => h) (Or.inl ⟨by rfl, ?hyb12⟩) (by assumption) ?restb12
      case hyb12 =>
        intro wX hSw
        try dsimp only at hSw
        go_simp
        first
        | done
        | (with_reducible rfl)
      try simp only [Act.put, List.setIfInBounds_toArray, List.set_cons_zero, List.set_cons_succ]
      refine take_at 13 92 _ (v := ?vb13) rfl rfl (by kernel_rfl) (by kernel_rfl) (by kernel_rfl) (fun _ _ _ h => h) (Or.inl ⟨by rfl, ?hyb13⟩) (by assumption) ?restb13
      case hyb13 =>
        intro wX hSw
        try dsimp only at hSw
        go_simp
        first
        | done
        | (with_reducible rfl)
      try simp only [Act.put, List.setIfInBounds_toArray, List.set_cons_zero, List.set_cons_succ]
      refine take_at 14 93 _ (v := ?vb14) rfl rfl (by kernel_rfl) (by kernel_rfl) (by kernel_rfl) (fun _ _ _ h => h) (Or.inl ⟨by rfl, ?hyb14⟩) (by assumption) ?restb14
      case hyb14 =>
        intro wX hSw
        try dsimp only at hSw
        go_simp
        first
        | done
        | (with_reducible rfl)
      try simp only [Act.put, List.setIfInBounds_toArray, List.set_cons_zero, List.set_cons_succ]
      refine take_at 15 94 _ (v := ?vb15) rfl rfl (by kernel_rfl) (by kernel_rfl) (by kernel_rfl) (fun _ _ _ h => h) (Or.inl ⟨by rfl, ?hyb15⟩) (by assumption) ?restb15
      case hyb15 =>
        intro wX hSw
        try dsimp only at hSw
        go_simp
        first
        | done
        | (with_reducible rfl)
      try simp only [Act.put, List.setIfInBounds_toArray, List.set_cons_zero, List.set_cons_succ]
      refine take_at 16 95 _ (v := ?vb16) rfl rfl (by kernel_rfl) (by kernel_rfl) (by kernel_rfl) (fun _ _ _ h => h) (Or.inl ⟨by rfl, ?hyb16⟩) (by assumption) ?restb16
      case hyb16 =>
        intro wX hSw
        try dsimp only at hSw
        go_simp
        first
        | done
        | (with_reducible rfl)
      try simp only [Act.put, List.setIfInBounds_toArray, List.set_cons_zero, List.set_cons_succ]
      refine take_at 18 97 _ (v := ?vb18) rfl rfl (by kernel_rfl) (by kernel_rfl) (by kernel_rfl) (fun _ _ _ h => h) (Or.inl ⟨by rfl, ?hyb18⟩) (by assumption) ?restb18
      case hyb18 =>
        intro wX hSw
        try dsimp only at hSw
        go_simp
        first
        | done
        | (with_reducible rfl)
      try simp only [Act.put, List.setIfInBounds_toArray, List.set_cons_zero, List.set_cons_succ]
      refine take_at 19 98 _ (v := ?vb19) rfl rfl (by kernel_rfl) (by kernel_rfl) (by kernel_rfl) (fun _ _ _ h => h) (Or.inl ⟨by rfl, ?hyb19⟩) (by assumption) ?restb19
      case hyb19 =>
        intro wX hSw
        try dsimp only at hSw
        go_simp
        first
        | done
        | (with_reducible rfl)
      try simp only [Act.put, List.setIfInBounds_toArray, List.set_cons_zero, List.set_cons_succ]
      refine take_at 20 99 _ (v := ?vb20) rfl rfl (by kernel_rfl) (by kernel_rfl) (by kernel_rfl) (fun _ _ _ h => h) (Or.inl ⟨by rfl, ?hyb20⟩) (by assumption) ?restb20
      case hyb20 =>
        intro wX hSw
        try dsimp only at hSw
        go_simp
        first
        | done
        | (with_reducible rfl)
      try simp only [Act.put, List.setIfInBounds_toArray, List.set_cons_zero, List.set_cons_succ]
      refine take_at 21 100 _ (v := ?vb21) rfl rfl (by kernel_rfl) (by kernel_rfl) (by kernel_rfl) (fun _ _ _ h => h) (Or.inl ⟨by rfl, ?hyb21⟩) (by assumption) ?restb21
      case hyb21 =>
        intro wX hSw
        try dsimp only at hSw
        go_simp
        first
        | done
        | (with_reducible rfl)
      try simp only [Act.put, List.setIfInBounds_toArray, List.set_cons_zero, List.set_cons_succ]
      refine wpAnyH_ready (rs := [17]) (by kernel_rfl) (by simp) ?_
      refine AllReadyH.cons rfl (fun K hK => ?_) AllReadyH.nil
      go_simp
      go_at_call 12
      (with_reducible refine (HKY.out _).mono ?_)
      rintro e w13 ⟨rfl, hb⟩
      have h3 := HB.out.trans (hb.mono HB.out.size)
      have HB := Lib.hid h3
      clear hb h3
      try go_wp2_with fail
      refine hK.out _ _ ?_ (fun hHeld => ?_)
      · exact HSV.out _ HB.out
      clear hK K
      try simp only [Act.put, List.setIfInBounds_toArray, List.set_cons_zero, List.set_cons_succ]
      refine take_at 22 101 _ (v := ?vb22) rfl rfl (by kernel_rfl) (by kernel_rfl) (by kernel_rfl) (fun _ _ _ h => h) (Or.inl ⟨by rfl, ?hyb22⟩) (by assumption) ?restb22
      case hyb22 =>
        intro wX hSw
        try dsimp only at hSw
        go_simp
        first
        | done
        | (with_reducible rfl)
      try simp only [Act.put, List.setIfInBounds_toArray, List.set_cons_zero, List.set_cons_succ]
      refine take_at 23 102 _ (v := undef) rfl rfl (by kernel_rfl) (by kernel_rfl) (by kernel_rfl) (fun _ _ _ h => h) (Or.inr ⟨by rfl, rfl⟩) (by assumption) ?_
      try simp only [Act.put, List.setIfInBounds_toArray, List.set_cons_zero, List.set_cons_succ]
      refine take_at 24 103 _ (v := undef) rfl rfl (by kernel_rfl) (by kernel_rfl) (by kernel_rfl) (fun _ _ _ h => h) (Or.inr ⟨by rfl, rfl⟩) (by assumption) ?_
      try simp only [Act.put, List.setIfInBounds_toArray, List.set_cons_zero, List.set_cons_succ]
      refine take_at 25 104 _ (v := undef) rfl rfl (by kernel_rfl) (by kernel_rfl) (by kernel_rfl) (fun _ _ _ h => h) (Or.inr ⟨by rfl, rfl⟩) (by assumption) ?_
      try simp only [Act.put, List.setIfInBounds_toArray, List.set_cons_zero, List.set_cons_succ]
      refine take_at 26 105 _ (v := undef) rfl rfl (by kernel_rfl) (by kernel_rfl) (by kernel_rfl) (fun _ _ _ h => h) (Or.inr ⟨by rfl, rfl⟩) (by assumption) ?_
      try simp only [Act.put, List.setIfInBounds_toArray, List.set_cons_zero, List.set_cons_succ]
      refine take_at 27 106 _ (v := ?vb27) rfl rfl (by kernel_rfl) (by kernel_rfl) (by kernel_rfl) (fun _ _ _ h => h) (Or.inl ⟨by rfl, ?hyb27⟩) (by assumption) ?restb27
      case hyb27 =>
        intro wX hSw
        try dsimp only at hSw
        go_simp
        first
        | done
        | (with_reducible rfl)
      try simp only [Act.put, List.setIfInBounds_toArray, List.set_cons_zero, List.set_cons_succ]
      refine take_at 28 107 _ (v := ?vb28) rfl rfl (by kernel_rfl) (by kernel_rfl) (by kernel_rfl) (fun _ _ _ h => h) (Or.inl ⟨by rfl, ?hyb28⟩) (by assumption) ?restb28
      case hyb28 =>
        intro wX hSw
        try dsimp only at hSw
        go_simp
        first
        | done
        | (with_reducible rfl)
      try simp only [Act.put, List.setIfInBounds_toArray, List.set_cons_zero, List.set_cons_succ]
      refine take_at 29 108 _ (v := ?vb29) rfl rfl (by kernel_rfl) (by kernel_rfl) (by kernel_rfl) (fun _ _ _ h => h) (Or.inl ⟨by rfl, ?hyb29⟩) (by assumption) ?restb29
      case hyb29 =>
        intro wX hSw
        try dsimp only at hSw
        go_simp
        first
        | done
        | (with_reducible rfl)
      try simp only [Act.put, List.setIfInBounds_toArray, List.set_cons_zero, List.set_cons_succ]
      refine take_at 30 6 _ (v := ?vb30) rfl rfl (by kernel_rfl) (by kernel_rfl) (by kernel_rfl) (fun _ _ _ h => h) (Or.inl ⟨by rfl, ?hyb30⟩) (by assumption) ?restb30
      case hyb30 =>
        intro wX hSw
        try dsimp only at hSw
        go_simp
        first
        | done
        | (with_reducible rfl)
      try simp only [Act.put, List.setIfInBounds_toArray, List.set_cons_zero, List.set_cons_succ]
      refine wpAnyH_done (by kernel_rfl) ?_ _
      refine NoPanic.normal ?_
      go_wp2
      go_ret
      exact ⟨rfl, HBE.out.trans (HB.out.mono HBE.out.size)⟩
end Go.Proofs.YtookojgemipakaaDoor.E5
end
