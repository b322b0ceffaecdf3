/- Events: what ref03.Event makes of one, and where its values lie. -/
import Derived.Test.YtookojgemipakaaDoorTab
import Derived.Test.YtookojgemipakaaDoorBits
import Derived.Deep.CutBlock
import Derived.Deep.DeepCutAuto
import Derived.Test.YtookojgemipakaaDoorOpen4
namespace Go.Proofs.YtookojgemipakaaDoor.Ev
open Go.RowKit Go.Proofs.YtookojgemipakaaDoor
set_option linter.unusedVariables false
set_option maxRecDepth 100000

theorem _root_.Go.Proofs.YtookojgemipakaaDoor.Row.is {w : World} {b : Nat} {t : TypeId} {cs : Array Value} (h : Row w b t cs) (i : Nat) {v : Value} (hv : cs[i]? = some v) : w.cell? ⟨b, i, none⟩ = some v := (h.cell i).trans hv
/-- A value. -/
structure VV where
  k : Int
  i : Int
  s : ByteArray
  b : Bool
def VV.cells (v : VV) : List Value := [.int .i64 v.k, .int .i64 v.i, .string v.s, .bool v.b]
def vcells (vs : List VV) : List Value := vs.flatMap VV.cells
/-- An event that was made; its values lie at vb. -/
structure EM where
  ty : ByteArray
  key : ByteArray
  t : Int
  q : Int
  vb : Nat
  vs : List VV
def EM.vals (e : EM) : Value := .slice (some ⟨e.vb, 0, none⟩) e.vs.length e.vs.length
def EM.cells (e : EM) : List Value := [.string e.ty, .string e.key, .int .i64 e.t, .int .i64 e.q, e.vals]
structure EvOk (w : World) (B : Nat) (P : Nat → Prop) (e : EM) : Prop where
  row : Row w e.vb 33 (vcells e.vs).toArray
  ge : B ≤ e.vb
  ap : ¬ P e.vb
  tb : 0 ≤ e.t ∧ e.t ≤ 15
  ln : 2 ≤ e.vs.length ∧ e.vs.length ≤ 3
section
variable {w w' : World} {B B' : Nat} {P P' : Nat → Prop} {e : EM}
theorem EvOk.turns {S : Nat → Prop} (h : EvOk w B P e) (g : Turns w w' S) (hs : ∀ k, k < w.heap.size → B ≤ k → S k → P k) : EvOk w' B P e :=
  ⟨h.row.turns g (fun x => h.ap (hs _ h.row.lt h.ge x)), h.ge, h.ap, h.tb, h.ln⟩
theorem EvOk.call (h : EvOk w B P e) (g : Below w.heap.size w w') : EvOk w' B P e := h.turns (Turns.of_below g) (fun _ _ _ x => x.elim)
theorem EvOk.mono (h : EvOk w B P e) (hB : B' ≤ B) (hp : ∀ k, k < w.heap.size → B ≤ k → P' k → P k) : EvOk w B' P' e :=
  ⟨h.row, by have := h.ge; omega, fun x => h.ap (hp _ h.row.lt h.ge x), h.tb, h.ln⟩
theorem EvOk.put (h : EvOk w B P e) {p : Addr} (hp : P p.block) (u : Value) : EvOk (w.setCell p u) B P e :=
  ⟨h.row.past (fun x => h.ap (by rw [x]; exact hp)) u, h.ge, h.ap, h.tb, h.ln⟩
theorem EvOk.alloc (h : EvOk w B P e) (o : Obj) : EvOk (w.alloc o) B P e := ⟨h.row.alloc o, h.ge, h.ap, h.tb, h.ln⟩
theorem EvOk.drewN (h : EvOk w B P e) (n : Nat) : EvOk (w.drewN n) B P e := ⟨h.row, h.ge, h.ap, h.tb, h.ln⟩
end
/-- An event that came in. -/
structure EI where
  ty : ByteArray
  key : ByteArray
  t : Int
  q : Int
  va : Option Addr
  vn : Nat
  vc : Nat
  f : Nat → VV
def EI.cells (x : EI) : List Value := [.string x.ty, .string x.key, .int .i64 x.t, .int .i64 x.q, .slice x.va x.vn x.vc]
/-- Its values lie where they came in. -/
def VLies (w : World) (B : Nat) (A : Option Addr) (n : Nat) (f : Nat → VV) : Prop :=
  ∀ k, k < n → ∃ g o, A = some ⟨g, o, none⟩ ∧ g < B ∧ w.cell? ⟨g, o + k * 4, none⟩ = some (.int .i64 (f k).k) ∧ w.cell? ⟨g, o + k * 4 + 1, none⟩ = some (.int .i64 (f k).i) ∧ w.cell? ⟨g, o + k * 4 + 2, none⟩ = some (.string (f k).s) ∧ w.cell? ⟨g, o + k * 4 + 3, none⟩ = some (.bool (f k).b)
structure EIOk (w : World) (B : Nat) (x : EI) : Prop where
  le : x.vn ≤ x.vc ∧ x.vc ≤ 9223372036854775807
  sz : x.ty.size ≤ 9223372036854775807 ∧ x.key.size ≤ 9223372036854775807
  tb : -9223372036854775808 ≤ x.t ∧ x.t ≤ 9223372036854775807
  qb : -9223372036854775808 ≤ x.q ∧ x.q ≤ 9223372036854775807
  vb : ∀ k, -9223372036854775808 ≤ (x.f k).i ∧ (x.f k).i ≤ 9223372036854775807
  vl : VLies w B x.va x.vn x.f
theorem VLies.below {w w' : World} {B : Nat} {A : Option Addr} {n : Nat} {f : Nat → VV} (h : VLies w B A n f) (hb : Below B w w') : VLies w' B A n f := fun k hk => by
  obtain ⟨g, o, e, hg, h0, h1, h2, h3⟩ := h k hk
  exact ⟨g, o, e, hg, (hb.cell (p := ⟨g, _, none⟩) hg).trans h0, (hb.cell (p := ⟨g, _, none⟩) hg).trans h1, (hb.cell (p := ⟨g, _, none⟩) hg).trans h2, (hb.cell (p := ⟨g, _, none⟩) hg).trans h3⟩
theorem EIOk.below {w w' : World} {B : Nat} {x : EI} (h : EIOk w B x) (hb : Below B w w') : EIOk w' B x := ⟨h.le, h.sz, h.tb, h.qb, h.vb, h.vl.below hb⟩
theorem EIOk.mono {w : World} {B B' : Nat} {x : EI} (h : EIOk w B x) (hB : B ≤ B') : EIOk w B' x := ⟨h.le, h.sz, h.tb, h.qb, h.vb, fun k hk => by
  obtain ⟨g, o, e, hg, r⟩ := h.vl k hk
  exact ⟨g, o, e, by omega, r⟩⟩

def ty3 (k : Nat) : ByteArray := match k with
  | 0 => { data := #[65] }
  | 1 => { data := #[66] }
  | _ => { data := #[67] }
def key3 (k : Nat) : ByteArray := match k with
  | 0 => { data := #[107] }
  | 1 => { data := #[108] }
  | _ => { data := #[109] }
def textU : ByteArray := { data := #[117] }
def textV : ByteArray := { data := #[118] }
def evVals (k : Nat) (n : Int) (s : ByteArray) (b : Bool) : List VV :=
  if k = 2 then [⟨2, 0, s, false⟩, ⟨1, n, ByteArray.empty, false⟩, ⟨3, 0, ByteArray.empty, b⟩] else [⟨1, n, ByteArray.empty, false⟩, ⟨2, 0, s, false⟩]
def EI.n (x : EI) : Int := if 0 < x.vn then (x.f 0).i % 4 else 0
def EI.s (x : EI) : ByteArray := if 0 < x.vn ∧ (x.f 0).b = true then textV else textU
def EI.b (x : EI) : Bool := decide (0 < bits .and .i64 x.t 64)
def EI.k (x : EI) : Nat := (x.q % 256 % 3).toNat
/-- What ref03.Event makes of it, at vb. -/
def EI.made (x : EI) (vb : Nat) : EM := ⟨ty3 x.k, key3 (x.key.size % 3), x.t % 16, 0, vb, evVals x.k x.n x.s x.b⟩
theorem EI.k_lt (x : EI) : x.k < 3 := by unfold EI.k; omega
theorem evVals_len (k : Nat) (n : Int) (s : ByteArray) (b : Bool) : 2 ≤ (evVals k n s b).length ∧ (evVals k n s b).length ≤ 3 := by
  unfold evVals; split <;> simp
/-- What the event is while it is being made. -/
def Half (w : World) (k kk : Nat) (t : Int) (wx : World) : Prop := ∃ B, Below w.heap.size w wx ∧ Row wx B 24 #[.string (ty3 k), .string (key3 kk), .int .i64 (t % 16), .int .i64 0, .slice none 0 0] ∧ B = w.heap.size + 1
end Go.Proofs.YtookojgemipakaaDoor.Ev

/- The walk of ref03.Event. -/
namespace Go.Proofs.YtookojgemipakaaDoor.Ev
open Go.RowKit Go.Proofs.YtookojgemipakaaDoor
set_option linter.unusedVariables false
set_option maxRecDepth 100000

/-- The values are stored. -/
theorem last_step {w wd : World} {rb : Nat} {ty key : ByteArray} {t : Int} (hb : Below w.heap.size w wd) (hr : Row wd rb 24 #[.string ty, .string key, .int .i64 t, .int .i64 0, .slice none 0 0]) (hge : w.heap.size ≤ rb) (hl : rb < wd.heap.size) (vs : List VV) :
    Below w.heap.size w ((wd.setCell ⟨rb, 4, none⟩ (.slice (some ⟨wd.heap.size, 0, none⟩) vs.length vs.length)).alloc (.cells (vcells vs).toArray 33)) ∧
      Row ((wd.setCell ⟨rb, 4, none⟩ (.slice (some ⟨wd.heap.size, 0, none⟩) vs.length vs.length)).alloc (.cells (vcells vs).toArray 33)) rb 24 #[.string ty, .string key, .int .i64 t, .int .i64 0, .slice (some ⟨wd.heap.size, 0, none⟩) vs.length vs.length] ∧
      Row ((wd.setCell ⟨rb, 4, none⟩ (.slice (some ⟨wd.heap.size, 0, none⟩) vs.length vs.length)).alloc (.cells (vcells vs).toArray 33)) wd.heap.size 33 (vcells vs).toArray ∧ w.heap.size ≤ wd.heap.size ∧ rb ≠ wd.heap.size := by
  refine ⟨(hb.setCell (p := ⟨rb, 4, none⟩) hge _).alloc (by simp; exact hb.size) _, (hr.put 4 _).alloc _, ?_, hb.size, by omega⟩
  have := Row.made (wd.setCell ⟨rb, 4, none⟩ (.slice (some ⟨wd.heap.size, 0, none⟩) vs.length vs.length)) 33 (vcells vs).toArray
  simpa using this
theorem last_put {w wz : World} {rb vb n : Nat} {ty key ty' key' : ByteArray} {t : Int} {vs : List VV} (h : Below w.heap.size w wz ∧ Row wz rb 24 #[.string ty, .string key, .int .i64 t, .int .i64 0, .slice (some ⟨vb, 0, none⟩) n n] ∧ Row wz vb 33 (vcells vs).toArray ∧ w.heap.size ≤ vb ∧ rb ≠ vb) (h1 : ty = ty') (h2 : key = key') (hge : w.heap.size ≤ rb) :
    Below w.heap.size w (((((wz.setCell ⟨rb, 0, none⟩ (.string ty')).setCell ⟨rb, 1, none⟩ (.string key')).setCell ⟨rb, 2, none⟩ (.int .i64 t)).setCell ⟨rb, 3, none⟩ (.int .i64 0)).setCell ⟨rb, 4, none⟩ (.slice (some ⟨vb, 0, none⟩) n n)) ∧
      Row (((((wz.setCell ⟨rb, 0, none⟩ (.string ty')).setCell ⟨rb, 1, none⟩ (.string key')).setCell ⟨rb, 2, none⟩ (.int .i64 t)).setCell ⟨rb, 3, none⟩ (.int .i64 0)).setCell ⟨rb, 4, none⟩ (.slice (some ⟨vb, 0, none⟩) n n)) rb 24 #[.string ty', .string key', .int .i64 t, .int .i64 0, .slice (some ⟨vb, 0, none⟩) n n] ∧
      Row (((((wz.setCell ⟨rb, 0, none⟩ (.string ty')).setCell ⟨rb, 1, none⟩ (.string key')).setCell ⟨rb, 2, none⟩ (.int .i64 t)).setCell ⟨rb, 3, none⟩ (.int .i64 0)).setCell ⟨rb, 4, none⟩ (.slice (some ⟨vb, 0, none⟩) n n)) vb 33 (vcells vs).toArray ∧ w.heap.size ≤ vb := by
  obtain ⟨hb, hr, hv, hg, hne⟩ := h
  subst h1 h2
  exact ⟨((((hb.setCell (p := ⟨rb, 0, none⟩) hge _).setCell (p := ⟨rb, 1, none⟩) hge _).setCell (p := ⟨rb, 2, none⟩) hge _).setCell (p := ⟨rb, 3, none⟩) hge _).setCell (p := ⟨rb, 4, none⟩) hge _,
    ((((hr.put 0 _).put 1 _).put 2 _).put 3 _).put 4 _, ((((hv.past hne.symm _).past hne.symm _).past hne.symm _).past hne.symm _).past hne.symm _, hg⟩
set_option maxHeartbeats 4000000 in
theorem event_any (x : EI) (w : World) (h : EIOk w w.heap.size x) :
    Calls Tryd.prog 9 #[.agg #[.string x.ty, .string x.key, .int .i64 x.t, .int .i64 x.q, .slice x.va x.vn x.vc]] w fun e w' => ∃ vb, e = .returned (.agg (x.made vb).cells.toArray) ∧ EvOk w' w.heap.size (fun _ => False) (x.made vb) ∧ Below w.heap.size w w' := by
  obtain ⟨ty, key, t, q, va, vn, vc, f⟩ := x
  have H := Lib.hid h
  obtain ⟨X, hX⟩ : ∃ X : EI, X = ⟨ty, key, t, q, va, vn, vc, f⟩ := ⟨_, rfl⟩
  have HX := Lib.hid hX
  dsimp only
  rw [← hX]
  try dsimp only at h
  obtain ⟨⟨l1, l2⟩, ⟨z1, z2⟩, ⟨t1, t2⟩, ⟨q1, q2⟩, _, _⟩ := h
  have a1 := and255 q
  have a2 := and15 t
  obtain ⟨k, hk⟩ : ∃ k, X.k = k := ⟨_, rfl⟩
  have hkl : k < 3 := by rw [← hk]; exact X.k_lt
  have hkq : q % 256 % 3 = (k : Int) := by rw [← hk, hX]; show _ = (((q % 256 % 3).toNat : Nat) : Int); omega
  have hkr : (q % 256).tmod 3 = (k : Int) := by rw [Int.tmod_eq_emod_of_nonneg (by omega)]; exact hkq
  obtain ⟨bb, hbb⟩ : ∃ b, X.b = b := ⟨_, rfl⟩
  have HK := Lib.hid hk
  have HBB := Lib.hid hbb
  have hb' : decide (0 < bits .and .i64 t 64) = bb := by rw [← hbb, hX]; rfl
  clear hbb hk hX
  go_enter Tryd.func9, Tryd.ntmps9
  go_upto_region 2 with fail
  go_quiet (fail)
  generalize hW : ((w.alloc (.cells #[.string ty, .string key, .int .i64 t, .int .i64 q, .slice va vn vc] 24)).alloc (.cells #[.string { data := #[] }, .string { data := #[] }, .int .i64 0, .int .i64 0, .slice none 0 0] 24)).drewN nq = W
  have r0 : Row W w.heap.size 24 #[.string ty, .string key, .int .i64 t, .int .i64 q, .slice va vn vc] := by
    rw [← hW]; exact ((Row.made w _ _).alloc _).drewN _
  have r1 : Row W (w.heap.size + 1) 24 #[.string { data := #[] }, .string { data := #[] }, .int .i64 0, .int .i64 0, .slice none 0 0] := by
    rw [← hW]; have := (Row.made (w.alloc (.cells #[.string ty, .string key, .int .i64 t, .int .i64 q, .slice va vn vc] 24)) 24 #[.string { data := #[] }, .string { data := #[] }, .int .i64 0, .int .i64 0, .slice none 0 0]).drewN nq
    rw [World.size_alloc] at this; exact this
  have hb : Below w.heap.size w W := by rw [← hW]; exact below_drewN (((Below.refl _ w).alloc (Nat.le_refl _) _).alloc (by simp) _) _
  clear hW
  have R0 := Lib.hid r0
  have R1 := Lib.hid r1
  have HB := Lib.hid hb
  have c4 : W.cell? ⟨w.heap.size, 4, none⟩ = some (.slice va vn vc) := r0.cell 4
  clear r0 r1 hb
  go_upto_if 20 with fail
  go_cut [4, 5] (fun s4 s5 wx => s4 = .int .i64 X.n ∧ s5 = .string X.s ∧ W = wx)
  case first =>
    by_cases hv : 0 < vn
    · obtain ⟨g, o, hA, hg, v0, v1, v2, v3⟩ := H.out.vl 0 hv
      try dsimp only at hA hg v1 v3
      subst hA
      have d1 : W.cell? ⟨g, o + 1, none⟩ = some (.int .i64 (f 0).i) := (HB.out.cell (p := ⟨g, _, none⟩) hg).trans (by simpa using v1)
      have d3 : W.cell? ⟨g, o + 3, none⟩ = some (.bool (f 0).b) := (HB.out.cell (p := ⟨g, _, none⟩) hg).trans (by simpa using v3)
      obtain ⟨b1, b2⟩ := H.out.vb 0
      try dsimp only at b1 b2
      have a3 := and3 (f 0).i
      have hn : X.n = (f 0).i % 4 := by rw [HX.out]; exact if_pos hv
      have HN := Lib.hid hn
      obtain ⟨vb, hvb⟩ : ∃ b, (f 0).b = b := ⟨_, rfl⟩
      have hs : X.s = if vb = true then textV else textU := by rw [HX.out]; show (if 0 < vn ∧ (f 0).b = true then textV else textU) = _; rw [hvb]; simp [hv]
      rw [hvb] at d3
      have HS := Lib.hid hs
      clear hn hvb hs v0 v1 v2 v3
      cases vb with
      | true =>
        go_wp2
        go_meet
        exact ⟨by rw [HN.out], by rw [HS.out]; rfl, rfl⟩
      | false =>
        go_wp2
        go_meet
        exact ⟨by rw [HN.out], by rw [HS.out]; rfl, rfl⟩
    · have hn : X.n = 0 := by rw [HX.out]; exact if_neg hv
      have hs : X.s = textU := by rw [HX.out]; exact if_neg (by rintro ⟨h, _⟩; exact hv h)
      have HN := Lib.hid hn
      have HS := Lib.hid hs
      clear hn hs
      go_wp2
      go_meet
      exact ⟨by rw [HN.out], by rw [HS.out]; rfl, rfl⟩
  case rest =>
    obtain ⟨rfl, rfl, rfl⟩ := hcut
    clear c4
    obtain ⟨kk, hkk⟩ : ∃ kk, key.size % 3 = kk := ⟨_, rfl⟩
    have hkl3 : kk < 3 := by omega
    have hkt : (key.size : Int).tmod 3 = (kk : Int) := by rw [Int.tmod_eq_emod_of_nonneg (by omega)]; omega
    have HKK := Lib.hid hkk
    have c1 : W.cell? ⟨w.heap.size, 1, none⟩ = some (.string key) := R0.out.cell 1
    have c2 : W.cell? ⟨w.heap.size, 2, none⟩ = some (.int .i64 t) := R0.out.cell 2
    have cl := R1.out.lt
    have cl0 := R0.out.lt
    have e0 : W.cell? ⟨w.heap.size + 1, 0, none⟩ = some (.string { data := #[] }) := R1.out.cell 0
    have e1 : W.cell? ⟨w.heap.size + 1, 1, none⟩ = some (.string { data := #[] }) := R1.out.cell 1
    have e2 : W.cell? ⟨w.heap.size + 1, 2, none⟩ = some (.int .i64 0) := R1.out.cell 2
    have e3 : W.cell? ⟨w.heap.size + 1, 3, none⟩ = some (.int .i64 0) := R1.out.cell 3
    have e4 : W.cell? ⟨w.heap.size + 1, 4, none⟩ = some (.slice none 0 0) := R1.out.cell 4
    have g0 := R1.out.free 0
    have g1 := R1.out.free 1
    have g2 := R1.out.free 2
    have g3 := R1.out.free 3
    have g4 := R1.out.free 4
    clear hkk hkr hkq hb' a1
    go_upto_region 7 with fail
    go_cut [] (fun wx => Hid (Below w.heap.size w wx ∧ Row wx (w.heap.size + 1) 24 #[.string (ty3 k), .string (key3 kk), .int .i64 (t % 16), .int .i64 0, .slice none 0 0]))
    case first =>
      have hty : ∀ h : k < ([Value.string { data := #[65] }, Value.string { data := #[66] }, Value.string { data := #[67] }] : List Value).length, ([Value.string { data := #[65] }, Value.string { data := #[66] }, Value.string { data := #[67] }] : List Value)[k]'h = .string (ty3 k) := by
        rcases (show k = 0 ∨ k = 1 ∨ k = 2 by omega) with rfl | rfl | rfl <;> exact fun _ => rfl
      have hky : ∀ h : kk < ([Value.string { data := #[107] }, Value.string { data := #[108] }, Value.string { data := #[109] }] : List Value).length, ([Value.string { data := #[107] }, Value.string { data := #[108] }, Value.string { data := #[109] }] : List Value)[kk]'h = .string (key3 kk) := by
        rcases (show kk = 0 ∨ kk = 1 ∨ kk = 2 by omega) with rfl | rfl | rfl <;> exact fun _ => rfl
      have hki : (k : Int) < 3 := by omega
      have hkki : (kk : Int) < 3 := by omega
      have HD : Hid (Below w.heap.size w (((((W.setCell ⟨w.heap.size + 1, 0, none⟩ (.string (ty3 k))).setCell ⟨w.heap.size + 1, 1, none⟩ (.string (key3 kk))).setCell ⟨w.heap.size + 1, 2, none⟩ (.int .i64 (t % 16))).setCell ⟨w.heap.size + 1, 3, none⟩ (.int .i64 0)).setCell ⟨w.heap.size + 1, 4, none⟩ (.slice none 0 0)) ∧ Row (((((W.setCell ⟨w.heap.size + 1, 0, none⟩ (.string (ty3 k))).setCell ⟨w.heap.size + 1, 1, none⟩ (.string (key3 kk))).setCell ⟨w.heap.size + 1, 2, none⟩ (.int .i64 (t % 16))).setCell ⟨w.heap.size + 1, 3, none⟩ (.int .i64 0)).setCell ⟨w.heap.size + 1, 4, none⟩ (.slice none 0 0)) (w.heap.size + 1) 24 #[.string (ty3 k), .string (key3 kk), .int .i64 (t % 16), .int .i64 0, .slice none 0 0]) :=
        ⟨((((HB.out.setCell (p := ⟨w.heap.size + 1, 0, none⟩) (by simp) _).setCell (p := ⟨w.heap.size + 1, 1, none⟩) (by simp) _).setCell (p := ⟨w.heap.size + 1, 2, none⟩) (by simp) _).setCell (p := ⟨w.heap.size + 1, 3, none⟩) (by simp) _).setCell (p := ⟨w.heap.size + 1, 4, none⟩) (by simp) _, ((((R1.out.put 0 _).put 1 _).put 2 _).put 3 _).put 4 _⟩
      go_region
      all_goals
        go_wp2_with fail
        go_meet
        exact Lib.hid ⟨below_drewN ((HD.out.1.alloc HD.out.1.size _).alloc (Nat.le_trans HD.out.1.size (by simp)) _) 1, ((HD.out.2.alloc _).alloc _).drewN 1⟩
    case rest =>
      obtain ⟨HB2, HR2⟩ := hcut.out
      clear hcut c1 c2 cl cl0 e0 e1 e2 e3 e4 g0 g1 g2 g3 g4 hkt a2
      have H1 := Lib.hid HB2
      have H2 := Lib.hid HR2
      have cl := HR2.lt
      clear HB2 HR2
      go_upto_region 9 with fail
      have HV : Hid (Below w.heap.size w ((wc.alloc (.cells #[.int .i64 1, .int .i64 X.n, .string { data := #[] }, .bool false] 33)).alloc (.cells #[.int .i64 2, .int .i64 0, .string X.s, .bool false] 33)) ∧
          Row ((wc.alloc (.cells #[.int .i64 1, .int .i64 X.n, .string { data := #[] }, .bool false] 33)).alloc (.cells #[.int .i64 2, .int .i64 0, .string X.s, .bool false] 33)) (w.heap.size + 1) 24 #[.string (ty3 k), .string (key3 kk), .int .i64 (t % 16), .int .i64 0, .slice none 0 0] ∧
          Row ((wc.alloc (.cells #[.int .i64 1, .int .i64 X.n, .string { data := #[] }, .bool false] 33)).alloc (.cells #[.int .i64 2, .int .i64 0, .string X.s, .bool false] 33)) wc.heap.size 33 #[.int .i64 1, .int .i64 X.n, .string { data := #[] }, .bool false] ∧
          Row ((wc.alloc (.cells #[.int .i64 1, .int .i64 X.n, .string { data := #[] }, .bool false] 33)).alloc (.cells #[.int .i64 2, .int .i64 0, .string X.s, .bool false] 33)) (wc.heap.size + 1) 33 #[.int .i64 2, .int .i64 0, .string X.s, .bool false]) :=
        ⟨(H1.out.alloc H1.out.size _).alloc (by have := H1.out.size; simp; omega) _, (H2.out.alloc _).alloc _, (Row.made wc _ _).alloc _, by
          have := Row.made (wc.alloc (.cells #[.int .i64 1, .int .i64 X.n, .string { data := #[] }, .bool false] 33)) 33 #[.int .i64 2, .int .i64 0, .string X.s, .bool false]
          rw [World.size_alloc] at this; exact this⟩
      have hge : w.heap.size ≤ w.heap.size + 1 := by omega
      clear H1 H2
      generalize (wc.alloc (.cells #[.int .i64 1, .int .i64 X.n, .string { data := #[] }, .bool false] 33)).alloc (.cells #[.int .i64 2, .int .i64 0, .string X.s, .bool false] 33) = wd at HV ⊢
      generalize wc.heap.size + 1 = b2 at HV ⊢
      generalize wc.heap.size = b1 at HV cl ⊢
      generalize w.heap.size + 1 = rb at HV cl hge R1 ⊢
      have d0 := HV.out.2.1.is 0 (v := .string (ty3 k)) rfl
      have d1 := HV.out.2.1.is 1 (v := .string (key3 kk)) rfl
      have d2 := HV.out.2.1.is 2 (v := .int .i64 (t % 16)) rfl
      have d3 := HV.out.2.1.is 3 (v := .int .i64 0) rfl
      have d4 := HV.out.2.1.is 4 (v := .slice none 0 0) rfl
      have f0 := HV.out.2.1.free 0
      have f1 := HV.out.2.1.free 1
      have f2 := HV.out.2.1.free 2
      have f3 := HV.out.2.1.free 3
      have f4 := HV.out.2.1.free 4
      have p0 := HV.out.2.2.1.is 0 (v := .int .i64 1) rfl
      have p1 := HV.out.2.2.1.is 1 (v := .int .i64 X.n) rfl
      have p2 := HV.out.2.2.1.is 2 (v := .string { data := #[] }) rfl
      have p3 := HV.out.2.2.1.is 3 (v := .bool false) rfl
      have q0 := HV.out.2.2.2.is 0 (v := .int .i64 2) rfl
      have q1 := HV.out.2.2.2.is 1 (v := .int .i64 0) rfl
      have q2 := HV.out.2.2.2.is 2 (v := .string X.s) rfl
      have q3 := HV.out.2.2.2.is 3 (v := .bool false) rfl
      have l0 := HV.out.2.1.lt
      have l1 := HV.out.2.2.1.lt
      have l2 := HV.out.2.2.2.lt
      clear cl
      obtain ⟨tyk, htyk⟩ : ∃ y, ty3 k = y := ⟨_, rfl⟩
      obtain ⟨keyk, hkeyk⟩ : ∃ y, key3 kk = y := ⟨_, rfl⟩
      rw [htyk] at d0
      rw [hkeyk] at d1
      have HTY := Lib.hid htyk
      have HKY := Lib.hid hkeyk
      clear htyk hkeyk
      by_cases hk2 : k = 2
      · have hki : ((k : Int) == 2) = true := by simp; omega
        have HK2 := Lib.hid hk2
        clear hk2
        go_upto_region 12 with fail
        have HZ := Lib.hid (last_step HV.out.1 HV.out.2.1 hge l0 [⟨2, 0, X.s, false⟩, ⟨1, X.n, ByteArray.empty, false⟩, ⟨3, 0, ByteArray.empty, bb⟩])
        generalize hwz : (wd.setCell ⟨rb, 4, none⟩ (.slice (some ⟨wd.heap.size, 0, none⟩) 3 3)).alloc (.cells #[.int .i64 2, .int .i64 0, .string X.s, .bool false, .int .i64 1, .int .i64 X.n, .string { data := #[] }, .bool false, .int .i64 3, .int .i64 0, .string { data := #[] }, .bool bb] 33) = wz
        have hz : Below w.heap.size w wz ∧ Row wz rb 24 #[.string (ty3 k), .string (key3 kk), .int .i64 (t % 16), .int .i64 0, .slice (some ⟨wd.heap.size, 0, none⟩) 3 3] ∧ Row wz wd.heap.size 33 (vcells [⟨2, 0, X.s, false⟩, ⟨1, X.n, ByteArray.empty, false⟩, ⟨3, 0, ByteArray.empty, bb⟩]).toArray ∧ w.heap.size ≤ wd.heap.size ∧ rb ≠ wd.heap.size := by
          rw [← hwz]; exact HZ.out
        clear HZ hwz
        have HZ := Lib.hid hz
        clear hz HV d0 d1 d2 d3 d4 f0 f1 f2 f3 f4 p0 p1 p2 p3 q0 q1 q2 q3 l0 l1 l2
        generalize wd.heap.size = vb at HZ ⊢
        have d0 := HZ.out.2.1.is 0 (v := .string tyk) (by rw [← HTY.out]; rfl)
        have d1 := HZ.out.2.1.is 1 (v := .string keyk) (by rw [← HKY.out]; rfl)
        have d2 := HZ.out.2.1.is 2 (v := .int .i64 (t % 16)) rfl
        have d3 := HZ.out.2.1.is 3 (v := .int .i64 0) rfl
        have d4 := HZ.out.2.1.is 4 (v := .slice (some ⟨vb, 0, none⟩) 3 3) rfl
        have f0 := HZ.out.2.1.free 0
        have f1 := HZ.out.2.1.free 1
        have f2 := HZ.out.2.1.free 2
        have f3 := HZ.out.2.1.free 3
        have f4 := HZ.out.2.1.free 4
        go_wp2
        have HF := Lib.hid (last_put HZ.out HTY.out HKY.out hge)
        generalize ((((wz.setCell ⟨rb, 0, none⟩ (.string tyk)).setCell ⟨rb, 1, none⟩ (.string keyk)).setCell ⟨rb, 2, none⟩ (.int .i64 (t % 16))).setCell ⟨rb, 3, none⟩ (.int .i64 0)).setCell ⟨rb, 4, none⟩ (.slice (some ⟨vb, 0, none⟩) 3 3) = wq at HF ⊢
        clear d0 d1 d2 d3 d4 f0 f1 f2 f3 f4
        have d0 := HF.out.2.1.is 0 (v := .string tyk) rfl
        have d1 := HF.out.2.1.is 1 (v := .string keyk) rfl
        have d2 := HF.out.2.1.is 2 (v := .int .i64 (t % 16)) rfl
        have d3 := HF.out.2.1.is 3 (v := .int .i64 0) rfl
        have d4 := HF.out.2.1.is 4 (v := .slice (some ⟨vb, 0, none⟩) 3 3) rfl
        have hm : X.made vb = ⟨tyk, keyk, t % 16, 0, vb, [⟨2, 0, X.s, false⟩, ⟨1, X.n, ByteArray.empty, false⟩, ⟨3, 0, ByteArray.empty, bb⟩]⟩ := by
          have hxk := HX.out
          have : X.made vb = ⟨ty3 X.k, key3 (key.size % 3), t % 16, 0, vb, evVals X.k X.n X.s X.b⟩ := by rw [hxk]; rfl
          rw [this, HK.out, HKK.out, HBB.out, HTY.out, HKY.out]
          unfold evVals
          rw [if_pos HK2.out]
        exact bodyPost_ret (v := .agg #[.string tyk, .string keyk, .int .i64 (t % 16), .int .i64 0, .slice (some ⟨vb, 0, none⟩) 3 3]) (by simp [results, Tryd.results9, go_sem, d0, d1, d2, d3, d4]) rfl ⟨vb, by rw [hm]; rfl, by rw [hm]; exact ⟨HF.out.2.2.1, HF.out.2.2.2, fun h => h, by dsimp only; omega, by simp⟩, HF.out.1⟩
      · have hki : ((k : Int) == 2) = false := by simp; omega
        have HK2 := Lib.hid hk2
        clear hk2
        go_upto_region 12 with fail
        have HZ := Lib.hid (last_step HV.out.1 HV.out.2.1 hge l0 [⟨1, X.n, ByteArray.empty, false⟩, ⟨2, 0, X.s, false⟩])
        generalize hwz : (wd.setCell ⟨rb, 4, none⟩ (.slice (some ⟨wd.heap.size, 0, none⟩) 2 2)).alloc (.cells #[.int .i64 1, .int .i64 X.n, .string { data := #[] }, .bool false, .int .i64 2, .int .i64 0, .string X.s, .bool false] 33) = wz
        have hz : Below w.heap.size w wz ∧ Row wz rb 24 #[.string (ty3 k), .string (key3 kk), .int .i64 (t % 16), .int .i64 0, .slice (some ⟨wd.heap.size, 0, none⟩) 2 2] ∧ Row wz wd.heap.size 33 (vcells [⟨1, X.n, ByteArray.empty, false⟩, ⟨2, 0, X.s, false⟩]).toArray ∧ w.heap.size ≤ wd.heap.size ∧ rb ≠ wd.heap.size := by
          rw [← hwz]; exact HZ.out
        clear HZ hwz
        have HZ := Lib.hid hz
        clear hz HV d0 d1 d2 d3 d4 f0 f1 f2 f3 f4 p0 p1 p2 p3 q0 q1 q2 q3 l0 l1 l2
        generalize wd.heap.size = vb at HZ ⊢
        have d0 := HZ.out.2.1.is 0 (v := .string tyk) (by rw [← HTY.out]; rfl)
        have d1 := HZ.out.2.1.is 1 (v := .string keyk) (by rw [← HKY.out]; rfl)
        have d2 := HZ.out.2.1.is 2 (v := .int .i64 (t % 16)) rfl
        have d3 := HZ.out.2.1.is 3 (v := .int .i64 0) rfl
        have d4 := HZ.out.2.1.is 4 (v := .slice (some ⟨vb, 0, none⟩) 2 2) rfl
        have f0 := HZ.out.2.1.free 0
        have f1 := HZ.out.2.1.free 1
        have f2 := HZ.out.2.1.free 2
        have f3 := HZ.out.2.1.free 3
        have f4 := HZ.out.2.1.free 4
        go_wp2
        have HF := Lib.hid (last_put HZ.out HTY.out HKY.out hge)
        generalize ((((wz.setCell ⟨rb, 0, none⟩ (.string tyk)).setCell ⟨rb, 1, none⟩ (.string keyk)).setCell ⟨rb, 2, none⟩ (.int .i64 (t % 16))).setCell ⟨rb, 3, none⟩ (.int .i64 0)).setCell ⟨rb, 4, none⟩ (.slice (some ⟨vb, 0, none⟩) 2 2) = wq at HF ⊢
        clear d0 d1 d2 d3 d4 f0 f1 f2 f3 f4
        have d0 := HF.out.2.1.is 0 (v := .string tyk) rfl
        have d1 := HF.out.2.1.is 1 (v := .string keyk) rfl
        have d2 := HF.out.2.1.is 2 (v := .int .i64 (t % 16)) rfl
        have d3 := HF.out.2.1.is 3 (v := .int .i64 0) rfl
        have d4 := HF.out.2.1.is 4 (v := .slice (some ⟨vb, 0, none⟩) 2 2) rfl
        have hm : X.made vb = ⟨tyk, keyk, t % 16, 0, vb, [⟨1, X.n, ByteArray.empty, false⟩, ⟨2, 0, X.s, false⟩]⟩ := by
          have hxk := HX.out
          have : X.made vb = ⟨ty3 X.k, key3 (key.size % 3), t % 16, 0, vb, evVals X.k X.n X.s X.b⟩ := by rw [hxk]; rfl
          rw [this, HK.out, HKK.out, HBB.out, HTY.out, HKY.out]
          unfold evVals
          rw [if_neg HK2.out]
        exact bodyPost_ret (v := .agg #[.string tyk, .string keyk, .int .i64 (t % 16), .int .i64 0, .slice (some ⟨vb, 0, none⟩) 2 2]) (by simp [results, Tryd.results9, go_sem, d0, d1, d2, d3, d4]) rfl ⟨vb, by rw [hm]; rfl, by rw [hm]; exact ⟨HF.out.2.2.1, HF.out.2.2.2, fun h => h, by dsimp only; omega, by simp⟩, HF.out.1⟩
end Go.Proofs.YtookojgemipakaaDoor.Ev

/- Events that came in, opened. -/
namespace Go.Proofs.YtookojgemipakaaDoor.Ev
open Go.RowKit Go.Proofs.YtookojgemipakaaDoor Go.ChangeShapes Go.WideShapes
set_option linter.unusedVariables false
section
variable {H : Type} {enc : TypeId × Value → H} {w : World} {spare : Nat → Bool} {held : Bool} {fuel : Nat} {cs : List Value} {x : DataW H × List MemPlace}
theorem open_value (h : DataW.trod enc Tryd.prog w 0 spare held fuel 33 cs = some x) :
    ∃ v : VV, cs = v.cells ∧ (-9223372036854775808 ≤ v.i ∧ v.i ≤ 9223372036854775807) ∧ (-9223372036854775808 ≤ v.k ∧ v.k ≤ 9223372036854775807) ∧ v.s.size ≤ 9223372036854775807 := by
  obtain ⟨a, b, c, d, rfl⟩ := list4 (trod_struct_len (n := 4) (by kernel_rfl) (by kernel_rfl) h)
  obtain ⟨_, _, h0⟩ := trod_field (ft := 3) 0 (off := 0) (by kernel_rfl) h
  obtain ⟨_, _, h1⟩ := trod_field (ft := 2) 1 (off := 1) (by kernel_rfl) h
  obtain ⟨_, _, h2⟩ := trod_field (ft := 9) 2 (off := 2) (by kernel_rfl) h
  obtain ⟨_, _, h3⟩ := trod_field (ft := 4) 3 (off := 3) (by kernel_rfl) h
  rw [show Tryd.prog.cellsOf 3 = 1 by kernel_rfl] at h0
  rw [show Tryd.prog.cellsOf 2 = 1 by kernel_rfl] at h1
  rw [show Tryd.prog.cellsOf 9 = 1 by kernel_rfl] at h2
  rw [show Tryd.prog.cellsOf 4 = 1 by kernel_rfl] at h3
  obtain ⟨k, rfl, wk⟩ := one_int Tryd.underlying3 h0
  obtain ⟨i, rfl, wi⟩ := one_int Tryd.underlying2 h1
  obtain ⟨s, rfl, ws⟩ := one_str Tryd.underlying9 h2
  obtain ⟨b, rfl⟩ := one_bool Tryd.underlying4 h3
  exact ⟨⟨k, i, s, b⟩, rfl, bounds_i64 wi, bounds_i64 wk, ws⟩
theorem open_values {v : Value} (h : DataW.trod enc Tryd.prog w 0 spare held fuel 22 [v] = some x) :
    ∃ A n c f, v = .slice A n c ∧ n ≤ c ∧ c ≤ 9223372036854775807 ∧ VLies w w.heap.size A n f ∧ ∀ k, -9223372036854775808 ≤ (f k).i ∧ (f k).i ≤ 9223372036854775807 := by
  obtain ⟨A, n, c, rfl, h1, h2, hk⟩ := one_slice (e := 33) Tryd.underlying22 (by rw [show Tryd.prog.cellsOf 33 = 4 by kernel_rfl]; omega) h
  rw [show Tryd.prog.cellsOf 33 = 4 by kernel_rfl] at hk
  have each : ∀ k, k < n → ∃ v : VV, (-9223372036854775808 ≤ v.i ∧ v.i ≤ 9223372036854775807) ∧ ∃ g o, A = some ⟨g, o, none⟩ ∧ g < w.heap.size ∧ w.cell? ⟨g, o + k * 4, none⟩ = some (.int .i64 v.k) ∧ w.cell? ⟨g, o + k * 4 + 1, none⟩ = some (.int .i64 v.i) ∧ w.cell? ⟨g, o + k * 4 + 2, none⟩ = some (.string v.s) ∧ w.cell? ⟨g, o + k * 4 + 3, none⟩ = some (.bool v.b) := fun k hkn => by
    obtain ⟨g, o, es, m, y, hA, hg, hl, hc, ht⟩ := hk k hkn
    obtain ⟨v, rfl, hb, _, _⟩ := open_value ht
    exact ⟨v, hb, g, o, hA, hg, hc 0 _ rfl, hc 1 _ rfl, hc 2 _ rfl, hc 3 _ rfl⟩
  refine ⟨A, n, c, fun k => if h : k < n then Classical.choose (each k h) else ⟨0, 0, ByteArray.empty, false⟩, rfl, h1, h2, fun k hkn => ?_, fun k => ?_⟩
  · simp only [dif_pos hkn]
    exact (Classical.choose_spec (each k hkn)).2
  · by_cases hkn : k < n
    · simp only [dif_pos hkn]
      exact (Classical.choose_spec (each k hkn)).1
    · simp only [dif_neg hkn]
      omega
theorem open_event (h : DataW.trod enc Tryd.prog w 0 spare held fuel 24 cs = some x) : ∃ e : EI, cs = e.cells ∧ EIOk w w.heap.size e := by
  obtain ⟨a, b, c, d, e, rfl⟩ := list5 (trod_struct_len (n := 5) (by kernel_rfl) (by kernel_rfl) h)
  obtain ⟨_, _, h0⟩ := trod_field (ft := 9) 0 (off := 0) (by kernel_rfl) h
  obtain ⟨_, _, h1⟩ := trod_field (ft := 9) 1 (off := 1) (by kernel_rfl) h
  obtain ⟨_, _, h2⟩ := trod_field (ft := 2) 2 (off := 2) (by kernel_rfl) h
  obtain ⟨_, _, h3⟩ := trod_field (ft := 2) 3 (off := 3) (by kernel_rfl) h
  obtain ⟨_, _, h4⟩ := trod_field (ft := 22) 4 (off := 4) (by kernel_rfl) h
  rw [show Tryd.prog.cellsOf 9 = 1 by kernel_rfl] at h0 h1
  rw [show Tryd.prog.cellsOf 2 = 1 by kernel_rfl] at h2 h3
  rw [show Tryd.prog.cellsOf 22 = 1 by kernel_rfl] at h4
  obtain ⟨ty, rfl, s0⟩ := one_str Tryd.underlying9 h0
  obtain ⟨key, rfl, s1⟩ := one_str Tryd.underlying9 h1
  obtain ⟨t, rfl, w2⟩ := one_int Tryd.underlying2 h2
  obtain ⟨q, rfl, w3⟩ := one_int Tryd.underlying2 h3
  obtain ⟨A, n, cc, f, rfl, l1, l2, hv, hb⟩ := open_values h4
  exact ⟨⟨ty, key, t, q, A, n, cc, f⟩, rfl, ⟨l1, l2⟩, ⟨s0, s1⟩, bounds_i64 w2, bounds_i64 w3, hb, hv⟩
end
end Go.Proofs.YtookojgemipakaaDoor.Ev

/- A list of events that came in, opened; ref03.Events. -/
namespace Go.Proofs.YtookojgemipakaaDoor.Ev
open Go.RowKit Go.Proofs.YtookojgemipakaaDoor
set_option linter.unusedVariables false
set_option maxRecDepth 100000
/-- Events that came in, as they lie. -/
def ELies (w : World) (B : Nat) (A : Option Addr) (n : Nat) (F : Nat → EI) : Prop := ∀ k, k < n → ∃ g o, A = some ⟨g, o, none⟩ ∧ g < B ∧ (∀ j u, ((F k).cells)[j]? = some u → w.cell? ⟨g, o + k * 5 + j, none⟩ = some u) ∧ EIOk w B (F k)
theorem ELies.below {w w' : World} {B B' : Nat} {A : Option Addr} {n : Nat} {F : Nat → EI} (h : ELies w B A n F) (hb : Below B w w') (hB : B ≤ B') : ELies w' B' A n F := fun k hk => by
  obtain ⟨g, o, e, hg, hc, hok⟩ := h k hk
  exact ⟨g, o, e, Nat.lt_of_lt_of_le hg hB, fun j u hj => (hb.cell (p := ⟨g, _, none⟩) hg).trans (hc j u hj), (hok.below hb).mono hB⟩
section
open Go.ChangeShapes Go.WideShapes
variable {H : Type} {enc : TypeId × Value → H} {w : World} {spare : Nat → Bool} {held : Bool} {fuel : Nat} {cs : List Value} {x : DataW H × List MemPlace}
theorem open_events {v : Value} (h : DataW.trod enc Tryd.prog w 0 spare held fuel 39 [v] = some x) :
    ∃ A n c F, v = .slice A n c ∧ n ≤ c ∧ c ≤ 9223372036854775807 ∧ ELies w w.heap.size A n F := by
  obtain ⟨A, n, c, rfl, h1, h2, hk⟩ := one_slice (e := 24) Tryd.underlying39 (by rw [show Tryd.prog.cellsOf 24 = 5 by kernel_rfl]; omega) h
  rw [show Tryd.prog.cellsOf 24 = 5 by kernel_rfl] at hk
  have each : ∀ k, k < n → ∃ e : EI, ∃ g o, A = some ⟨g, o, none⟩ ∧ g < w.heap.size ∧ (∀ j u, (e.cells)[j]? = some u → w.cell? ⟨g, o + k * 5 + j, none⟩ = some u) ∧ EIOk w w.heap.size e := fun k hkn => by
    obtain ⟨g, o, es, m, y, hA, hg, hl, hc, ht⟩ := hk k hkn
    obtain ⟨e, rfl, hok⟩ := open_event ht
    exact ⟨e, g, o, hA, hg, hc, hok⟩
  refine ⟨A, n, c, fun k => if h : k < n then Classical.choose (each k h) else ⟨ByteArray.empty, ByteArray.empty, 0, 0, none, 0, 0, fun _ => ⟨0, 0, ByteArray.empty, false⟩⟩, rfl, h1, h2, fun k hkn => ?_⟩
  simp only [dif_pos hkn]
  exact Classical.choose_spec (each k hkn)
theorem open_events_arg {base : Nat} {v : Value} {d : DataW H} {p : List MemPlace} (hv : Value.okWide Tryd.prog w .any base 39 v) (h : DataW.Trod enc Tryd.prog w 0 (fun _ => true) true 39 v d p) :
    ∃ A n c F, v = .slice A n c ∧ n ≤ c ∧ c ≤ 9223372036854775807 ∧ ELies w w.heap.size A n F := by
  obtain ⟨a, l, c, rfl⟩ := okWide_slice Tryd.underlying39 hv
  obtain ⟨fuel, hf⟩ := h
  exact open_events (by simpa [Value.cells] using hf)
end
/-- Events that were made: in one block, or none; each one's values apart from it. -/
structure EVS (w0 w : World) (v : Value) (es : List EM) : Prop where
  sg : ∃ ob, Seg w 24 5 v es.length (es.flatMap EM.cells) ob ∧ (∀ g, ob = some g → w0.heap.size ≤ g) ∧ ∀ e, e ∈ es → EvOk w w0.heap.size (fun k => ob = some k) e
  be : Below w0.heap.size w0 w
theorem EVS.call {w0 w w' : World} {v : Value} {es : List EM} (h : EVS w0 w v es) (g : Below w.heap.size w w') : EVS w0 w' v es := by
  obtain ⟨ob, h1, h2, h3⟩ := h.sg
  exact ⟨⟨ob, h1.turns (Turns.of_below g) (fun _ _ x => x), h2, fun e he => (h3 e he).call g⟩, h.be.trans (g.mono h.be.size)⟩
theorem event_info : (Tryd.prog.info? 24).map (fun i => (i.zero, i.size, i.bytes)) = some (some (.agg #[.string ⟨#[]⟩, .string ⟨#[]⟩, .int .i64 0, .int .i64 0, .slice none 0 0]), 5, 72) := by kernel_rfl
/-- What ref03.Events makes of the i-th. -/
def EI.nth (x : EI) (i : Nat) (vb : Nat) : EM := ⟨ty3 x.k, ⟨#[107]⟩, x.t % 16, (i : Int) + 1, vb, evVals x.k x.n x.s x.b⟩
theorem EVS.push {w0 w W W2 : World} {v v2 : Value} {es : List EM} {ob ob2 : Option Nat} {x : EI} {i vb : Nat} {o : Obj} (hs0 : Seg w 24 5 v es.length (es.flatMap EM.cells) ob) (h2 : ∀ g, ob = some g → w0.heap.size ≤ g) (h3 : ∀ e, e ∈ es → EvOk w w0.heap.size (fun k => ob = some k) e) (hbe : Below w0.heap.size w0 w)
    (hb : Below w.heap.size w W) (hok : EvOk W w.heap.size (fun _ => False) (x.made vb))
    (hs : Seg W2 24 5 v2 (es.length + 1) (es.flatMap EM.cells ++ (x.nth i vb).cells) ob2) (ht : Turns (W.alloc o) W2 (fun k => ob = some k)) (ho : ob2 = ob ∨ ∃ g, ob2 = some g ∧ (W.alloc o).heap.size ≤ g) : EVS w0 W2 v2 (es ++ [x.nth i vb]) := by
  have hob : ∀ g, ob = some g → g < w.heap.size := fun g e => hs0.lt g e
  have z1 := hb.size
  have z0 := hbe.size
  have hT : Turns W W2 (fun k => ob = some k) := ((Turns.refl W (fun k => ob = some k)).alloc o).trans ht (fun _ _ e => e)
  have hnew : ∀ g, g < W.heap.size → ob ≠ some g → ob2 ≠ some g := fun g hg hn e => by
    rcases ho with h1 | ⟨g', h1, hg'⟩
    · exact hn (by rw [← h1]; exact e)
    · rw [h1] at e; injection e with e; simp at hg'; omega
  refine ⟨⟨ob2, ?_, fun g e => ?_, fun e he => ?_⟩, ?_⟩
  · rw [List.length_append, List.flatMap_append]
    simpa using hs
  · rcases ho with h1 | ⟨g', h1, hg⟩
    · exact h2 g (by rw [← h1]; exact e)
    · rw [h1] at e; injection e with e; simp at hg; omega
  · rcases List.mem_append.1 he with he | he
    · have k1 := ((h3 e he).call hb).turns hT (fun _ _ _ h => h)
      exact ⟨k1.row, k1.ge, hnew _ ((h3 e he).call hb).row.lt k1.ap, k1.tb, k1.ln⟩
    · obtain rfl := List.mem_singleton.1 he
      have hne : ob ≠ some vb := fun e => by
        have h5 := hob _ e
        have h6 : w.heap.size ≤ vb := hok.ge
        omega
      have k1 := hok.turns (S := fun k => ob = some k) hT (fun k hk h5 h6 => by
        have h7 := hob _ h6
        omega)
      exact ⟨k1.row, Nat.le_trans z0 k1.ge, hnew _ hok.row.lt hne, k1.tb, k1.ln⟩
  · exact hT.below (hbe.trans (hb.mono z0)) (by omega) (fun k hk e => by have := h2 k e; omega)
end Go.Proofs.YtookojgemipakaaDoor.Ev

