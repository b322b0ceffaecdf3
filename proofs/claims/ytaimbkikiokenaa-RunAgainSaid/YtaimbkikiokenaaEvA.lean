/- Events: what ref03.Event makes of one, and where its values lie. -/
import Derived.Test.YtaimbkikiokenaaTab
import Derived.Test.YtaimbkikiokenaaBits
import Derived.Deep.CutBlock
import Derived.Deep.DeepCutAuto
namespace Go.Proofs.Ytaimbkikiokenaa.Ev
open Go.RowKit Go.Proofs.Ytaimbkikiokenaa
set_option linter.unusedVariables false
set_option maxRecDepth 100000

theorem _root_.Go.Proofs.Ytaimbkikiokenaa.Row.is {w : World} {b : Nat} {t : TypeId} {cs : Array Value} (h : Row w b t cs) (i : Nat) {v : Value} (hv : cs[i]? = some v) : w.cell? ⟨b, i, none⟩ = some v := (h.cell i).trans hv
/-- A value. -/
structure VV where
  k : Int
  i : Int
  s : ByteArray
  b : Bool
def VV.cells (v : VV) : List Value := [.int .i64 v.k, .int .i64 v.i, .string v.s, .bool v.b]
def vcells (vs : List VV) : List Value := vs.flatMap VV.cells
/-- An event that was made; its values lie at vb. -/
structure EM where
  ty : ByteArray
  key : ByteArray
  t : Int
  q : Int
  vb : Nat
  vs : List VV
def EM.vals (e : EM) : Value := .slice (some ⟨e.vb, 0, none⟩) e.vs.length e.vs.length
def EM.cells (e : EM) : List Value := [.string e.ty, .string e.key, .int .i64 e.t, .int .i64 e.q, e.vals]
structure EvOk (w : World) (B : Nat) (P : Nat → Prop) (e : EM) : Prop where
  row : Row w e.vb 92 (vcells e.vs).toArray
  ge : B ≤ e.vb
  ap : ¬ P e.vb
  tb : 0 ≤ e.t ∧ e.t ≤ 15
  ln : 2 ≤ e.vs.length ∧ e.vs.length ≤ 3
section
variable {w w' : World} {B B' : Nat} {P P' : Nat → Prop} {e : EM}
theorem EvOk.turns {S : Nat → Prop} (h : EvOk w B P e) (g : Turns w w' S) (hs : ∀ k, k < w.heap.size → B ≤ k → S k → P k) : EvOk w' B P e :=
  ⟨h.row.turns g (fun x => h.ap (hs _ h.row.lt h.ge x)), h.ge, h.ap, h.tb, h.ln⟩
theorem EvOk.call (h : EvOk w B P e) (g : Below w.heap.size w w') : EvOk w' B P e := h.turns (Turns.of_below g) (fun _ _ _ x => x.elim)
theorem EvOk.mono (h : EvOk w B P e) (hB : B' ≤ B) (hp : ∀ k, k < w.heap.size → B ≤ k → P' k → P k) : EvOk w B' P' e :=
  ⟨h.row, by have := h.ge; omega, fun x => h.ap (hp _ h.row.lt h.ge x), h.tb, h.ln⟩
theorem EvOk.put (h : EvOk w B P e) {p : Addr} (hp : P p.block) (u : Value) : EvOk (w.setCell p u) B P e :=
  ⟨h.row.past (fun x => h.ap (by rw [x]; exact hp)) u, h.ge, h.ap, h.tb, h.ln⟩
theorem EvOk.alloc (h : EvOk w B P e) (o : Obj) : EvOk (w.alloc o) B P e := ⟨h.row.alloc o, h.ge, h.ap, h.tb, h.ln⟩
theorem EvOk.drewN (h : EvOk w B P e) (n : Nat) : EvOk (w.drewN n) B P e := ⟨h.row, h.ge, h.ap, h.tb, h.ln⟩
end
/-- An event that came in. -/
structure EI where
  ty : ByteArray
  key : ByteArray
  t : Int
  q : Int
  va : Option Addr
  vn : Nat
  vc : Nat
  f : Nat → VV
def EI.cells (x : EI) : List Value := [.string x.ty, .string x.key, .int .i64 x.t, .int .i64 x.q, .slice x.va x.vn x.vc]
/-- Its values lie where they came in. -/
def VLies (w : World) (B : Nat) (A : Option Addr) (n : Nat) (f : Nat → VV) : Prop :=
  ∀ k, k < n → ∃ g o, A = some ⟨g, o, none⟩ ∧ g < B ∧ w.cell? ⟨g, o + k * 4, none⟩ = some (.int .i64 (f k).k) ∧ w.cell? ⟨g, o + k * 4 + 1, none⟩ = some (.int .i64 (f k).i) ∧ w.cell? ⟨g, o + k * 4 + 2, none⟩ = some (.string (f k).s) ∧ w.cell? ⟨g, o + k * 4 + 3, none⟩ = some (.bool (f k).b)
structure EIOk (w : World) (B : Nat) (x : EI) : Prop where
  le : x.vn ≤ x.vc ∧ x.vc ≤ 9223372036854775807
  sz : x.ty.size ≤ 9223372036854775807 ∧ x.key.size ≤ 9223372036854775807
  tb : -9223372036854775808 ≤ x.t ∧ x.t ≤ 9223372036854775807
  qb : -9223372036854775808 ≤ x.q ∧ x.q ≤ 9223372036854775807
  vb : ∀ k, -9223372036854775808 ≤ (x.f k).i ∧ (x.f k).i ≤ 9223372036854775807
  vl : VLies w B x.va x.vn x.f
theorem VLies.below {w w' : World} {B : Nat} {A : Option Addr} {n : Nat} {f : Nat → VV} (h : VLies w B A n f) (hb : Below B w w') : VLies w' B A n f := fun k hk => by
  obtain ⟨g, o, e, hg, h0, h1, h2, h3⟩ := h k hk
  exact ⟨g, o, e, hg, (hb.cell (p := ⟨g, _, none⟩) hg).trans h0, (hb.cell (p := ⟨g, _, none⟩) hg).trans h1, (hb.cell (p := ⟨g, _, none⟩) hg).trans h2, (hb.cell (p := ⟨g, _, none⟩) hg).trans h3⟩
theorem EIOk.below {w w' : World} {B : Nat} {x : EI} (h : EIOk w B x) (hb : Below B w w') : EIOk w' B x := ⟨h.le, h.sz, h.tb, h.qb, h.vb, h.vl.below hb⟩
theorem EIOk.mono {w : World} {B B' : Nat} {x : EI} (h : EIOk w B x) (hB : B ≤ B') : EIOk w B' x := ⟨h.le, h.sz, h.tb, h.qb, h.vb, fun k hk => by
  obtain ⟨g, o, e, hg, r⟩ := h.vl k hk
  exact ⟨g, o, e, by omega, r⟩⟩

def ty3 (k : Nat) : ByteArray := match k with
  | 0 => { data := #[65] }
  | 1 => { data := #[66] }
  | _ => { data := #[67] }
def key3 (k : Nat) : ByteArray := match k with
  | 0 => { data := #[107] }
  | 1 => { data := #[108] }
  | _ => { data := #[109] }
def textU : ByteArray := { data := #[117] }
def textV : ByteArray := { data := #[118] }
def evVals (k : Nat) (n : Int) (s : ByteArray) (b : Bool) : List VV :=
  if k = 2 then [⟨2, 0, s, false⟩, ⟨1, n, ByteArray.empty, false⟩, ⟨3, 0, ByteArray.empty, b⟩] else [⟨1, n, ByteArray.empty, false⟩, ⟨2, 0, s, false⟩]
def EI.n (x : EI) : Int := if 0 < x.vn then (x.f 0).i % 4 else 0
def EI.s (x : EI) : ByteArray := if 0 < x.vn ∧ (x.f 0).b = true then textV else textU
def EI.b (x : EI) : Bool := decide (0 < bits .and .i64 x.t 64)
def EI.k (x : EI) : Nat := (x.q % 256 % 3).toNat
/-- What ref03.Event makes of it, at vb. -/
def EI.made (x : EI) (vb : Nat) : EM := ⟨ty3 x.k, key3 (x.key.size % 3), x.t % 16, 0, vb, evVals x.k x.n x.s x.b⟩
theorem EI.k_lt (x : EI) : x.k < 3 := by unfold EI.k; omega
theorem evVals_len (k : Nat) (n : Int) (s : ByteArray) (b : Bool) : 2 ≤ (evVals k n s b).length ∧ (evVals k n s b).length ≤ 3 := by
  unfold evVals; split <;> simp
/-- What the event is while it is being made. -/
def Half (w : World) (k kk : Nat) (t : Int) (wx : World) : Prop := ∃ B, Below w.heap.size w wx ∧ Row wx B 58 #[.string (ty3 k), .string (key3 kk), .int .i64 (t % 16), .int .i64 0, .slice none 0 0] ∧ B = w.heap.size + 1
end Go.Proofs.Ytaimbkikiokenaa.Ev
