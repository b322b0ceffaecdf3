/- A list of events that came in, opened; ref03.Events. -/
import Derived.Test.YtaimbkikiokenaaEvB
import Derived.Test.YtaimbkikiokenaaEvO
import Derived.Deep.CutBlock
namespace Go.Proofs.Ytaimbkikiokenaa.Ev
open Go.RowKit Go.Proofs.Ytaimbkikiokenaa
set_option linter.unusedVariables false
set_option maxRecDepth 100000
/-- Events that came in, as they lie. -/
def ELies (w : World) (B : Nat) (A : Option Addr) (n : Nat) (F : Nat → EI) : Prop := ∀ k, k < n → ∃ g o, A = some ⟨g, o, none⟩ ∧ g < B ∧ (∀ j u, ((F k).cells)[j]? = some u → w.cell? ⟨g, o + k * 5 + j, none⟩ = some u) ∧ EIOk w B (F k)
theorem ELies.below {w w' : World} {B B' : Nat} {A : Option Addr} {n : Nat} {F : Nat → EI} (h : ELies w B A n F) (hb : Below B w w') (hB : B ≤ B') : ELies w' B' A n F := fun k hk => by
  obtain ⟨g, o, e, hg, hc, hok⟩ := h k hk
  exact ⟨g, o, e, Nat.lt_of_lt_of_le hg hB, fun j u hj => (hb.cell (p := ⟨g, _, none⟩) hg).trans (hc j u hj), (hok.below hb).mono hB⟩
section
open Go.ChangeShapes Go.WideShapes
variable {H : Type} {enc : TypeId × Value → H} {w : World} {spare : Nat → Bool} {held : Bool} {fuel : Nat} {cs : List Value} {x : DataW H × List MemPlace}
theorem open_events {v : Value} (h : DataW.trod enc Try.prog w 0 spare held fuel 40 [v] = some x) :
    ∃ A n c F, v = .slice A n c ∧ n ≤ c ∧ c ≤ 9223372036854775807 ∧ ELies w w.heap.size A n F := by
  obtain ⟨A, n, c, rfl, h1, h2, hk⟩ := one_slice (e := 58) Try.underlying40 (by rw [show Try.prog.cellsOf 58 = 5 by kernel_rfl]; omega) h
  rw [show Try.prog.cellsOf 58 = 5 by kernel_rfl] at hk
  have each : ∀ k, k < n → ∃ e : EI, ∃ g o, A = some ⟨g, o, none⟩ ∧ g < w.heap.size ∧ (∀ j u, (e.cells)[j]? = some u → w.cell? ⟨g, o + k * 5 + j, none⟩ = some u) ∧ EIOk w w.heap.size e := fun k hkn => by
    obtain ⟨g, o, es, m, y, hA, hg, hl, hc, ht⟩ := hk k hkn
    obtain ⟨e, rfl, hok⟩ := open_event ht
    exact ⟨e, g, o, hA, hg, hc, hok⟩
  refine ⟨A, n, c, fun k => if h : k < n then Classical.choose (each k h) else ⟨ByteArray.empty, ByteArray.empty, 0, 0, none, 0, 0, fun _ => ⟨0, 0, ByteArray.empty, false⟩⟩, rfl, h1, h2, fun k hkn => ?_⟩
  simp only [dif_pos hkn]
  exact Classical.choose_spec (each k hkn)
theorem open_events_arg {base : Nat} {v : Value} {d : DataW H} {p : List MemPlace} (hv : Value.okWide Try.prog w .any base 40 v) (h : DataW.Trod enc Try.prog w 0 (fun _ => true) true 40 v d p) :
    ∃ A n c F, v = .slice A n c ∧ n ≤ c ∧ c ≤ 9223372036854775807 ∧ ELies w w.heap.size A n F := by
  obtain ⟨a, l, c, rfl⟩ := okWide_slice Try.underlying40 hv
  obtain ⟨fuel, hf⟩ := h
  exact open_events (by simpa [Value.cells] using hf)
end
/-- Events that were made: in one block, or none; each one's values apart from it. -/
structure EVS (w0 w : World) (v : Value) (es : List EM) : Prop where
  sg : ∃ ob, Seg w 58 5 v es.length (es.flatMap EM.cells) ob ∧ (∀ g, ob = some g → w0.heap.size ≤ g) ∧ ∀ e, e ∈ es → EvOk w w0.heap.size (fun k => ob = some k) e
  be : Below w0.heap.size w0 w
theorem EVS.call {w0 w w' : World} {v : Value} {es : List EM} (h : EVS w0 w v es) (g : Below w.heap.size w w') : EVS w0 w' v es := by
  obtain ⟨ob, h1, h2, h3⟩ := h.sg
  exact ⟨⟨ob, h1.turns (Turns.of_below g) (fun _ _ x => x), h2, fun e he => (h3 e he).call g⟩, h.be.trans (g.mono h.be.size)⟩
theorem event_info : (Try.prog.info? 58).map (fun i => (i.zero, i.size, i.bytes)) = some (some (.agg #[.string ⟨#[]⟩, .string ⟨#[]⟩, .int .i64 0, .int .i64 0, .slice none 0 0]), 5, 72) := by kernel_rfl
/-- What ref03.Events makes of the i-th. -/
def EI.nth (x : EI) (i : Nat) (vb : Nat) : EM := ⟨ty3 x.k, ⟨#[107]⟩, x.t % 16, (i : Int) + 1, vb, evVals x.k x.n x.s x.b⟩
theorem EVS.push {w0 w W W2 : World} {v v2 : Value} {es : List EM} {ob ob2 : Option Nat} {x : EI} {i vb : Nat} {o : Obj} (hs0 : Seg w 58 5 v es.length (es.flatMap EM.cells) ob) (h2 : ∀ g, ob = some g → w0.heap.size ≤ g) (h3 : ∀ e, e ∈ es → EvOk w w0.heap.size (fun k => ob = some k) e) (hbe : Below w0.heap.size w0 w)
    (hb : Below w.heap.size w W) (hok : EvOk W w.heap.size (fun _ => False) (x.made vb))
    (hs : Seg W2 58 5 v2 (es.length + 1) (es.flatMap EM.cells ++ (x.nth i vb).cells) ob2) (ht : Turns (W.alloc o) W2 (fun k => ob = some k)) (ho : ob2 = ob ∨ ∃ g, ob2 = some g ∧ (W.alloc o).heap.size ≤ g) : EVS w0 W2 v2 (es ++ [x.nth i vb]) := by
  have hob : ∀ g, ob = some g → g < w.heap.size := fun g e => hs0.lt g e
  have z1 := hb.size
  have z0 := hbe.size
  have hT : Turns W W2 (fun k => ob = some k) := ((Turns.refl W (fun k => ob = some k)).alloc o).trans ht (fun _ _ e => e)
  have hnew : ∀ g, g < W.heap.size → ob ≠ some g → ob2 ≠ some g := fun g hg hn e => by
    rcases ho with h1 | ⟨g', h1, hg'⟩
    · exact hn (by rw [← h1]; exact e)
    · rw [h1] at e; injection e with e; simp at hg'; omega
  refine ⟨⟨ob2, ?_, fun g e => ?_, fun e he => ?_⟩, ?_⟩
  · rw [List.length_append, List.flatMap_append]
    simpa using hs
  · rcases ho with h1 | ⟨g', h1, hg⟩
    · exact h2 g (by rw [← h1]; exact e)
    · rw [h1] at e; injection e with e; simp at hg; omega
  · rcases List.mem_append.1 he with he | he
    · have k1 := ((h3 e he).call hb).turns hT (fun _ _ _ h => h)
      exact ⟨k1.row, k1.ge, hnew _ ((h3 e he).call hb).row.lt k1.ap, k1.tb, k1.ln⟩
    · obtain rfl := List.mem_singleton.1 he
      have hne : ob ≠ some vb := fun e => by
        have h5 := hob _ e
        have h6 : w.heap.size ≤ vb := hok.ge
        omega
      have k1 := hok.turns (S := fun k => ob = some k) hT (fun k hk h5 h6 => by
        have h7 := hob _ h6
        omega)
      exact ⟨k1.row, Nat.le_trans z0 k1.ge, hnew _ hok.row.lt hne, k1.tb, k1.ln⟩
  · exact hT.below (hbe.trans (hb.mono z0)) (by omega) (fun k hk e => by have := h2 k e; omega)
end Go.Proofs.Ytaimbkikiokenaa.Ev
