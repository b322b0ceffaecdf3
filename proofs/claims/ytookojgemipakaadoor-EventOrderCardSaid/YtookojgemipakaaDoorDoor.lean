/- A row with a condition on what variables hold: the contract is handed that condition and the world's shape. -/
import Derived.Test.YtookojgemipakaaDoorRows
import Derived.Test.YtookojgemipakaaDoorProg
import Derived.Test.YtookojgemipakaaDoorShelf
import Derived.SizedLaws
import Derived.Handed
import Derived.Shelf.Vars
import Derived.Stop.Joined
namespace Go.Proofs.YtookojgemipakaaDoor.Door
open Go.RowKit Go.Proofs Go.Proofs.YtookojgemipakaaDoor
variable {H : Type} {enc : TypeId × Value → H}

theorem handed {a : Assume} {C : Checked} {os : Os} {f : FuncId} {fn : Func} {s : ChangeSpec} {conds : List PathCond} {apart fresh handsOn again : Bool} {X : World → Array Value → Prop}
    (hX : ∀ (w w' : World) (args : Array Value), w.heap = w'.heap → X w args → X w' args)
    (own : ownKnob C.prog.godebug = none) (started : os.Started) (noInit : C.prog.inits.idxOf? f = none) (hfn : C.prog.funcs[f]? = some fn)
    (witness : ∃ (w : World) (tape : Tape) (i : Input), w.os = os ∧ (w.forCall tape i).Shaped C.prog ∧ i.vars = [] ∧ Input.okWide C.prog (w.forCall tape i) .any w.heap.size f i ∧
      ((s.pre enc C.prog fn conds apart (w.forCall tape i).memory i.args ∧ X (w.forCall tape i).memory i.args) ∧ sizedMet enc C.prog fn (OpenSpec.ofChange s) apart (w.forCall tape i).memory i.args) ∧ a.holds C.prog (lone (Frame.enter C.prog f i.args .normal) [] (w.forCall tape i)))
    (contract : ∀ (W : World) (base : Nat) (args : Array Value) (ds gs : List (DataW H)) (before : List MemPlace),
      (∀ (j : Nat) t v, fn.params[j]? = some t → args[j]? = some v → Value.okWide C.prog W .any base t v) →
      DataW.Whole enc C.prog fn.params.toList s.vars apart W args.toList ds gs before →
      W.ShapedOpen C.prog → X W args →
      Calls C.prog f args W fun e W' => ∃ v, e = .returned v ∧ s.post enc C.prog fn apart fresh handsOn again W args v W') :
    ReturnsInHanded a C os f .any (fun w args => (s.pre enc C.prog fn conds apart w args ∧ X w args) ∧ sizedMet enc C.prog fn (OpenSpec.ofChange s) apart w args) (s.post enc C.prog fn apart fresh handsOn again) := by
  refine returnsInHanded_of_calls own started noInit witness ?_
  intro w tape i _ hsh _ hok hpre _
  obtain ⟨_, _, _, fn', hfn', _, _, _, _, hval⟩ := hok
  have e : fn' = fn := Option.some.inj (hfn'.symm.trans hfn)
  subst e
  obtain ⟨⟨⟨ds, gs, before, hw, _⟩, hx⟩, _⟩ := hpre
  have hw' := DataW.Whole.of_heap (w' := w.forCall tape i) (by rfl) hw
  refine (contract (w.forCall tape i) w.heap.size i.args ds gs before hval hw' hsh (hX _ _ _ (by rfl) hx)).mono fun e W' ⟨v, he, hp⟩ => ?_
  subst he
  exact ChangeSpec.post_blind hp

/-- The library's own number holds some number. -/
def ML (w : World) : Prop := ∃ m, w.cell? ⟨0, 0, none⟩ = some (.int .i64 m)
theorem ml_of_shape {w : World} (h : w.ShapedOpen Tryd.prog) : ML w :=
  cell_of_shapedOpen_int (t := 3) (zero := #[.int .i64 0]) h (of_decide_eq_true (by kernel_rfl)) (by kernel_rfl) rfl (by kernel_rfl) (by kernel_rfl) Tryd.underlying3
theorem ML.call {w w' : World} {B : Nat} (h : ML w) (b : Below B w w') (hB : 0 < B) : ML w' := by
  obtain ⟨m, hm⟩ := h
  exact ⟨m, (b.cell (p := ⟨0, 0, none⟩) hB).trans hm⟩
theorem ML.lt {w : World} (h : ML w) : 0 < w.heap.size := by
  obtain ⟨m, hm⟩ := h
  exact World.block_lt_of_cell? w _ hm
theorem ML.below {w w' : World} (h : ML w) (b : Below w.heap.size w w') : ML w' := h.call b h.lt
/-- strings.ReplaceAll, as it is wanted here. -/
theorem replace_any (s old new : ByteArray) (w : World) (hm : ML w) (hs : s.size < 1000000) (h1 : 1 ≤ old.size) (hn : new.size ≤ 2) :
    Calls Tryd.prog 81 #[.string s, .string old, .string new] w fun e w' => e = .returned (.string ⟨(Lib.replaceAll s.data.toList old.data.toList new.data.toList).toArray⟩) ∧ Below w.heap.size w w' := by
  obtain ⟨m, hm⟩ := hm
  have hc := Lib.countB_mul_le old h1 s.size s (Nat.le_refl _)
  have hc1 : Lib.countB s old ≤ s.size := Nat.le_trans (Nat.le_mul_of_pos_right _ h1) hc
  have hc2 : Lib.countB s old * new.size ≤ s.size * 2 := Nat.mul_le_mul hc1 hn
  exact Tryd.strings_ReplaceAll s old new m w (by omega) hm h1 (by omega)
end Go.Proofs.YtookojgemipakaaDoor.Door
