/- Counts: what each of some counted, in memory; its calls. -/
import Derived.Test.YtjciilnbcmaikaaCoA
import Derived.Deep.RegionLaw
import Derived.Deep.RegionHeld3
import Derived.StillTailTactics
namespace Go.Proofs.Ytjciilnbcmaikaa.Co
open Go.RowKit Go.Proofs.Ytjciilnbcmaikaa
set_option linter.unusedVariables false
set_option maxRecDepth 100000

def partsV (n : Int) : Nat := (min (max n 1) 64).toNat
theorem partsV_pos (n : Int) : 1 ≤ partsV n ∧ partsV n ≤ 64 := by unfold partsV; omega
def tv (f : Nat → Nat → Int) : Nat → Value := fun i => .int .i64 (f (i / 6) (i % 6))
theorem tv_at (f : Nat → Nat → Int) (p k : Nat) (hk : k < 6) : tv f (p * 6 + k) = .int .i64 (f p k) := by
  unfold tv
  rw [show (p * 6 + k) / 6 = p from by omega, show (p * 6 + k) % 6 = k from by omega]
/-- Counts at b; what each counted at mb. -/
structure Cs (w : World) (b mb N : Nat) (f : Nat → Nat → Int) : Prop where
  row : Row w b 133 #[.slice (some ⟨mb, 0, none⟩) N N]
  tab : Tab w mb 26 (N * 6) (tv f)
  ne : mb ≠ b
  n1 : 1 ≤ N ∧ N ≤ 64
  lo : ∀ p k, 0 ≤ f p k ∧ f p k ≤ 1000
section
variable {w w' : World} {b mb N : Nat} {f : Nat → Nat → Int}
theorem Cs.c0 (h : Cs w b mb N f) : w.cell? ⟨b, 0, none⟩ = some (.slice (some ⟨mb, 0, none⟩) N N) := h.row.c0
theorem Cs.turns {S : Nat → Prop} (h : Cs w b mb N f) (g : Turns w w' S) (hb : ¬ S b) (hm : ¬ S mb) : Cs w' b mb N f := ⟨h.row.turns g hb, h.tab.turns g hm, h.ne, h.n1, h.lo⟩
theorem Cs.call (h : Cs w b mb N f) (g : Below w.heap.size w w') : Cs w' b mb N f := h.turns (Turns.of_below g) (fun h => h) (fun h => h)
theorem Cs.alloc (h : Cs w b mb N f) (o : Obj) : Cs (w.alloc o) b mb N f := ⟨h.row.alloc o, h.tab.alloc o, h.ne, h.n1, h.lo⟩
theorem Cs.cell (h : Cs w b mb N f) {p k : Nat} (hp : p < N) (hk : k < 6) : w.cell? ⟨mb, p * 6 + k, none⟩ = some (.int .i64 (f p k)) := by
  rw [← tv_at f p k hk]; exact h.tab.cell (by omega)
theorem Cs.past (h : Cs w b mb N f) {q : Addr} (hb : b ≠ q.block) (hm : mb ≠ q.block) (u : Value) : Cs (w.setCell q u) b mb N f := ⟨h.row.past hb u, h.tab.past hm u, h.ne, h.n1, h.lo⟩
end
def up2 (f : Nat → Nat → Int) (p k : Nat) (v : Int) : Nat → Nat → Int := fun q j => if q = p ∧ j = k then v else f q j
theorem Cs.put {w : World} {b mb N : Nat} {f : Nat → Nat → Int} (h : Cs w b mb N f) {p k : Nat} (hp : p < N) (hk : k < 6) (v : Int) (hv : 0 ≤ v ∧ v ≤ 1000) : Cs (w.setCell ⟨mb, p * 6 + k, none⟩ (.int .i64 v)) b mb N (up2 f p k v) :=
  ⟨h.row.past (fun e => h.ne e.symm) _, h.tab.put (p * 6 + k) _ (fun i hi hne => by unfold tv up2; rw [if_neg (by omega)]) (fun _ => by rw [tv_at _ _ _ hk]; unfold up2; rw [if_pos ⟨rfl, rfl⟩]), h.ne, h.n1, fun q j => by
    unfold up2; split
    · exact hv
    · exact h.lo q j⟩
theorem arr_info : (Try.prog.info? 26).map (fun i => (i.zero, i.size, i.bytes)) = some (some (.agg #[.int .i64 0, .int .i64 0, .int .i64 0, .int .i64 0, .int .i64 0, .int .i64 0]), 6, 48) := by kernel_rfl
theorem run_make_sh (kl kc : IntKind) (n : Nat) (hn : n ≤ 64) (w : World) :
    (Instr.makeSlice 25 (.int kl (n : Int)) (.int kc (n : Int))).run Try.prog w = .ok (.slice (some ⟨w.heap.size, 0, none⟩) n n) (w.alloc (.cells (madeCells #[.int .i64 0, .int .i64 0, .int .i64 0, .int .i64 0, .int .i64 0, .int .i64 0] (n * 6)) 26)) := by
  obtain ⟨i, hi, hz, hs, hb⟩ := info_parts arr_info
  have hr := run_make (P := Try.prog) w 25 26 i _ Try.underlying25 hi hz kl kc n n (by omega) (Int.le_refl _) (by rw [hb]; omega) (by omega)
  simp only [Int.toNat_natCast, hs, Value.cells] at hr
  exact hr
theorem tab_zero (w : World) (n : Nat) : Tab (w.alloc (.cells (madeCells #[.int .i64 0, .int .i64 0, .int .i64 0, .int .i64 0, .int .i64 0, .int .i64 0] (n * 6)) 26)) w.heap.size 26 (n * 6) (tv fun _ _ => 0) :=
  ⟨_, Row.made _ _ _, size_madeCells _ _, fun i hi => by
    have h6 : i % 6 < 6 := Nat.mod_lt _ (by omega)
    simp only [madeCells, tv]
    rw [Array.getElem?_map, Array.getElem?_range, if_pos hi]
    simp only [Option.map_some]
    rcases (show i % 6 = 0 ∨ i % 6 = 1 ∨ i % 6 = 2 ∨ i % 6 = 3 ∨ i % 6 = 4 ∨ i % 6 = 5 from by omega) with e | e | e | e | e | e <;> simp [e]⟩
theorem new_any (n : Int) (w : World) : Calls Try.prog 15 #[.int .i64 n] w fun e w' => e = .returned (.pointer (some ⟨w.heap.size + 1, 0, none⟩)) ∧ Cs w' (w.heap.size + 1) w.heap.size (partsV n) (fun _ _ => 0) ∧ Below w.heap.size w w' := by
  have hp := partsV_pos n
  have hA : ∀ q, 1 ≤ q → q ≤ 64 → Cs ((w.alloc (.cells (madeCells #[.int .i64 0, .int .i64 0, .int .i64 0, .int .i64 0, .int .i64 0, .int .i64 0] (q * 6)) 26)).alloc (.cells #[.slice (some ⟨w.heap.size, 0, none⟩) q q] 133)) (w.heap.size + 1) w.heap.size q (fun _ _ => 0) := by
    intro q h1 h2
    refine ⟨?_, (tab_zero w _).alloc _, by omega, ⟨h1, h2⟩, fun p k => by omega⟩
    have := Row.made (w.alloc (.cells (madeCells #[.int .i64 0, .int .i64 0, .int .i64 0, .int .i64 0, .int .i64 0, .int .i64 0] (q * 6)) 26)) 133 #[.slice (some ⟨w.heap.size, 0, none⟩) q q]
    rw [World.size_alloc] at this
    exact this
  have HA := Lib.hid hA
  obtain ⟨hp0, hp1⟩ := hp
  have hmk := fun q hq wx => run_make_sh .i64 .i64 q hq wx
  clear hA
  obtain ⟨q, hq⟩ : ∃ q, partsV n = q := ⟨_, rfl⟩
  rw [hq] at hp0 hp1 ⊢
  rcases (show (n < 1 ∧ q = 1) ∨ (1 ≤ n ∧ n ≤ 64 ∧ n = (q : Int)) ∨ (64 < n ∧ q = 64) from by unfold partsV at hq; omega) with ⟨g, rfl⟩ | ⟨g, g1, rfl⟩ | ⟨g, rfl⟩
  · clear hq
    have hmk2 : ∀ wx : World, (Instr.makeSlice 25 (.int .i64 1) (.int .i64 1)).run Try.prog wx = .ok (.slice (some ⟨wx.heap.size, 0, none⟩) 1 1) (wx.alloc (.cells (madeCells #[.int .i64 0, .int .i64 0, .int .i64 0, .int .i64 0, .int .i64 0, .int .i64 0] (1 * 6)) 26)) := hmk 1 (by omega)
    have H1 := Lib.hid (HA.out 1 (by omega) (by omega))
    clear hmk
    go_enter Try.func15, Try.ntmps15
    go_wp2
    go_ret
    exact ⟨rfl, H1.out, by go_grown⟩
  · clear hq
    have hmk2 := hmk q hp1
    have H1 := Lib.hid (HA.out q (by omega) (by omega))
    clear hmk
    go_enter Try.func15, Try.ntmps15
    go_wp2
    go_ret
    exact ⟨rfl, H1.out, by go_grown⟩
  · clear hq
    have hmk2 : ∀ wx : World, (Instr.makeSlice 25 (.int .i64 64) (.int .i64 64)).run Try.prog wx = .ok (.slice (some ⟨wx.heap.size, 0, none⟩) 64 64) (wx.alloc (.cells (madeCells #[.int .i64 0, .int .i64 0, .int .i64 0, .int .i64 0, .int .i64 0, .int .i64 0] (64 * 6)) 26)) := hmk 64 (by omega)
    have H1 := Lib.hid (HA.out 64 (by omega) (by omega))
    clear hmk
    go_enter Try.func15, Try.ntmps15
    go_wp2
    go_ret
    exact ⟨rfl, H1.out, by go_grown⟩
theorem len_nil (w : World) : Calls Try.prog 20 #[.pointer none] w fun e w' => e = .returned (.int .i64 0) ∧ w = w' := by
  go_enter Try.func20, Try.ntmps20
  go_wp2
  go_ret
  exact ⟨rfl, rfl⟩
section
variable (b mb N : Nat) (f : Nat → Nat → Int) (w : World) (h : Cs w b mb N f)
include h
theorem len_any : Calls Try.prog 20 #[.pointer (some ⟨b, 0, none⟩)] w fun e w' => e = .returned (.int .i64 N) ∧ w = w' := by
  have c0 := h.c0
  clear h
  go_enter Try.func20, Try.ntmps20
  go_wp2
  go_ret
  exact ⟨rfl, rfl⟩
set_option maxHeartbeats 1000000 in
theorem of_yes (p : Nat) (hp : p < N) : Calls Try.prog 17 #[.pointer (some ⟨b, 0, none⟩), .int .i64 p] w
    fun e w' => e = .returned (.agg #[.int .i64 (f p 0), .int .i64 (f p 1), .int .i64 (f p 2), .int .i64 (f p 3), .int .i64 (f p 4), .int .i64 (f p 5)]) ∧ Below w.heap.size w w' := by
  have H := Lib.hid (h.alloc (.cells #[.int .i64 0, .int .i64 0, .int .i64 0, .int .i64 0, .int .i64 0, .int .i64 0] 26))
  have c0 := h.c0
  have bl := h.row.lt
  have ml := h.tab.lt
  have d0 := h.cell hp (k := 0) (by omega)
  have d1 := h.cell hp (k := 1) (by omega)
  have d2 := h.cell hp (k := 2) (by omega)
  have d3 := h.cell hp (k := 3) (by omega)
  have d4 := h.cell hp (k := 4) (by omega)
  have d5 := h.cell hp (k := 5) (by omega)
  obtain ⟨hn1, hn2⟩ := h.n1
  rw [Nat.add_zero] at d0
  have hpi : (p : Int) < (N : Int) := by omega
  clear h
  go_enter Try.func17, Try.ntmps17
  go_wp2_with (go_at_call 20; refine (len_any b mb N f _ H.out).mono ?_; rintro e w' ⟨rfl, rfl⟩)
  exact bodyPost_ret (v := .agg #[.int .i64 (f p 0), .int .i64 (f p 1), .int .i64 (f p 2), .int .i64 (f p 3), .int .i64 (f p 4), .int .i64 (f p 5)]) (by simp [results, Try.results17, go_sem]) rfl ⟨rfl, by go_grown⟩
end
end Go.Proofs.Ytjciilnbcmaikaa.Co
