/- Counts: the wake-up. -/
import Derived.Test.YtjciilnbcmaikaaCoE
namespace Go.Proofs.Ytjciilnbcmaikaa.Co
open Go.RowKit Go.Proofs.Ytjciilnbcmaikaa
set_option linter.unusedVariables false
set_option maxRecDepth 100000

theorem sum_is (b mb N : Nat) (f : Nat → Nat → Int) (w : World) (h : Cs w b mb N f) (s0 s1 s2 s3 s4 s5 : Int) (h0 : sm f 0 N = s0) (h1 : sm f 1 N = s1) (h2 : sm f 2 N = s2) (h3 : sm f 3 N = s3) (h4 : sm f 4 N = s4) (h5 : sm f 5 N = s5) :
    Calls Try.prog 19 #[.pointer (some ⟨b, 0, none⟩)] w
    fun e w' => e = .returned (.agg #[.int .i64 s0, .int .i64 s1, .int .i64 s2, .int .i64 s3, .int .i64 s4, .int .i64 s5]) ∧ Below w.heap.size w w' := by
  subst h0 h1 h2 h3 h4 h5
  exact sum_any b mb N f w h
theorem of_is (b mb N : Nat) (f : Nat → Nat → Int) (w : World) (h : Cs w b mb N f) (p : Nat) (hp : p < N) (s0 s1 s2 s3 s4 s5 : Int) (h0 : f p 0 = s0) (h1 : f p 1 = s1) (h2 : f p 2 = s2) (h3 : f p 3 = s3) (h4 : f p 4 = s4) (h5 : f p 5 = s5) :
    Calls Try.prog 17 #[.pointer (some ⟨b, 0, none⟩), .int .i64 p] w
    fun e w' => e = .returned (.agg #[.int .i64 s0, .int .i64 s1, .int .i64 s2, .int .i64 s3, .int .i64 s4, .int .i64 s5]) ∧ Below w.heap.size w w' := by
  subst h0 h1 h2 h3 h4 h5
  exact of_yes b mb N f w h p hp
theorem cell_after {w w' : World} (h : Below w.heap.size w w') {p : Addr} {v : Value} (hv : w.cell? p = some v) : w'.cell? p = some v := (h.cell (World.block_lt_of_cell? w _ hv)).trans hv
theorem part_two : partsV 2 = 2 := rfl
def fw : Nat → Nat → Int := up2 (fun _ _ => 0) 1 1 1
set_option maxHeartbeats 1000000 in
theorem awake_any (w : World) : Calls Try.prog 18 #[] w fun e w' => e = .returned (.bool true) ∧ Below w.heap.size w w' := by
  have q0 := eq6 0 0 0 0 0 0
  go_enter Try.func18, Try.ntmps18
  go_wp2_with fail
  refine (new_any 2 _).mono ?_
  rintro e w1 ⟨rfl, hc, hb⟩
  rw [part_two] at hc
  have HC := Lib.hid hc
  have HB := Lib.hid hb
  clear hc hb
  go_wp2_with fail
  refine (add_yes _ _ _ _ _ HC.out 1 1 (by omega) (by omega) (by omega)).mono ?_
  rintro e w2 ⟨rfl, hc, ht⟩
  have HC2 : Hid (Cs w2 (w.heap.size + 1) w.heap.size 2 fw) := hc
  have HB2 := Lib.hid (ht.below HB.out HB.out.size (fun k hk e => by omega))
  clear hc ht HC HB
  go_wp2_with fail
  refine (sum_is _ _ _ _ _ HC2.out 0 1 0 0 0 0 rfl rfl rfl rfl rfl rfl).mono ?_
  rintro e w3 ⟨rfl, hb⟩
  have HC3 := Lib.hid (HC2.out.call hb)
  have HB3 := Lib.hid (HB2.out.trans (hb.mono HB2.out.size))
  clear hb HC2 HB2
  go_upto_region 4 with fail
  have HC4 := Lib.hid (HC3.out.alloc (.cells #[.int .i64 0, .int .i64 1, .int .i64 0, .int .i64 0, .int .i64 0, .int .i64 0] 26))
  have HB4 := Lib.hid (HB3.out.alloc HB3.out.size (.cells #[.int .i64 0, .int .i64 1, .int .i64 0, .int .i64 0, .int .i64 0, .int .i64 0] 26))
  have R := Row.made w3 26 #[.int .i64 0, .int .i64 1, .int .i64 0, .int .i64 0, .int .i64 0, .int .i64 0]
  have HR := Lib.hid R
  clear R HC3 HB3
  generalize w3.heap.size = x at HR ⊢
  generalize w3.alloc (.cells #[.int .i64 0, .int .i64 1, .int .i64 0, .int .i64 0, .int .i64 0, .int .i64 0] 26) = W at HC4 HB4 HR ⊢
  have c1 : W.cell? ⟨x, 1, none⟩ = some (.int .i64 1) := HR.out.cell 1
  go_wp2_with fail
  refine (of_is _ _ _ _ _ HC4.out 0 (by omega) 0 0 0 0 0 0 rfl rfl rfl rfl rfl rfl).mono ?_
  rintro e w4 ⟨rfl, hb⟩
  have HC5 := Lib.hid (HC4.out.call hb)
  have HB5 := Lib.hid (HB4.out.trans (hb.mono HB4.out.size))
  have HR5 := Lib.hid (HR.out.below hb HR.out.lt)
  clear hb HC4 HB4 c1
  go_wp2_with fail
  refine (add_no _ _ _ _ _ HC5.out 2 0 (by omega)).mono ?_
  rintro e w5 ⟨rfl, rfl⟩
  have c0 : w4.cell? ⟨x, 0, none⟩ = some (.int .i64 0) := HR5.out.cell 0
  have c1 : w4.cell? ⟨x, 1, none⟩ = some (.int .i64 1) := HR5.out.cell 1
  have c2 : w4.cell? ⟨x, 2, none⟩ = some (.int .i64 0) := HR5.out.cell 2
  have c3 : w4.cell? ⟨x, 3, none⟩ = some (.int .i64 0) := HR5.out.cell 3
  have c4 : w4.cell? ⟨x, 4, none⟩ = some (.int .i64 0) := HR5.out.cell 4
  have c5 : w4.cell? ⟨x, 5, none⟩ = some (.int .i64 0) := HR5.out.cell 5
  go_wp2_with fail
  refine (below_any _ _ _ _ _ _ _ _ _ _ _ _ _ true (by decide)).mono ?_
  rintro e w5 ⟨rfl, hb⟩
  have HB6 := Lib.hid (HB5.out.trans (hb.mono HB5.out.size))
  clear hb c0 c1 c2 c3 c4 c5
  go_wp2
  go_ret
  exact ⟨rfl, HB6.out⟩
end Go.Proofs.Ytjciilnbcmaikaa.Co
