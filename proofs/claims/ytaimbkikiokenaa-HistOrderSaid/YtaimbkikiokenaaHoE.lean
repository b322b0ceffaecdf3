/- slices.SortStableFunc of up to 20 things. -/
import Derived.Test.YtaimbkikiokenaaHoD
namespace Go.Proofs.Ytaimbkikiokenaa.Hi
open Go.RowKit Go.Proofs.Ytaimbkikiokenaa Go.Maps
set_option linter.unusedVariables false
set_option maxRecDepth 100000
theorem ins_none (A : Option Addr) (n c : Nat) (v : Value) (w : World) :
    Calls Try.prog 128 #[.slice A n c, .int .i64 20, .int .i64 20, v] w fun e w' => e = .returned (.tuple #[]) ∧ w = w' := by
  go_enter Try.func128, Try.ntmps128
  go_wp2
  refine wp_loop_rounds 1 ?_
  rw [rounds_succ]
  go_wp2
  go_end0
  exact ⟨rfl, rfl⟩
set_option maxHeartbeats 1000000 in
theorem stable_any (g o n cap : Nat) (L : List Sp) (w : World) (h : DL w g o L) (hg : g < w.heap.size) (hn : L.length = n) (hcap : n ≤ cap) (hn9 : n ≤ 1000) (hc9 : cap ≤ 9223372036854775807) (h20 : n ≤ 20) :
    Calls Try.prog 118 #[.slice (some ⟨g, o, none⟩) n cap, .int .i64 n, .func (.func 89) #[] #[]] w fun e w' => e = .returned (.tuple #[]) ∧ Turns w w' (fun k => k = g) ∧ DL w' g o (isort L) := by
  have HI := Lib.hid (ins_all g o n cap L w h hg hn hcap hn9 hc9)
  clear h hg hn
  by_cases hlt : n < 20
  · have h1 : ¬ (20 : Int) ≤ (n : Int) := by omega
    have h2 : ¬ (20 : Int) < (n : Int) := by omega
    clear hlt h20
    go_enter Try.func118, Try.ntmps118
    go_wp2
    refine wp_loop_rounds 1 ?_
    rw [rounds_succ]
    go_wp2_with fail
    refine HI.out.mono ?_
    rintro e w1 ⟨rfl, hT, hD⟩
    have HT := Lib.hid hT
    have HD := Lib.hid hD
    clear hT hD
    go_wp2
    refine wp_loop_rounds 1 ?_
    rw [rounds_succ]
    go_wp2
    go_end0
    exact ⟨rfl, HT.out, HD.out⟩
  · obtain rfl : n = 20 := by omega
    clear hlt h20
    go_enter Try.func118, Try.ntmps118
    go_wp2
    refine wp_loop_rounds 2 ?_
    rw [rounds_succ]
    go_wp2_with fail
    refine HI.out.mono ?_
    rintro e w1 ⟨rfl, hT, hD⟩
    have HT := Lib.hid hT
    have HD := Lib.hid hD
    clear hT hD
    go_wp2
    rw [rounds_succ]
    go_wp2_with fail
    refine (ins_none _ _ _ _ _).mono ?_
    rintro e w2 ⟨rfl, rfl⟩
    go_wp2
    refine wp_loop_rounds 1 ?_
    rw [rounds_succ]
    go_wp2
    go_end0
    exact ⟨rfl, HT.out, HD.out⟩
theorem sort_any (g o n cap : Nat) (L : List Sp) (w : World) (h : DL w g o L) (hg : g < w.heap.size) (hn : L.length = n) (hcap : n ≤ cap) (hn9 : n ≤ 1000) (hc9 : cap ≤ 9223372036854775807) (h20 : n ≤ 20) :
    Calls Try.prog 88 #[.slice (some ⟨g, o, none⟩) n cap, .func (.func 89) #[] #[]] w fun e w' => e = .returned (.tuple #[]) ∧ Turns w w' (fun k => k = g) ∧ DL w' g o (isort L) := by
  have HI := Lib.hid (stable_any g o n cap L w h hg hn hcap hn9 hc9 h20)
  clear h hg hn
  go_enter Try.func88, Try.ntmps88
  go_wp2_with fail
  refine HI.out.mono ?_
  rintro e w1 ⟨rfl, hT, hD⟩
  have HT := Lib.hid hT
  have HD := Lib.hid hD
  clear hT hD
  go_wp2
  go_end0
  exact ⟨rfl, HT.out, HD.out⟩
end Go.Proofs.Ytaimbkikiokenaa.Hi
