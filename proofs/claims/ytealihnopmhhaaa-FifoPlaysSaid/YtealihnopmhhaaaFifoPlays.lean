/- The walk of the law FifoPlays. -/
import Derived.Test.YtealihnopmhhaaaFifoB
import Derived.Test.YtealihnopmhhaaaOpen
import Derived.Deep.DeepCutAuto
import Derived.Deep.LoopGhost
namespace Go.Proofs.Ytealihnopmhhaaa.Fifo
open Go.RowKit Go.Proofs.Ytealihnopmhhaaa
set_option linter.unusedVariables false

set_option maxHeartbeats 1000000 in
theorem awake_any (w : World) : Calls Try.prog 19 #[] w fun e w' => e = .returned (.bool true) ∧ Below w.heap.size w w' := by
  go_enter Try.func19, Try.ntmps19
  go_wp2_with fail
  refine (new_any 1 _ (by decide) (by decide)).mono ?_
  rintro e w1 ⟨rfl, rfl⟩
  have h0 := new_ff w (roomV 1)
  have hz : w.heap.size < (w.alloc (.cells #[.int .i64 (roomV 1), .slice none 0 0] 72)).heap.size := by simp
  have b0 : Below w.heap.size w (w.alloc (.cells #[.int .i64 (roomV 1), .slice none 0 0] 72)) := (Below.refl _ w).alloc (Nat.le_refl _) _
  have H0 := Lib.hid h0
  have B0 := Lib.hid b0
  have Z0 := Lib.hid hz
  clear h0 b0 hz
  generalize w.alloc (.cells #[.int .i64 (roomV 1), .slice none 0 0] 72) = w0 at H0 B0 Z0 ⊢
  go_wp2_with fail
  refine (push_yes w.heap.size (roomV 1) [] none 7 _ H0.out (by decide) (by decide)).mono ?_
  rintro e w1 ⟨rfl, ob1, h1, t1, o1⟩
  have H1 := Lib.hid h1
  have B1 := Lib.hid (t1.below B0.out (by have := Z0.out; omega) (fun k hk e => by rcases e with e | e; omega; cases e))
  have O1 : Hid (∀ k, ob1 = some k → w.heap.size ≤ k) := by
    intro k hk
    rcases o1 with h | h | ⟨g, h, hg⟩
    · rw [h] at hk; cases hk
    · rw [h] at hk; cases hk
    · rw [h] at hk; cases hk; have := Z0.out; omega
  have Z1 : Hid (w.heap.size < w1.heap.size) := Nat.lt_of_lt_of_le Z0.out t1.size
  clear h1 t1 o1
  go_wp2_with fail
  refine (push_no w.heap.size (roomV 1) [7] ob1 8 _ H1.out (by decide)).mono ?_
  rintro e w' ⟨rfl, rfl⟩
  go_wp2_with fail
  refine (pop_yes w.heap.size (roomV 1) 7 [] ob1 _ H1.out (by decide)).mono ?_
  rintro e w2 ⟨rfl, ob2, h2, t2, o2⟩
  have H2 := Lib.hid h2
  have B2 := Lib.hid (t2.below B1.out (by have := Z1.out; omega) (fun k hk e => by
    rcases e with e | e
    · omega
    · have := O1.out k e; omega))
  clear h2 t2 o2
  go_wp2_with fail
  refine (len_any w.heap.size (roomV 1) [] ob2 _ H2.out).mono ?_
  rintro e w' ⟨rfl, rfl⟩
  go_wp2
  go_ret
  exact ⟨rfl, B2.out⟩

/-- What holds between two rounds: the queue and the list have the same things, in memory of the law's own, apart from each other. -/
structure Mid (w0 w : World) (b room : Nat) (zs : List Int) (ob om : Option Nat) (mv : Value) : Prop where
  ff : Ff w b room zs ob
  sg : Seg w 3 1 mv zs.length (zs.map (Value.int .i64)) om
  ap : ∀ k, ob = some k → om ≠ some k
  bo : ∀ k, ob = some k → w0.heap.size ≤ k
  bm : ∀ k, om = some k → w0.heap.size ≤ k
  mb : om ≠ some b
  le : zs.length ≤ room
  bb : w0.heap.size ≤ b
  be : Below w0.heap.size w0 w
section
variable {w0 w w' : World} {b room : Nat} {zs : List Int} {ob om : Option Nat} {mv : Value}
theorem Mid.lt (h : Mid w0 w b room zs ob om mv) : b < w.heap.size := h.ff.lt
/-- A call that put something, or took something. -/
theorem Mid.left {zs' : List Int} (h : Mid w0 w b room zs ob om mv) (g : Left w b room zs' ob w') (hl : zs'.length ≤ room) : ∃ ob', Ff w' b room zs' ob' ∧ Seg w' 3 1 mv zs.length (zs.map (Value.int .i64)) om ∧
    (∀ k, ob' = some k → om ≠ some k) ∧ (∀ k, ob' = some k → w0.heap.size ≤ k) ∧ Below w0.heap.size w0 w' := by
  obtain ⟨ob', h1, h2, h3⟩ := g
  have hz := h.be.size
  refine ⟨ob', h1, h.sg.turns h2 (fun k hk e => ?_), fun k hk e => ?_, fun k hk => ?_, h2.below h.be h.be.size (fun k hk e => ?_)⟩
  · rcases e with e | e
    · exact h.mb (by rw [hk, e])
    · exact h.ap k e hk
  · rcases h3 with e3 | e3 | ⟨g, e3, hg⟩
    · exact h.ap k (by rw [← e3, hk]) e
    · rw [e3] at hk; cases hk
    · rw [e3] at hk; cases hk
      have := h.sg.lt _ e; omega
  · rcases h3 with e3 | e3 | ⟨g, e3, hg⟩
    · exact h.bo k (by rw [← e3, hk])
    · rw [e3] at hk; cases hk
    · rw [e3] at hk; cases hk; omega
  · rcases e with e | e
    · have := h.bb; omega
    · have := h.bo k e; omega
/-- The list has one more. -/
theorem Mid.more {x : Int} {mv' : Value} {om' : Option Nat} (hf : Ff w b room (zs ++ [x]) ob) (ha : ∀ k, ob = some k → om ≠ some k) (hbo : ∀ k, ob = some k → w0.heap.size ≤ k) (hbe : Below w0.heap.size w0 w)
    (hbm : ∀ k, om = some k → w0.heap.size ≤ k) (hmb : om ≠ some b) (hbb : w0.heap.size ≤ b) (hle : zs.length < room)
    (hs : Seg w' 3 1 mv' (zs.length + 1) (zs.map (Value.int .i64) ++ [.int .i64 x]) om') (ht : Turns (w.alloc (.cells #[.int .i64 x] 3)) w' (fun k => om = some k)) (ho : om' = om ∨ ∃ g, om' = some g ∧ (w.alloc (.cells #[.int .i64 x] 3)).heap.size ≤ g) :
    Mid w0 w' b room (zs ++ [x]) ob om' mv' := by
  have hz := hbe.size
  have ht' : Turns w w' (fun k => om = some k) := ((Turns.refl w _).alloc _).trans ht (fun _ _ e => e)
  simp only [World.size_alloc] at ho
  refine ⟨hf.turns ht' hmb (fun k hk e => ha k hk e), by simpa using hs, fun k hk e => ?_, hbo, fun k hk => ?_, fun e => ?_, by simp; omega, hbb, ht'.below hbe hbe.size (fun k hk e => ?_)⟩
  · rcases ho with h | ⟨g, h, hg⟩
    · exact ha k hk (by rw [← h, e])
    · rw [h] at e; cases e; have := hf.olt _ hk; omega
  · rcases ho with h | ⟨g, h, hg⟩
    · exact hbm k (by rw [← h, hk])
    · rw [h] at hk; cases hk; omega
  · rcases ho with h | ⟨g, h, hg⟩
    · exact hmb (by rw [← h, e])
    · rw [h] at e; cases e; have := hf.lt; omega
  · have := hbm k e; omega
end
theorem Mid.less {w0 w : World} {b room : Nat} {r : List Int} {ob om om' : Option Nat} {mv' : Value} (hf : Ff w b room r ob) (ha : ∀ k, ob = some k → om ≠ some k) (hbo : ∀ k, ob = some k → w0.heap.size ≤ k) (hbe : Below w0.heap.size w0 w)
    (hbm : ∀ k, om = some k → w0.heap.size ≤ k) (hmb : om ≠ some b) (hbb : w0.heap.size ≤ b) (hle : r.length < room) (hs : Seg w 3 1 mv' r.length (r.map (Value.int .i64)) om') (ho : om' = om ∨ om' = none) : Mid w0 w b room r ob om' mv' := by
  refine ⟨hf, hs, fun k hk e => ?_, hbo, fun k hk => ?_, fun e => ?_, by omega, hbb, hbe⟩
  · rcases ho with h | h
    · exact ha k hk (by rw [← h, e])
    · rw [h] at e; cases e
  · rcases ho with h | h
    · exact hbm k (by rw [← h, hk])
    · rw [h] at hk; cases hk
  · rcases ho with h | h
    · exact hmb (by rw [← h, e])
    · rw [h] at e; cases e
theorem seg_cells {w : World} {e : TypeId} {g o n cap : Nat} {xs : List Value} {ob : Option Nat} (h : Seg w e 1 (.slice (some ⟨g, o, none⟩) n cap) n xs ob) (hn : 0 < n) : ∀ j u, xs[j]? = some u → w.cell? ⟨g, o + j, none⟩ = some u := by
  obtain ⟨g', o', cap', hv, _, _, _, hc, _⟩ := h.shape hn
  injection hv with e1 _ _
  injection e1 with e1
  injection e1 with e1 e2
  subst e1 e2
  exact hc
theorem seg_rest {w : World} {g o cap : Nat} {x : Int} {r : List Int} {ob : Option Nat} (h : Seg w 3 1 (.slice (some ⟨g, o, none⟩) (x :: r).length cap) (x :: r).length ((x :: r).map (Value.int .i64)) ob) (hc : 1 < cap) :
    Seg w 3 1 (.slice (some ⟨g, o + 1, none⟩) r.length (cap - 1)) r.length (r.map (Value.int .i64)) ob := by
  have := Seg.cut h (k := 1) (by simp) hc
  simpa [Addr.add_lit] using this
theorem last_is (b room : Nat) (zs : List Int) (ob : Option Nat) (y : Int) (w : World) (h : Ff w b room zs ob) (hp : 0 < zs.length) (hl : zs.length ≤ 9223372036854775807) (hy : zs[zs.length - 1]'(by omega) = y) :
    Calls Try.prog 14 #[.pointer (some ⟨b, 0, none⟩)] w fun e w' => e = .returned (.tuple #[.int .i64 y, .bool true]) ∧ w = w' :=
  (last_yes b room zs ob w h hp hl).mono fun _ _ ⟨h1, h2⟩ => ⟨h1.trans (by rw [hy]), h2⟩
theorem at_is (b room : Nat) (zs : List Int) (ob : Option Nat) (i : Nat) (y : Int) (w : World) (h : Ff w b room zs ob) (hi : i < zs.length) (hl : zs.length ≤ 9223372036854775807) (hy : zs[i] = y) :
    Calls Try.prog 18 #[.pointer (some ⟨b, 0, none⟩), .int .i64 i] w fun e w' => e = .returned (.tuple #[.int .i64 y, .bool true]) ∧ w = w' :=
  (at_yes b room zs ob i w h hi hl).mono fun _ _ ⟨h1, h2⟩ => ⟨h1.trans (by rw [hy]), h2⟩
theorem clear_below {w0 w w' : World} {ob : Option Nat} (ho : ∀ k, ob = some k → w0.heap.size ≤ k) (h : Below w0.heap.size w0 w) (t : Turns w w' (fun k => k = w0.heap.size ∨ ob = some k)) : Below w0.heap.size w0 w' :=
  t.below h h.size (fun k hk e => by
    rcases e with e | e
    · omega
    · have := ho k e; omega)
theorem last_cell (x : Int) (r : List Int) : ((x :: r).map (Value.int .i64))[r.length]? = some (.int .i64 ((x :: r)[(x :: r).length - 1]'(by simp))) := by
  rw [List.getElem?_map, List.getElem?_eq_getElem (by simp)]
  rfl
theorem one_cell1 (x : Int) : ∀ u ∈ [Value.int .i64 x], u.oneCell' = true := by simp [Value.oneCell']
theorem full_eq (zs : List Int) (room : Nat) (h : zs.length ≤ room) : decide (room ≤ zs.length) = ((zs.length : Int) == (room : Int)) := by
  rw [Bool.eq_iff_iff]; simp; omega
set_option maxRecDepth 100000 in
set_option maxHeartbeats 8000000 in
theorem plays_law (a : Int) (wa : (Lit.int .i64 a).wf = true) (A : Option Addr) (n c : Nat) (f : Nat → Int) (ln : n ≤ c) (lc : c ≤ 9223372036854775807) (lb : ∀ k, -9223372036854775808 ≤ f k ∧ f k ≤ 9223372036854775807)
    (w : World) (lies : Lies w w.heap.size A n (fun k => .int .i64 (f k))) :
    Calls Try.prog 3 #[.int .i64 a, .slice A n c] w fun e w' => e = .returned (.bool true) ∧ Below w.heap.size w w' := by
  obtain ⟨ha0, ha1⟩ := bounds_i64 wa
  have HL := Lib.hid lies
  have HB := Lib.hid lb
  have HR := Lib.hid (roomV_int a)
  have hrp := roomV_pos a
  clear lies lb wa
  obtain ⟨i0, hi0, hz0, hz1, hz2⟩ := info_parts int_info
  go_enter Try.func3, Try.ntmps3
  go_wp2_with fail
  refine (new_any a _ ha0 ha1).mono ?_
  rintro e w1 ⟨rfl, rfl⟩
  have h0 := new_ff w (roomV a)
  generalize roomV a = room at HR hrp h0 ⊢
  obtain ⟨hr1, hr2⟩ := hrp
  go_upto_region 2 with fail
  go_cut [7] (fun s7 wx => s7 = .int .i64 room ∧ wx = (w.alloc (.cells #[.int .i64 room, .slice none 0 0] 72)).alloc (.cells #[] 3))
  case first =>
    rcases (show (a < 1 ∧ (room : Int) = 1) ∨ (1 ≤ a ∧ a ≤ 1024 ∧ (room : Int) = a) ∨ (1024 < a ∧ (room : Int) = 1024) from by have := HR.out; omega) with ⟨g, hv⟩ | ⟨g, g1, hv⟩ | ⟨g, hv⟩
    all_goals
      have HV := Lib.hid hv
      clear hv
      go_wp2
      go_meet
      exact ⟨by rw [HV.out], rfl⟩
  case rest =>
    obtain ⟨rfl, rfl⟩ := hcut
    have hm0 : Mid w ((w.alloc (.cells #[.int .i64 room, .slice none 0 0] 72)).alloc (.cells #[] 3)) w.heap.size room [] none none (.slice (some ⟨w.heap.size + 1, 0, none⟩) 0 0) :=
      ⟨h0.alloc _, ⟨by simp, _, 0, rfl, Nat.le_refl _, by unfold maxLen; omega, .inl ⟨rfl, rfl, fun _ => trivial⟩⟩, (fun _ h => by cases h), (fun _ h => by cases h), (fun _ h => by cases h), by simp, by simp, Nat.le_refl _, ((Below.refl _ w).alloc (Nat.le_refl _) _).alloc (by simp) _⟩
    have HM0 := Lib.hid hm0
    clear hm0 h0
    generalize (w.alloc (.cells #[.int .i64 room, .slice none 0 0] 72)).alloc (.cells #[] 3) = w0 at HM0 ⊢
    go_wp2
    go_loopg [6, 8] n (fun gk mv i wr => ∃ (j : Nat) (zs : List Int) (ob om : Option Nat), j + gk = n ∧ i = .int .i64 j ∧ Hid (Mid w wr w.heap.size room zs ob om mv))
    case atStart => exact ⟨0, [], none, none, by omega, rfl, HM0⟩
    case round =>
      obtain ⟨j, zs, ob, om, hj, rfl, hm⟩ := hrel
      by_cases hjn : j < n
      · by_cases h80 : j < 80
        · have e80 : decide ((j : Int) < 80) = true := by simp; omega
          obtain ⟨g, o, rfl, hg, hcell⟩ := HL.out j hjn
          have hcj : wr.cell? ⟨g, o + j, none⟩ = some (.int .i64 (f j)) := (hm.out.be.cell (p := ⟨g, o + j, none⟩) hg).trans hcell
          have hcell0 := hcell
          clear hcell
          have HCELL := Lib.hid hcell0
          clear hcell0
          have hle := hm.out.le
          have hbl := hm.out.lt
          go_upto_if 41 with fail
          go_cut [6] (fun mv wc => ∃ (zs' : List Int) (ob' om' : Option Nat), Hid (Mid w wc w.heap.size room zs' ob' om' mv))
          case first =>
            by_cases hbit : 0 < bits BinOp.and IntKind.i64 (f j) 3
            · obtain ⟨Am, capm, rfl, _, _⟩ := hm.out.sg.form
              rcases Nat.lt_or_ge zs.length room with hlt | hge
              · have eL : decide ((zs.length : Int) < (room : Int)) = true := by simp; omega
                go_wp2_with (first
                  | (go_at_call 11; refine (push_yes w.heap.size room zs ob (f j) _ hm.out.ff hlt hr2).mono ?_; rintro e w1 ⟨rfl, hl1⟩; obtain ⟨ob1, hf1, hs1, hap1, hbo1, hbe1⟩ := Mid.left hm.out hl1 (by simp; omega); have hcj1 : w1.cell? ⟨g, o + j, none⟩ = some (.int .i64 (f j)) := (hbe1.cell (p := ⟨g, o + j, none⟩) hg).trans HCELL.out; have HS1 := Lib.hid hs1; have HF1 := Lib.hid hf1; have HA1 := Lib.hid hap1; have HBO1 := Lib.hid hbo1; have HBE1 := Lib.hid hbe1; clear hs1 hf1 hap1 hbo1 hbe1 hl1)
                  | (at_builtin; refine wpList_append_seg _ rfl _ _ 22 rfl 3 i0 (.int .i64 0) 1 8 Try.underlying22 hi0 hz0 hz1 hz2 rfl (by decide) _ _ _ _ rfl (HS1.out.alloc _) ⟨w1.heap.size, 0, none⟩ 1 1 [.int .i64 (f j)] rfl rfl (one_news _ _) (one_cell1 _) (by decide) (by unfold maxLen; omega) (by omega) ?_; intro mv2 w2 om2 hs2 ht2 ho2; have HM2 := Lib.hid (Mid.more HF1.out HA1.out HBO1.out HBE1.out hm.out.bm hm.out.mb hm.out.bb hlt hs2 ht2 ho2); clear hs2 ht2 ho2))
                go_meet
                exact ⟨_, _, _, HM2⟩
              · have eL : decide ((zs.length : Int) < (room : Int)) = false := by simp; omega
                go_wp2_with (first
                  | (go_at_call 11; refine (push_no w.heap.size room zs ob (f j) _ hm.out.ff hge).mono ?_; rintro e w1 ⟨rfl, rfl⟩))
                go_meet
                exact ⟨_, _, _, hm⟩
            · have hbit' : bits BinOp.and IntKind.i64 (f j) 3 ≤ 0 := by omega
              clear hbit
              cases zs with
              | nil =>
                obtain ⟨Am, capm, rfl, _, _⟩ := hm.out.sg.form
                go_wp2_with (first
                  | (go_at_call 12; refine (pop_no w.heap.size room ob _ hm.out.ff).mono ?_; rintro e w1 ⟨rfl, rfl⟩))
                go_meet
                exact ⟨_, _, _, hm⟩
              | cons x r =>
                obtain ⟨gm, om0, capm, rfl, hgm, hcm, _, _⟩ := hm.out.sg.shape (by simp)
                have hlr : r.length < room := by simp only [List.length_cons] at hle; omega
                have hl9 : (x :: r).length ≤ 9223372036854775807 := by omega
                clear hgm
                rcases (show (capm = 1 ∧ r = []) ∨ 1 < capm from by
                  by_cases h : capm = 1
                  · exact .inl ⟨h, List.eq_nil_of_length_eq_zero (by simp only [List.length_cons] at hcm; omega)⟩
                  · exact .inr (by simp only [List.length_cons] at hcm; omega)) with ⟨rfl, rfl⟩ | hcap
                · go_wp2_with (first
                    | (go_at_call 12; refine (pop_yes w.heap.size room x [] ob _ hm.out.ff hl9).mono ?_; rintro e w1 ⟨rfl, hl1⟩; obtain ⟨ob1, hf1, hs1, hap1, hbo1, hbe1⟩ := Mid.left hm.out hl1 (by simp); have hc0 : w1.cell? ⟨gm, om0, none⟩ = some (.int .i64 x) := seg_cells hs1 (by simp) 0 _ (by simp); have HM2 := Lib.hid (Mid.less hf1 hap1 hbo1 hbe1 hm.out.bm hm.out.mb hm.out.bb hlr (seg_none w1 3 (some ⟨gm, om0, none⟩)) (.inr rfl)); clear hs1 hf1 hap1 hbo1 hbe1 hl1))
                  go_meet
                  exact ⟨_, _, _, HM2⟩
                · go_wp2_with (first
                    | (go_at_call 12; refine (pop_yes w.heap.size room x r ob _ hm.out.ff hl9).mono ?_; rintro e w1 ⟨rfl, hl1⟩; obtain ⟨ob1, hf1, hs1, hap1, hbo1, hbe1⟩ := Mid.left hm.out hl1 (by omega); have hc0 : w1.cell? ⟨gm, om0, none⟩ = some (.int .i64 x) := seg_cells hs1 (by simp) 0 _ (by simp); have HM2 := Lib.hid (Mid.less hf1 hap1 hbo1 hbe1 hm.out.bm hm.out.mb hm.out.bb hlr (seg_rest hs1 hcap) (.inl rfl)); clear hs1 hf1 hap1 hbo1 hbe1 hl1))
                  go_meet
                  exact ⟨_, _, _, HM2⟩
          case rest =>
            clear hm hle hbl hcj HCELL
            obtain ⟨zs', ob', om', hm'⟩ := hcut
            have hle' := hm'.out.le
            cases zs' with
            | nil =>
              obtain ⟨Am, capm, rfl, _, _⟩ := hm'.out.sg.form
              have eF := full_eq [] room hle'
              have EF := Lib.hid eF
              clear eF
              go_wp2_with (first
                | (go_at_call 13; refine (peek_no w.heap.size room ob' _ hm'.out.ff).mono ?_; rintro e w1 ⟨rfl, rfl⟩)
                | (go_at_call 14; refine (last_no w.heap.size room ob' _ hm'.out.ff).mono ?_; rintro e w1 ⟨rfl, rfl⟩)
                | (go_at_call 15; refine (len_any w.heap.size room _ ob' _ hm'.out.ff).mono ?_; rintro e w1 ⟨rfl, rfl⟩)
                | (go_at_call 16; refine (full_any w.heap.size room _ ob' _ _ hm'.out.ff EF.out).mono ?_; rintro e w1 ⟨rfl, rfl⟩)
                | (go_at_call 17; refine (room_any w.heap.size room _ ob' _ hm'.out.ff).mono ?_; rintro e w1 ⟨rfl, rfl⟩))
              go_roundg (gk - 1)
              case measure => omega
              case rel => exact ⟨j + 1, [], ob', om', by omega, by go_num, hm'⟩
            | cons x r =>
              obtain ⟨gm, om0, capm, rfl, hgm, hcm, _, hcells, _⟩ := hm'.out.sg.shape (by simp)
              have hc0 : wc.cell? ⟨gm, om0, none⟩ = some (.int .i64 x) := hcells 0 _ (by simp)
              obtain ⟨y, hy⟩ : ∃ y, (x :: r)[(x :: r).length - 1]'(by simp) = y := ⟨_, rfl⟩
              have hcy : wc.cell? ⟨gm, om0 + r.length, none⟩ = some (.int .i64 y) := hcells r.length _ (by rw [← hy]; exact last_cell x r)
              have HY := Lib.hid hy
              have hl9 : (x :: r).length ≤ 9223372036854775807 := by omega
              have EF := Lib.hid (full_eq (x :: r) room hle')
              have hrl : r.length ≤ 1024 := by simp only [List.length_cons] at hle'; omega
              clear hy hgm hcells
              go_wp2_with (first
                | (go_at_call 13; refine (peek_yes w.heap.size room x r ob' _ hm'.out.ff hl9).mono ?_; rintro e w1 ⟨rfl, rfl⟩)
                | (go_at_call 14; refine (last_is w.heap.size room (x :: r) ob' y _ hm'.out.ff (by simp) hl9 HY.out).mono ?_; rintro e w1 ⟨rfl, rfl⟩)
                | (go_at_call 15; refine (len_any w.heap.size room _ ob' _ hm'.out.ff).mono ?_; rintro e w1 ⟨rfl, rfl⟩)
                | (go_at_call 16; refine (full_any w.heap.size room _ ob' _ _ hm'.out.ff EF.out).mono ?_; rintro e w1 ⟨rfl, rfl⟩)
                | (go_at_call 17; refine (room_any w.heap.size room _ ob' _ hm'.out.ff).mono ?_; rintro e w1 ⟨rfl, rfl⟩))
              go_roundg (gk - 1)
              case measure => omega
              case rel => exact ⟨j + 1, x :: r, ob', om', by omega, by go_num, hm'⟩
        · have e80 : decide ((j : Int) < 80) = false := by simp; omega
          obtain ⟨Am, capm, rfl, _, _⟩ := hm.out.sg.form
          have hle := hm.out.le
          have hl9 : zs.length ≤ 9223372036854775807 := by omega
          go_wp2
          go_loop [15] (fun i => ∃ q : Nat, q ≤ zs.length ∧ i = .int .i64 q) (fun i => zs.length - (intOf i).toNat)
          case atStart => exact ⟨0, by omega, rfl⟩
          case round =>
            obtain ⟨q, hq, rfl⟩ := hrel
            by_cases hql : q < zs.length
            · obtain ⟨gm, om0, capm', hv, _, _, _, hcells, _⟩ := hm.out.sg.shape (by omega)
              injection hv with e1 e2 e3
              subst e1 e3
              have hcq : wr.cell? ⟨gm, om0 + q, none⟩ = some (.int .i64 zs[q]) := hcells q _ (by simp [hql])
              clear hcells
              go_wp2_with (go_at_call 18; refine (at_is w.heap.size room zs ob q _ _ hm.out.ff hql hl9 rfl).mono ?_; rintro e w1 ⟨rfl, rfl⟩)
              go_round
              case rel => exact ⟨q + 1, by omega, by go_num⟩
              case measure => simp [intOf]; omega
            · go_wp2_with (first
                | (go_at_call 18; refine (at_no w.heap.size room zs ob _ _ hm.out.ff (.inr (by omega))).mono ?_; rintro e w1 ⟨rfl, rfl⟩)
                | (go_at_call 19; refine (awake_any _).mono ?_; rintro e w1 ⟨rfl, hb1⟩; have HF1 := Lib.hid (Ff.turns hm.out.ff (Turns.of_below hb1) (fun h => h) (fun _ _ h => h)); have HB1 := Lib.hid (hm.out.be.trans (hb1.mono hm.out.be.size)); clear hb1)
                | (go_at_call 20; refine (clear_any w.heap.size room zs ob _ HF1.out).mono ?_; rintro e w2 ⟨rfl, ob2, hf2, ht2, _⟩; have HF2 := Lib.hid hf2; have HB2 := Lib.hid (clear_below hm.out.bo HB1.out ht2); clear hf2 ht2)
                | (go_at_call 15; refine (len_any w.heap.size room [] ob2 _ HF2.out).mono ?_; rintro e w3 ⟨rfl, rfl⟩))
              go_ret
              exact ⟨rfl, HB2.out⟩
      · have tok : True := trivial
        obtain ⟨Am, capm, rfl, _, _⟩ := hm.out.sg.form
        have hle := hm.out.le
        have hl9 : zs.length ≤ 9223372036854775807 := by omega
        go_wp2
        go_loop [15] (fun i => ∃ q : Nat, q ≤ zs.length ∧ i = .int .i64 q) (fun i => zs.length - (intOf i).toNat)
        case atStart => exact ⟨0, by omega, rfl⟩
        case round =>
          obtain ⟨q, hq, rfl⟩ := hrel
          by_cases hql : q < zs.length
          · obtain ⟨gm, om0, capm', hv, _, _, _, hcells, _⟩ := hm.out.sg.shape (by omega)
            injection hv with e1 e2 e3
            subst e1 e3
            have hcq : wr.cell? ⟨gm, om0 + q, none⟩ = some (.int .i64 zs[q]) := hcells q _ (by simp [hql])
            clear hcells
            go_wp2_with (go_at_call 18; refine (at_is w.heap.size room zs ob q _ _ hm.out.ff hql hl9 rfl).mono ?_; rintro e w1 ⟨rfl, rfl⟩)
            go_round
            case rel => exact ⟨q + 1, by omega, by go_num⟩
            case measure => simp [intOf]; omega
          · go_wp2_with (first
              | (go_at_call 18; refine (at_no w.heap.size room zs ob _ _ hm.out.ff (.inr (by omega))).mono ?_; rintro e w1 ⟨rfl, rfl⟩)
              | (go_at_call 19; refine (awake_any _).mono ?_; rintro e w1 ⟨rfl, hb1⟩; have HF1 := Lib.hid (Ff.turns hm.out.ff (Turns.of_below hb1) (fun h => h) (fun _ _ h => h)); have HB1 := Lib.hid (hm.out.be.trans (hb1.mono hm.out.be.size)); clear hb1)
              | (go_at_call 20; refine (clear_any w.heap.size room zs ob _ HF1.out).mono ?_; rintro e w2 ⟨rfl, ob2, hf2, ht2, _⟩; have HF2 := Lib.hid hf2; have HB2 := Lib.hid (clear_below hm.out.bo HB1.out ht2); clear hf2 ht2)
              | (go_at_call 15; refine (len_any w.heap.size room [] ob2 _ HF2.out).mono ?_; rintro e w3 ⟨rfl, rfl⟩))
            go_ret
            exact ⟨rfl, HB2.out⟩
end Go.Proofs.Ytealihnopmhhaaa.Fifo
