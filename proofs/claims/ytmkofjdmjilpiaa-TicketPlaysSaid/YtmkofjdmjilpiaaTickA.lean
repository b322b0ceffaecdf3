/- A lock's line of ints: what is in it, and its calls that only look. -/
import Derived.Test.YtmkofjdmjilpiaaTab
namespace Go.Proofs.Ytmkofjdmjilpiaa.Tick
open Go.RowKit Go.Proofs.Ytmkofjdmjilpiaa
set_option linter.unusedVariables false

/-- A slice whose ints are zs. -/
def Zs (w : World) (A : Option Addr) (zs : List Int) : Prop := ∀ k (h : k < zs.length), ∃ g o, A = some ⟨g, o, none⟩ ∧ w.cell? ⟨g, o + k, none⟩ = some (.int .i64 zs[k])
def IdxR (zs : List Int) (x : Int) (w : World) (e : Ending) (w' : World) : Prop := w = w' ∧ ((x ∉ zs ∧ e = .returned (.int .i64 (-1))) ∨ (x ∈ zs ∧ ∃ k : Nat, k < zs.length ∧ e = .returned (.int .i64 k)))
theorem idx_hit {zs : List Int} {x : Int} {w : World} {k : Nat} (h : k < zs.length) (e : zs[k] = x) : IdxR zs x w (.returned (.int .i64 k)) w := ⟨rfl, .inr ⟨by rw [← e]; exact List.getElem_mem h, k, h, rfl⟩⟩
theorem idx_miss {zs : List Int} {x : Int} {w : World} (h : ∀ j (hj : j < zs.length), zs[j] ≠ x) : IdxR zs x w (.returned (.int .i64 (-1))) w := ⟨rfl, .inl ⟨fun hx => by obtain ⟨j, hj, e⟩ := List.getElem_of_mem hx; exact h j hj e, rfl⟩⟩
set_option maxHeartbeats 400000 in
theorem index_any (A : Option Addr) (c : Nat) (zs : List Int) (x : Int) (w : World) (hz : Zs w A zs) (hm : zs.length ≤ 9223372036854775807) :
    Calls Try.prog 66 #[.slice A zs.length c, .int .i64 x] w (IdxR zs x w) := by
  have HZ := Lib.hid hz
  clear hz
  go_enter Try.func66, Try.ntmps66
  go_wp2
  go_loop [8] (fun i => ∃ k : Nat, k ≤ zs.length ∧ i = .int .i64 k ∧ Hid (∀ j (hj : j < zs.length), j < k → zs[j] ≠ x)) (fun i => zs.length - (intOf i).toNat)
  case atStart => exact ⟨0, by omega, rfl, fun _ _ h => absurd h (by omega)⟩
  case round =>
    obtain ⟨k, hk, rfl, hno⟩ := hrel
    by_cases hlt : k < zs.length
    · obtain ⟨g, o, rfl, hc⟩ := HZ.out k hlt
      by_cases hx : zs[k] = x
      · have ex : (x == zs[k]) = true := by simpa using hx.symm
        have HX := Lib.hid hx
        clear hx
        go_wp2
        go_ret
        exact idx_hit hlt HX.out
      · have ex : (x == zs[k]) = false := by simpa using fun h => hx h.symm
        have HX := Lib.hid hx
        clear hx
        go_wp2
        go_round
        case rel => exact ⟨k + 1, by omega, by go_num, fun j hj hlt' => by
          by_cases e : j = k
          · subst e; exact HX.out
          · exact hno.out j hj (by omega)⟩
        case measure => simp [intOf]; omega
    · go_wp2
      go_ret
      exact idx_miss (fun j hj => hno.out j hj (by omega))
theorem contains_any (A : Option Addr) (c : Nat) (zs : List Int) (x : Int) (w : World) (hz : Zs w A zs) (hm : zs.length ≤ 9223372036854775807) (r : Bool) (hr : decide (x ∈ zs) = r) :
    Calls Try.prog 61 #[.slice A zs.length c, .int .i64 x] w fun e w' => e = .returned (.bool r) ∧ w = w' := by
  have HR := Lib.hid hr
  clear hr
  go_enter Try.func61, Try.ntmps61
  go_wp2_with fail
  refine (index_any A c zs x _ hz hm).mono ?_
  rintro e w' ⟨rfl, ⟨hn, rfl⟩ | ⟨hn, k, hk, rfl⟩⟩
  · have HN := Lib.hid hn
    clear hn
    go_wp2
    go_ret
    exact ⟨ret_bool (by rw [← HR.out, decide_eq_false HN.out]), rfl⟩
  · have HN := Lib.hid hn
    clear hn
    go_wp2
    go_ret
    exact ⟨ret_bool (by rw [← HR.out, decide_eq_true HN.out]), rfl⟩

/-- A lock: who has it, then who waits, in a line; how often it was had; its line lies in block ob. -/
def Lk (w : World) (b : Nat) (zs : List Int) (t : Nat) (ob : Option Nat) : Prop :=
  ∃ v, Row w b 78 #[v, .int .i64 t] ∧ Seg w 3 1 v zs.length (zs.map (Value.int .i64)) ob
section
variable {w w' : World} {b t : Nat} {zs : List Int} {ob : Option Nat}
theorem seg_zs {A : Option Addr} {n c : Nat} (h : Seg w 3 1 (.slice A n c) zs.length (zs.map (Value.int .i64)) ob) : Zs w A zs := by
  intro k hk
  obtain ⟨g, o, cap, hv, _, _, _, hc, _⟩ := h.shape (by omega)
  injection hv with e1 _ _
  exact ⟨g, o, e1, hc k _ (by simp [hk])⟩
theorem Lk.ne (h : Lk w b zs t ob) : ob ≠ some b := by
  obtain ⟨v, hr, _, A, cap, _, _, _, ⟨_, h2, _⟩ | ⟨g, o, cur, _, h2, h3, _⟩⟩ := h
  · rw [h2]; simp
  · rw [h2]
    intro e
    injection e with e
    subst e
    unfold Row at hr
    rw [hr] at h3
    injection h3 with h3
    injection h3 with _ h3
    exact absurd h3 (by decide)
theorem Lk.turns {S : Nat → Prop} (h : Lk w b zs t ob) (g : Turns w w' S) (hb : ¬ S b) (ho : ∀ k, ob = some k → ¬ S k) : Lk w' b zs t ob := by
  obtain ⟨v, hr, hs⟩ := h
  exact ⟨v, hr.turns g hb, hs.turns g ho⟩
theorem Lk.lt (h : Lk w b zs t ob) : b < w.heap.size := by
  obtain ⟨v, hr, _⟩ := h
  exact hr.lt
theorem Lk.olt (h : Lk w b zs t ob) : ∀ k, ob = some k → k < w.heap.size := by
  obtain ⟨v, _, hs⟩ := h
  exact hs.lt
theorem Lk.alloc (h : Lk w b zs t ob) (o : Obj) : Lk (w.alloc o) b zs t ob := by
  obtain ⟨v, hr, hs⟩ := h
  exact ⟨v, hr.alloc o, hs.alloc o⟩
theorem Lk.drewN (h : Lk w b zs t ob) (n : Nat) : Lk (w.drewN n) b zs t ob := h
end
theorem int_info : (Try.prog.info? 3).map (fun i => (i.zero, i.size, i.bytes)) = some (some (.int .i64 0), 1, 8) := by kernel_rfl
theorem new_any (w : World) : Calls Try.prog 25 #[] w fun e w' => e = .returned (.pointer (some ⟨w.heap.size, 0, none⟩)) ∧ w' = w.alloc (.cells #[.slice none 0 0, .int .i64 0] 78) := by
  go_enter Try.func25, Try.ntmps25
  go_wp2
  go_ret
  exact ⟨rfl, rfl⟩
theorem new_lk (w : World) : Lk (w.alloc (.cells #[.slice none 0 0, .int .i64 0] 78)) w.heap.size [] 0 none := ⟨_, Row.made _ _ _, Seg.nil _ _ _⟩
def whoV : List Int → Int
  | [] => -1
  | x :: _ => x
theorem who_any (b t : Nat) (zs : List Int) (ob : Option Nat) (w : World) (h : Lk w b zs t ob) (hl : zs.length ≤ 9223372036854775807) :
    Calls Try.prog 28 #[.pointer (some ⟨b, 0, none⟩)] w fun e w' => e = .returned (.int .i64 (whoV zs)) ∧ w = w' := by
  obtain ⟨v, hr, hs⟩ := h
  cases zs with
  | nil =>
    obtain ⟨A, cap, rfl, hn, hc⟩ := hs.form
    have c0 : w.cell? ⟨b, 0, none⟩ = some (.slice A 0 cap) := (hr.cell 0).trans rfl
    clear hr hs
    go_enter Try.func28, Try.ntmps28
    go_wp2
    go_ret
    exact ⟨rfl, rfl⟩
  | cons x r =>
    obtain ⟨g, o, cap, rfl, ho, hn, _, hc, _⟩ := hs.shape (by simp)
    have c0 : w.cell? ⟨b, 0, none⟩ = some (.slice (some ⟨g, o, none⟩) (x :: r).length cap) := (hr.cell 0).trans rfl
    have c1 : w.cell? ⟨g, o, none⟩ = some (.int .i64 x) := hc 0 _ (by simp)
    have e0 : (((x :: r).length : Int) == 0) = false := by simp; omega
    clear hr hs hc ho
    go_enter Try.func28, Try.ntmps28
    go_wp2
    go_ret
    exact ⟨rfl, rfl⟩
theorem who_nil (w : World) : Calls Try.prog 28 #[.pointer none] w fun e w' => e = .returned (.int .i64 (-1)) ∧ w = w' := by
  go_enter Try.func28, Try.ntmps28
  go_wp2
  go_ret
  exact ⟨rfl, rfl⟩
theorem waiting_any (b t : Nat) (zs : List Int) (ob : Option Nat) (w : World) (h : Lk w b zs t ob) (hl : zs.length ≤ 9223372036854775807) :
    Calls Try.prog 29 #[.pointer (some ⟨b, 0, none⟩)] w fun e w' => e = .returned (.int .i64 ((zs.length - 1 : Nat) : Int)) ∧ w = w' := by
  obtain ⟨v, hr, hs⟩ := h
  obtain ⟨A, cap, rfl, hn, hc⟩ := hs.form
  have c0 : w.cell? ⟨b, 0, none⟩ = some (.slice A zs.length cap) := (hr.cell 0).trans rfl
  clear hr hs
  rcases Nat.eq_zero_or_pos zs.length with h0 | h0
  · obtain rfl : zs = [] := List.eq_nil_of_length_eq_zero h0
    go_enter Try.func29, Try.ntmps29
    go_wp2
    go_ret
    exact ⟨rfl, rfl⟩
  · go_enter Try.func29, Try.ntmps29
    go_wp2
    go_ret
    exact ⟨ret_int' .i64 (by omega), rfl⟩
theorem waiting_nil (w : World) : Calls Try.prog 29 #[.pointer none] w fun e w' => e = .returned (.int .i64 0) ∧ w = w' := by
  go_enter Try.func29, Try.ntmps29
  go_wp2
  go_ret
  exact ⟨rfl, rfl⟩
theorem times_any (b t : Nat) (zs : List Int) (ob : Option Nat) (w : World) (h : Lk w b zs t ob) :
    Calls Try.prog 30 #[.pointer (some ⟨b, 0, none⟩)] w fun e w' => e = .returned (.int .i64 t) ∧ w = w' := by
  obtain ⟨v, hr, hs⟩ := h
  have c1 : w.cell? ⟨b, 1, none⟩ = some (.int .i64 t) := (hr.cell 1).trans rfl
  clear hr hs
  go_enter Try.func30, Try.ntmps30
  go_wp2
  go_ret
  exact ⟨rfl, rfl⟩
theorem times_nil (w : World) : Calls Try.prog 30 #[.pointer none] w fun e w' => e = .returned (.int .i64 0) ∧ w = w' := by
  go_enter Try.func30, Try.ntmps30
  go_wp2
  go_ret
  exact ⟨rfl, rfl⟩
theorem waits_any (b t : Nat) (zs : List Int) (ob : Option Nat) (x : Int) (w : World) (h : Lk w b zs t ob) (hl : zs.length ≤ 9223372036854775807) (q : Bool) (hq : decide (x ∈ zs.drop 1) = q) :
    Calls Try.prog 31 #[.pointer (some ⟨b, 0, none⟩), .int .i64 x] w fun e w' => e = .returned (.bool q) ∧ w = w' := by
  have H := Lib.hid h
  have HQ := Lib.hid hq
  obtain ⟨v, hr, hs⟩ := h
  rcases Nat.lt_or_ge 1 zs.length with h1 | h1
  · obtain ⟨g, o, cap, rfl, ho, hn, _, hc, _⟩ := hs.shape (by omega)
    have c0 : w.cell? ⟨b, 0, none⟩ = some (.slice (some ⟨g, o, none⟩) zs.length cap) := (hr.cell 0).trans rfl
    have hz : Zs w (some ⟨g, o + 1, none⟩) (zs.drop 1) := fun k hk => ⟨g, o + 1, rfl, by
      rw [List.length_drop] at hk
      have := hc (k + 1) (.int .i64 (zs[k + 1]'(by omega))) (by simp)
      rw [List.getElem_drop]
      rw [show o + 1 + k = o + (k + 1) by omega, show zs[1 + k]'(by omega) = zs[k + 1]'(by omega) from by congr 1; omega]
      exact this⟩
    have HZ := Lib.hid hz
    have hd : (zs.drop 1).length = zs.length - 1 := List.length_drop
    have HD := Lib.hid hd
    clear hr hs hc ho hz hd hq
    go_enter Try.func31, Try.ntmps31
    go_wp2_with fail
    refine (waiting_any b t zs ob _ H.out hl).mono ?_
    rintro e w' ⟨rfl, rfl⟩
    go_wp2_with fail
    rw [← HD.out]
    refine (contains_any _ _ (zs.drop 1) x _ HZ.out (by rw [HD.out]; omega) q HQ.out).mono ?_
    rintro e w' ⟨rfl, rfl⟩
    go_wp2
    go_ret
    exact ⟨rfl, rfl⟩
  · have hd : zs.drop 1 = [] := List.drop_eq_nil_of_le h1
    have hq' : q = false := by rw [← hq, hd]; simp
    subst hq'
    have e0 : zs.length - 1 = 0 := by omega
    have E0 := Lib.hid e0
    clear hr hs hq hd e0
    go_enter Try.func31, Try.ntmps31
    go_wp2_with fail
    refine (waiting_any b t zs ob _ H.out hl).mono ?_
    rintro e w' ⟨rfl, rfl⟩
    rw [E0.out]
    go_wp2
    go_ret
    exact ⟨rfl, rfl⟩
theorem waits_nil (x : Int) (w : World) : Calls Try.prog 31 #[.pointer none, .int .i64 x] w fun e w' => e = .returned (.bool false) ∧ w = w' := by
  go_enter Try.func31, Try.ntmps31
  go_wp2_with fail
  refine (waiting_nil _).mono ?_
  rintro e w' ⟨rfl, rfl⟩
  go_wp2
  go_ret
  exact ⟨rfl, rfl⟩
end Go.Proofs.Ytmkofjdmjilpiaa.Tick
