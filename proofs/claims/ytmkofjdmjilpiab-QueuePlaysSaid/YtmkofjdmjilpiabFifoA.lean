/- The Fifo's calls: what each hands back, and what it leaves of the queue. -/
import Derived.Test.YtmkofjdmjilpiabSeg
namespace Go.Proofs.Ytmkofjdmjilpiab.Fifo
open Go.RowKit Go.Proofs.Ytmkofjdmjilpiab
set_option linter.unusedVariables false

/-- A queue with so much room, of some things, which lie in block ob. -/
def Ff (w : World) (b : Nat) (room : Nat) (zs : List Int) (ob : Option Nat) : Prop :=
  ∃ v, Row w b 191 #[.int .i64 room, v] ∧ Seg w 3 1 v zs.length (zs.map (Value.int .i64)) ob
section
variable {w w' : World} {b room : Nat} {zs : List Int} {ob : Option Nat}
theorem Ff.ne (h : Ff w b room zs ob) : ob ≠ some b := by
  obtain ⟨v, hr, _, A, cap, _, _, _, ⟨_, h2, _⟩ | ⟨g, o, cur, _, h2, h3, _⟩⟩ := h
  · rw [h2]; simp
  · rw [h2]
    intro e
    injection e with e
    subst e
    unfold Row at hr
    rw [hr] at h3
    injection h3 with h3
    injection h3 with _ h3
    exact absurd h3 (by decide)
theorem Ff.turns {S : Nat → Prop} (h : Ff w b room zs ob) (g : Turns w w' S) (hb : ¬ S b) (ho : ∀ k, ob = some k → ¬ S k) : Ff w' b room zs ob := by
  obtain ⟨v, hr, hs⟩ := h
  exact ⟨v, hr.turns g hb, hs.turns g ho⟩
theorem Ff.lt (h : Ff w b room zs ob) : b < w.heap.size := by
  obtain ⟨v, hr, _⟩ := h
  exact hr.lt
theorem Ff.olt (h : Ff w b room zs ob) : ∀ k, ob = some k → k < w.heap.size := by
  obtain ⟨v, _, hs⟩ := h
  exact hs.lt
theorem Ff.drewN (h : Ff w b room zs ob) (n : Nat) : Ff (w.drewN n) b room zs ob := h
theorem Ff.alloc (h : Ff w b room zs ob) (o : Obj) : Ff (w.alloc o) b room zs ob := by
  obtain ⟨v, hr, hs⟩ := h
  exact ⟨v, hr.alloc o, hs.alloc o⟩
end
def roomV (r : Int) : Nat := (min (max r 1) 1024).toNat
theorem roomV_pos (r : Int) : 1 ≤ roomV r ∧ roomV r ≤ 1024 := by unfold roomV; omega
theorem roomV_int (r : Int) : min (max r 1) 1024 = (roomV r : Int) := by unfold roomV; omega
theorem int_info : (Try.prog.info? 3).map (fun i => (i.zero, i.size, i.bytes)) = some (some (.int .i64 0), 1, 8) := by kernel_rfl

set_option maxHeartbeats 400000 in
theorem new_any (r : Int) (w : World) (h0 : -9223372036854775808 ≤ r) (h1 : r ≤ 9223372036854775807) :
    Calls Try.prog 90 #[.int .i64 r] w fun e w' => e = .returned (.pointer (some ⟨w.heap.size, 0, none⟩)) ∧ w' = w.alloc (.cells #[.int .i64 (roomV r), .slice none 0 0] 191) := by
  rcases (show (r < 1 ∧ (roomV r : Int) = 1) ∨ (1 ≤ r ∧ r ≤ 1024 ∧ (roomV r : Int) = r) ∨ (1024 < r ∧ (roomV r : Int) = 1024) from by unfold roomV; omega) with ⟨g, hv⟩ | ⟨g, g1, hv⟩ | ⟨g, hv⟩
  all_goals
    rw [hv]
    clear hv
    go_enter Try.func90, Try.ntmps90
    go_wp2
    go_ret
    exact ⟨rfl, rfl⟩
theorem new_ff (w : World) (room : Nat) : Ff (w.alloc (.cells #[.int .i64 room, .slice none 0 0] 191)) w.heap.size room [] none :=
  ⟨_, Row.made _ _ _, Seg.nil _ _ _⟩

theorem len_any (b room : Nat) (zs : List Int) (ob : Option Nat) (w : World) (h : Ff w b room zs ob) :
    Calls Try.prog 93 #[.pointer (some ⟨b, 0, none⟩)] w fun e w' => e = .returned (.int .i64 zs.length) ∧ w = w' := by
  obtain ⟨v, hr, hs⟩ := h
  obtain ⟨A, cap, rfl, hn, hc⟩ := hs.form
  have c1 : w.cell? ⟨b, 1, none⟩ = some (.slice A zs.length cap) := (hr.cell 1).trans rfl
  clear hr hs
  go_enter Try.func93, Try.ntmps93
  go_wp2
  go_ret
  exact ⟨rfl, rfl⟩
theorem len_nil (w : World) : Calls Try.prog 93 #[.pointer none] w fun e w' => e = .returned (.int .i64 0) ∧ w = w' := by
  go_enter Try.func93, Try.ntmps93
  go_wp2
  go_ret
  exact ⟨rfl, rfl⟩
theorem room_any (b room : Nat) (zs : List Int) (ob : Option Nat) (w : World) (h : Ff w b room zs ob) :
    Calls Try.prog 94 #[.pointer (some ⟨b, 0, none⟩)] w fun e w' => e = .returned (.int .i64 room) ∧ w = w' := by
  obtain ⟨v, hr, hs⟩ := h
  have c0 : w.cell? ⟨b, 0, none⟩ = some (.int .i64 room) := (hr.cell 0).trans rfl
  clear hr hs
  go_enter Try.func94, Try.ntmps94
  go_wp2
  go_ret
  exact ⟨rfl, rfl⟩
theorem room_nil (w : World) : Calls Try.prog 94 #[.pointer none] w fun e w' => e = .returned (.int .i64 0) ∧ w = w' := by
  go_enter Try.func94, Try.ntmps94
  go_wp2
  go_ret
  exact ⟨rfl, rfl⟩
theorem full_any (b room : Nat) (zs : List Int) (ob : Option Nat) (r : Bool) (w : World) (h : Ff w b room zs ob) (hr : decide (room ≤ zs.length) = r) :
    Calls Try.prog 138 #[.pointer (some ⟨b, 0, none⟩)] w fun e w' => e = .returned (.bool r) ∧ w = w' := by
  have H := Lib.hid h
  have HR := Lib.hid hr
  clear h hr
  go_enter Try.func138, Try.ntmps138
  go_wp2_with (first
    | (go_at_call 93; refine (len_any b room zs ob _ H.out).mono ?_; rintro e w' ⟨rfl, rfl⟩)
    | (go_at_call 94; refine (room_any b room zs ob _ H.out).mono ?_; rintro e w' ⟨rfl, rfl⟩))
  go_ret
  exact ⟨by rw [← HR.out]; simp, rfl⟩
theorem full_nil (w : World) : Calls Try.prog 138 #[.pointer none] w fun e w' => e = .returned (.bool true) ∧ w = w' := by
  go_enter Try.func138, Try.ntmps138
  go_wp2_with (first
    | (go_at_call 93; refine (len_nil _).mono ?_; rintro e w' ⟨rfl, rfl⟩)
    | (go_at_call 94; refine (room_nil _).mono ?_; rintro e w' ⟨rfl, rfl⟩))
  go_ret
  exact ⟨rfl, rfl⟩

theorem one_news (w : World) (x : Value) : ∀ j u, [x][j]? = some u → (w.alloc (.cells #[x] 3)).cell? ((⟨w.heap.size, 0, none⟩ : Addr).add j) = some u := by
  intro j u hj
  match j, hj with
  | 0, hj => simp at hj; subst hj; simp [Addr.add]
/-- What a call that puts or takes leaves. -/
def Left (w : World) (b room : Nat) (zs : List Int) (ob : Option Nat) (w' : World) : Prop :=
  ∃ ob', Ff w' b room zs ob' ∧ Turns w w' (fun k => k = b ∨ ob = some k) ∧ (ob' = ob ∨ ob' = none ∨ ∃ g, ob' = some g ∧ w.heap.size ≤ g)
set_option maxRecDepth 100000 in
set_option maxHeartbeats 400000 in
theorem push_yes (b room : Nat) (zs : List Int) (ob : Option Nat) (x : Int) (w : World) (h : Ff w b room zs ob) (hl : zs.length < room) (hr : room ≤ 1024) :
    Calls Try.prog 91 #[.pointer (some ⟨b, 0, none⟩), .int .i64 x] w fun e w' => e = .returned (.bool true) ∧ Left w b room (zs ++ [x]) ob w' := by
  have H := Lib.hid h
  obtain ⟨v, hrow, hs⟩ := h
  obtain ⟨A, cap, rfl, hn, hc⟩ := hs.form
  have c1 : w.cell? ⟨b, 1, none⟩ = some (.slice A zs.length cap) := (hrow.cell 1).trans rfl
  have HS := Lib.hid hs
  have HW := Lib.hid hrow
  have hlt := hrow.lt
  clear hrow hs hc
  obtain ⟨i0, hi0, hz0, hz1, hz2⟩ := info_parts int_info
  go_enter Try.func91, Try.ntmps91
  go_wp2_with (first
    | (go_at_call 138; refine (full_any b room zs ob false _ H.out (by simp; omega)).mono ?_; rintro e w' ⟨rfl, rfl⟩)
    | (at_builtin; refine wpList_append_seg _ rfl _ _ 22 rfl 3 i0 (.int .i64 0) 1 8 Try.underlying22 hi0 hz0 hz1 hz2 rfl (by decide) _ _ _ _ rfl (HS.out.alloc _) ⟨w.heap.size, 0, none⟩ 1 1 [.int .i64 x] rfl rfl (one_news _ _) (by simp [Value.oneCell']) (by decide) (by unfold maxLen; omega) (by omega) ?_; intro v1 w1 ob1 hs1 ht1 ho1; obtain ⟨A1, cap1, rfl, hn1, _⟩ := hs1.form; have HR1 := Lib.hid (Row.turns (Row.alloc HW.out _) ht1 (Ff.ne H.out)); have d1 : w1.cell? ⟨b, 1, none⟩ = some (.slice A zs.length cap) := (HR1.out.cell 1).trans rfl; have d2 := HR1.out.free 1; have HS1 := Lib.hid hs1; clear hs1))
  go_ret
  have hne : ob1 ≠ some b := by
    have h1 := H.out.ne
    rcases ho1 with h | ⟨g, h, hg⟩
    · rw [h]; exact h1
    · rw [h]; intro e; injection e with e; simp at hg; omega
  refine ⟨rfl, ob1, ⟨_, Row.put HR1.out 1 _, ?_⟩, ?_, ?_⟩
  · have := Seg.past HS1.out (p := ⟨b, 1, none⟩) hne (.slice A1 (zs.length + 1) cap1)
    simpa using this
  · refine Turns.put (Turns.trans ((Turns.refl w _).alloc _) ht1 (fun k _ e => .inr e)) b 1 _ (fun _ => .inl rfl)
  · rcases ho1 with h | ⟨g, h, hg⟩
    · exact .inl h
    · exact .inr (.inr ⟨g, h, by simp at hg; omega⟩)
end Go.Proofs.Ytmkofjdmjilpiab.Fifo
