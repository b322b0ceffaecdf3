/- A queue's calls that turn it; and calls on none. -/
import Derived.Test.YtmkofjdmjilpiabQuA
import Derived.Test.YtmkofjdmjilpiabApp2
import Derived.StillTailTactics
import Derived.Deep.DeepCutAuto
namespace Go.Proofs.Ytmkofjdmjilpiab.Qu
open Go.RowKit Go.Proofs.Ytmkofjdmjilpiab
set_option linter.unusedVariables false

theorem flip2 {f : FuncId} {args : Array Value} {w : World} {x : Ending} (h : Calls Try.prog f args w fun e w' => e = x ∧ w = w') : Calls Try.prog f args w fun e w' => e = x ∧ w' = w := h.mono fun _ _ ⟨a, b⟩ => ⟨a, b.symm⟩
theorem len_nil (w : World) : Calls Try.prog 29 #[.pointer none] w fun e w' => e = .returned (.int .i64 0) ∧ w = w' := by
  go_enter Try.func29, Try.ntmps29
  go_wp2
  go_ret
  exact ⟨rfl, rfl⟩
theorem room_nil (w : World) : Calls Try.prog 30 #[.pointer none] w fun e w' => e = .returned (.int .i64 0) ∧ w = w' := by
  go_enter Try.func30, Try.ntmps30
  go_wp2
  go_ret
  exact ⟨rfl, rfl⟩
theorem most_nil (w : World) : Calls Try.prog 31 #[.pointer none] w fun e w' => e = .returned (.int .i64 0) ∧ w = w' := by
  go_enter Try.func31, Try.ntmps31
  go_wp2
  go_ret
  exact ⟨rfl, rfl⟩
theorem closed_nil (w : World) : Calls Try.prog 32 #[.pointer none] w fun e w' => e = .returned (.bool true) ∧ w = w' := by
  go_enter Try.func32, Try.ntmps32
  go_wp2
  go_ret
  exact ⟨rfl, rfl⟩
theorem done_nil (w : World) : Calls Try.prog 33 #[.pointer none] w fun e w' => e = .returned (.bool true) ∧ w = w' := by
  go_enter Try.func33, Try.ntmps33
  go_wp2_with (first
    | (go_at_call 32; refine (closed_nil _).mono ?_; rintro e w' ⟨rfl, rfl⟩)
    | (go_at_call 29; refine (len_nil _).mono ?_; rintro e w' ⟨rfl, rfl⟩))
  go_ret
  exact ⟨rfl, rfl⟩
theorem canTake_nil (w : World) : Calls Try.prog 26 #[.pointer none] w fun e w' => e = .returned (.bool false) ∧ w = w' := by
  go_enter Try.func26, Try.ntmps26
  go_wp2_with (go_at_call 29; refine (len_nil _).mono ?_; rintro e w' ⟨rfl, rfl⟩)
  go_ret
  exact ⟨rfl, rfl⟩
theorem canPut_nil (w : World) : Calls Try.prog 24 #[.pointer none] w fun e w' => e = .returned (.bool false) ∧ w = w' := by
  go_enter Try.func24, Try.ntmps24
  go_wp2_with (go_at_call 32; refine (closed_nil _).mono ?_; rintro e w' ⟨rfl, rfl⟩)
  go_ret
  exact ⟨rfl, rfl⟩
theorem counts_nil (w : World) : Calls Try.prog 28 #[.pointer none] w fun e w' => e = .returned (.tuple #[.int .i64 0, .int .i64 0, .int .i64 0]) ∧ w = w' := by
  go_enter Try.func28, Try.ntmps28
  go_wp2
  go_ret3
  exact ⟨rfl, rfl⟩
theorem put_nil (x : Int) (w : World) : Calls Try.prog 25 #[.pointer none, .int .i64 x] w fun e w' => e = .returned (.int .i64 9) ∧ w = w' := by
  go_enter Try.func25, Try.ntmps25
  go_wp2_with (go_at_call 32; refine (closed_nil _).mono ?_; rintro e w' ⟨rfl, rfl⟩)
  go_ret
  exact ⟨rfl, rfl⟩
theorem take_nil (w : World) : Calls Try.prog 27 #[.pointer none] w fun e w' => e = .returned (.tuple #[.int .i64 0, .int .i64 9]) ∧ w = w' := by
  go_enter Try.func27, Try.ntmps27
  go_wp2_with (go_at_call 33; refine (done_nil _).mono ?_; rintro e w' ⟨rfl, rfl⟩)
  go_ret2
  exact ⟨rfl, rfl⟩
theorem close_nil (w : World) : Calls Try.prog 23 #[.pointer none] w fun e w' => e = .returned (.tuple #[]) ∧ w = w' := by
  go_enter Try.func23, Try.ntmps23
  go_wp2
  go_end0
  exact ⟨rfl, rfl⟩

/-- What a call leaves that turns the queue. -/
def Left (w : World) (b fb : Nat) (ob : Option Nat) (room : Nat) (zs : List Int) (s : QS) (w' : World) : Prop :=
  ∃ ob', Qu w' b fb ob' room zs s ∧ Turns w w' (fun k => k = b ∨ k = fb ∨ ob = some k) ∧ (ob' = ob ∨ ob' = none ∨ ∃ g, ob' = some g ∧ w.heap.size ≤ g)
section
variable (b fb : Nat) (ob : Option Nat) (room : Nat) (zs : List Int) (s : QS) (w : World)
theorem close_any (h : Qu w b fb ob room zs s) : Calls Try.prog 23 #[.pointer (some ⟨b, 0, none⟩)] w fun e w' => e = .returned (.tuple #[]) ∧ Left w b fb ob room zs { s with closed := true } w' := by
  have H := Lib.hid h
  have c1 := h.c1
  have f1 := h.row.free 1
  clear h
  go_enter Try.func23, Try.ntmps23
  go_wp2
  go_end0
  exact ⟨rfl, ob, H.out.put 1 _ _ rfl, (Turns.refl w _).put b 1 _ (fun _ => .inl rfl), .inl rfl⟩
theorem put_closed (x : Int) (h : Qu w b fb ob room zs s) (hc : s.closed = true) : Calls Try.prog 25 #[.pointer (some ⟨b, 0, none⟩), .int .i64 x] w fun e w' => e = .returned (.int .i64 9) ∧ w = w' := by
  have H := Lib.hid h
  have HC := Lib.hid hc
  clear h hc
  go_enter Try.func25, Try.ntmps25
  go_wp2_with (go_at_call 32; refine (closed_any b fb ob room zs s _ H.out true HC.out).mono ?_; rintro e w' ⟨rfl, rfl⟩)
  go_ret
  exact ⟨rfl, rfl⟩
theorem put_full (x : Int) (h : Qu w b fb ob room zs s) (hc : s.closed = false) (hl : room ≤ zs.length) (hf : s.full ≤ 1000) :
    Calls Try.prog 25 #[.pointer (some ⟨b, 0, none⟩), .int .i64 x] w fun e w' => e = .returned (.int .i64 8) ∧ Left w b fb ob room zs { s with full := s.full + 1 } w' := by
  have H := Lib.hid h
  have HC := Lib.hid hc
  have c0 := h.c0
  have c5 := h.c5
  have f5 := h.row.free 5
  clear h hc
  go_enter Try.func25, Try.ntmps25
  go_wp2_with (first
    | (go_at_call 32; refine (closed_any b fb ob room zs s _ H.out false HC.out).mono ?_; rintro e w' ⟨rfl, rfl⟩)
    | (go_at_call 91; refine (Fifo.push_no fb room zs ob x _ H.out.ff hl).mono ?_; rintro e w' ⟨rfl, rfl⟩))
  go_ret
  exact ⟨rfl, ob, H.out.put 5 _ _ rfl, (Turns.refl w _).put b 5 _ (fun _ => .inl rfl), .inl rfl⟩
set_option maxHeartbeats 1000000 in
set_option maxRecDepth 100000 in
theorem put_yes (x : Int) (h : Qu w b fb ob room zs s) (hc : s.closed = false) (hl : zs.length < room) (hr : room ≤ 1024) (hp : s.put ≤ 1000) (hm : s.most ≤ 2000) :
    Calls Try.prog 25 #[.pointer (some ⟨b, 0, none⟩), .int .i64 x] w fun e w' => e = .returned (.int .i64 0) ∧ Left w b fb ob room (zs ++ [x]) { s with put := s.put + 1, most := max s.most (zs.length + 1) } w' := by
  have H := Lib.hid h
  have HC := Lib.hid hc
  have c0 := h.c0
  clear h hc
  go_enter Try.func25, Try.ntmps25
  go_wp2_with fail
  refine (closed_any b fb ob room zs s _ H.out false HC.out).mono ?_
  rintro e w' ⟨rfl, rfl⟩
  go_wp2_with fail
  refine (Fifo.push_yes fb room zs ob x _ H.out.ff hl hr).mono ?_
  rintro e w1 ⟨rfl, ob1, hf1, ht1, ho1⟩
  have hQ1 : Qu w1 b fb ob1 room (zs ++ [x]) s := ⟨H.out.row.turns ht1 (fun e => by rcases e with e | e; exact H.out.ne e.symm; exact H.out.one e), hf1, H.out.ne⟩
  have hT1 : Turns w w1 (fun k => k = b ∨ k = fb ∨ ob = some k) := ht1.mono (fun k _ e => .inr e)
  have c3 := hQ1.c3
  have f3 := hQ1.row.free 3
  have HQ1 := Lib.hid hQ1
  have HT1 := Lib.hid hT1
  have HO := Lib.hid ho1
  clear hQ1 hT1 ho1 hf1 ht1 c0
  go_upto_region 7 with fail
  have hQ2 : Qu (w1.setCell ⟨b, 3, none⟩ (.int .i64 ((s.put : Int) + 1))) b fb ob1 room (zs ++ [x]) { s with put := s.put + 1 } := HQ1.out.put 3 _ _ rfl
  have hT2 : Turns w (w1.setCell ⟨b, 3, none⟩ (.int .i64 ((s.put : Int) + 1))) (fun k => k = b ∨ k = fb ∨ ob = some k) := HT1.out.put b 3 _ (fun _ => .inl rfl)
  have c2 := hQ2.c2
  have f2 := hQ2.row.free 2
  have HQ2 := Lib.hid hQ2
  have HT2 := Lib.hid hT2
  clear hQ2 hT2 HQ1 HT1 c3 f3
  generalize w1.setCell ⟨b, 3, none⟩ (.int .i64 ((s.put : Int) + 1)) = w2 at HQ2 HT2 c2 f2 ⊢
  have hlen : (zs ++ [x]).length = zs.length + 1 := by simp
  have HLEN := Lib.hid hlen
  clear hlen
  refine wp_region_still_tail 9 (by kernel_rfl) (by kernel_rfl) ?_
  simp only [List.take_succ_cons, List.take_zero, List.drop_succ_cons, List.drop_zero]
  change wpStill _ _ (World.drew _) _ _ _
  repeat still_step
  still_call (flip2 (len_any b fb ob1 room (zs ++ [x]) _ _ (HQ2.out.drewN 1)))
  rw [HLEN.out]
  repeat still_step
  refine wpStill_nil ?_
  change wpList _ _ _ _ _ (World.drew _)
  have HMX : Hid ((if (s.most : Int) < (zs.length : Int) + 1 then (zs.length : Int) + 1 else (s.most : Int)) = ((max s.most (zs.length + 1) : Nat) : Int)) := by
    show (if (s.most : Int) < (zs.length : Int) + 1 then (zs.length : Int) + 1 else (s.most : Int)) = ((max s.most (zs.length + 1) : Nat) : Int)
    split <;> omega
  obtain ⟨mx, hmx⟩ : ∃ mx, max s.most (zs.length + 1) = mx := ⟨_, rfl⟩
  have HMX2 := Lib.hid hmx
  rw [HMX.out, hmx]
  clear hmx
  have HQ3 := Lib.hid (HQ2.out.drewN 1)
  have HT3 := Lib.hid (HT2.out.drewN 1)
  change Hid (Qu w2.drew _ _ _ _ _ _) at HQ3
  change Hid (Turns w w2.drew _) at HT3
  clear HQ2 HT2 c2 f2
  generalize w2.drew = w3 at HQ3 HT3 ⊢
  have c2 := HQ3.out.c2
  have f2 := HQ3.out.row.free 2
  go_wp2
  go_ret
  exact ⟨rfl, ob1, by rw [HMX2.out]; exact HQ3.out.put 2 _ _ rfl, HT3.out.put b 2 _ (fun _ => .inl rfl), HO.out⟩
theorem take_closed (h : Qu w b fb ob room zs s) (hc : s.closed = true) (hz : zs = []) : Calls Try.prog 27 #[.pointer (some ⟨b, 0, none⟩)] w fun e w' => e = .returned (.tuple #[.int .i64 0, .int .i64 9]) ∧ w = w' := by
  subst hz
  have H := Lib.hid h
  have HD : Hid ((s.closed && decide (([] : List Int).length = 0)) = true) := by rw [hc]; rfl
  clear h hc
  go_enter Try.func27, Try.ntmps27
  go_wp2_with (go_at_call 33; refine (done_any b fb ob room [] s _ H.out true HD.out).mono ?_; rintro e w' ⟨rfl, rfl⟩)
  go_ret2
  exact ⟨rfl, rfl⟩
theorem take_blocked (h : Qu w b fb ob room zs s) (hc : s.closed = false) (hz : zs = []) : Calls Try.prog 27 #[.pointer (some ⟨b, 0, none⟩)] w fun e w' => e = .returned (.tuple #[.int .i64 0, .int .i64 14]) ∧ w = w' := by
  subst hz
  have H := Lib.hid h
  have HD : Hid ((s.closed && decide (([] : List Int).length = 0)) = false) := by rw [hc]; rfl
  have c0 := h.c0
  clear h hc
  go_enter Try.func27, Try.ntmps27
  go_wp2_with (first
    | (go_at_call 33; refine (done_any b fb ob room [] s _ H.out false HD.out).mono ?_; rintro e w' ⟨rfl, rfl⟩)
    | (go_at_call 92; refine (Fifo.pop_no fb room ob _ H.out.ff).mono ?_; rintro e w' ⟨rfl, rfl⟩))
  go_ret2
  exact ⟨rfl, rfl⟩
theorem take_yes (x : Int) (r : List Int) (h : Qu w b fb ob room (x :: r) s) (hl : r.length ≤ 2000) (ht : s.taken ≤ 1000) :
    Calls Try.prog 27 #[.pointer (some ⟨b, 0, none⟩)] w fun e w' => e = .returned (.tuple #[.int .i64 x, .int .i64 0]) ∧ Left w b fb ob room r { s with taken := s.taken + 1 } w' := by
  have H := Lib.hid h
  have HD : Hid ((s.closed && decide ((x :: r).length = 0)) = false) := by show (s.closed && decide ((x :: r).length = 0)) = false; simp
  have c0 := h.c0
  clear h
  go_enter Try.func27, Try.ntmps27
  go_wp2_with fail
  refine (done_any b fb ob room (x :: r) s _ H.out false HD.out).mono ?_
  rintro e w' ⟨rfl, rfl⟩
  go_wp2_with fail
  refine (Fifo.pop_yes fb room x r ob _ H.out.ff (by simp; omega)).mono ?_
  rintro e w1 ⟨rfl, ob1, hf1, ht1, ho1⟩
  have hQ1 : Qu w1 b fb ob1 room r s := ⟨H.out.row.turns ht1 (fun e => by rcases e with e | e; exact H.out.ne e.symm; exact H.out.one e), hf1, H.out.ne⟩
  have hT1 : Turns w w1 (fun k => k = b ∨ k = fb ∨ ob = some k) := ht1.mono (fun k _ e => .inr e)
  have c4 := hQ1.c4
  have f4 := hQ1.row.free 4
  have HQ1 := Lib.hid hQ1
  have HT1 := Lib.hid hT1
  have HO := Lib.hid ho1
  clear hQ1 hT1 ho1 hf1 ht1 c0
  go_wp2
  go_ret2
  exact ⟨rfl, ob1, HQ1.out.put 4 _ _ rfl, HT1.out.put b 4 _ (fun _ => .inl rfl), HO.out⟩
end
end Go.Proofs.Ytmkofjdmjilpiab.Qu
