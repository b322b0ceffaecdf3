/- Who asks for a lock, and who gives it back. -/
import Derived.Test.YtmkofjdmjilpiaaTickB
import Derived.Deep.DeepCutAuto
namespace Go.Proofs.Ytmkofjdmjilpiaa.Tick
open Go.RowKit Go.Proofs.Ytmkofjdmjilpiaa
set_option linter.unusedVariables false

/-- What a call that turns the line leaves. -/
def Left (w : World) (b : Nat) (zs : List Int) (t : Nat) (ob : Option Nat) (w' : World) : Prop :=
  ∃ ob', Lk w' b zs t ob' ∧ Turns w w' (fun k => k = b ∨ ob = some k) ∧ (ob' = ob ∨ ob' = none ∨ ∃ g, ob' = some g ∧ w.heap.size ≤ g)
theorem one_news (w : World) (x : Value) : ∀ j u, [x][j]? = some u → (w.alloc (.cells #[x] 3)).cell? ((⟨w.heap.size, 0, none⟩ : Addr).add j) = some u := by
  intro j u hj
  match j, hj with
  | 0, hj => simp at hj; subst hj; simp [Addr.add]
theorem Lk.tick {w : World} {b t : Nat} {zs : List Int} {ob : Option Nat} (h : Lk w b zs t ob) : Lk (w.setCell ⟨b, 1, none⟩ (.int .i64 ((t : Int) + 1))) b zs (t + 1) ob := by
  have hne := h.ne
  obtain ⟨v, hr, hs⟩ := h
  exact ⟨v, by simpa using Row.put hr 1 (.int .i64 ((t : Int) + 1)), hs.past hne _⟩
theorem Lk.times {w : World} {b t : Nat} {zs : List Int} {ob : Option Nat} (h : Lk w b zs t ob) : w.cell? ⟨b, 1, none⟩ = some (.int .i64 t) ∧ w.frozen? ⟨b, 1, none⟩ = false := by
  obtain ⟨v, hr, hs⟩ := h
  exact ⟨(hr.cell 1).trans rfl, hr.free 1⟩
theorem ask_nil (x : Int) (w : World) : Calls Try.prog 26 #[.pointer none, .int .i64 x] w fun e w' => e = .returned (.int .i64 1) ∧ w = w' := by
  go_enter Try.func26, Try.ntmps26
  go_wp2
  go_ret
  exact ⟨rfl, rfl⟩
theorem ask_neg (b : Nat) (x : Int) (w : World) (hx : x < 0) : Calls Try.prog 26 #[.pointer (some ⟨b, 0, none⟩), .int .i64 x] w fun e w' => e = .returned (.int .i64 1) ∧ w = w' := by
  go_enter Try.func26, Try.ntmps26
  go_wp2
  go_ret
  exact ⟨rfl, rfl⟩
theorem ask_twice (b t : Nat) (zs : List Int) (ob : Option Nat) (x : Int) (w : World) (h : Lk w b zs t ob) (hl : zs.length ≤ 1000) (hx : 0 ≤ x) (hm : x ∈ zs) :
    Calls Try.prog 26 #[.pointer (some ⟨b, 0, none⟩), .int .i64 x] w fun e w' => e = .returned (.int .i64 4) ∧ w = w' := by
  obtain ⟨v, hr, hs⟩ := h
  obtain ⟨A, cap, rfl, hn, hc⟩ := hs.form
  have c0 : w.cell? ⟨b, 0, none⟩ = some (.slice A zs.length cap) := (hr.cell 0).trans rfl
  have HZ := Lib.hid (seg_zs hs)
  have HM := Lib.hid (decide_eq_true hm)
  clear hr hs hm
  go_enter Try.func26, Try.ntmps26
  go_wp2_with fail
  refine (contains_any A cap zs x _ HZ.out (by omega) true HM.out).mono ?_
  rintro e w' ⟨rfl, rfl⟩
  go_wp2
  go_ret
  exact ⟨rfl, rfl⟩
set_option maxRecDepth 100000 in
set_option maxHeartbeats 1000000 in
theorem ask_yes (b t : Nat) (zs : List Int) (ob : Option Nat) (x : Int) (w : World) (h : Lk w b zs t ob) (hl : zs.length ≤ 1000) (hx : 0 ≤ x) (hm : x ∉ zs) (ht : t ≤ 1000) :
    Calls Try.prog 26 #[.pointer (some ⟨b, 0, none⟩), .int .i64 x] w fun e w' => e = .returned (.int .i64 (if zs = [] then 0 else 14)) ∧ Left w b (zs ++ [x]) (if zs = [] then t + 1 else t) ob w' := by
  have H := Lib.hid h
  obtain ⟨v, hr, hs⟩ := h
  obtain ⟨A, cap, rfl, hn, hc⟩ := hs.form
  have c0 : w.cell? ⟨b, 0, none⟩ = some (.slice A zs.length cap) := (hr.cell 0).trans rfl
  have HZ := Lib.hid (seg_zs hs)
  have HM := Lib.hid (decide_eq_false hm)
  have HS := Lib.hid hs
  have HW := Lib.hid hr
  have hlt := hr.lt
  clear hr hs hm
  obtain ⟨i0, hi0, hz0, hz1, hz2⟩ := info_parts int_info
  go_enter Try.func26, Try.ntmps26
  go_wp2_with fail
  refine (contains_any A cap zs x _ HZ.out (by omega) false HM.out).mono ?_
  rintro e w' ⟨rfl, rfl⟩
  go_upto_region 6 with (at_builtin; refine wpList_append_seg _ rfl _ _ 28 rfl 3 i0 (.int .i64 0) 1 8 Try.underlying28 hi0 hz0 hz1 hz2 rfl (by decide) _ _ _ _ rfl (HS.out.alloc _) ⟨w.heap.size, 0, none⟩ 1 1 [.int .i64 x] rfl rfl (one_news _ _) (by simp [Value.oneCell']) (by decide) (by unfold maxLen; omega) (by omega) ?_; intro v1 w1 ob1 hs1 ht1 ho1; obtain ⟨A1, cap1, rfl, hn1, _⟩ := hs1.form; have HR1 := Lib.hid (Row.turns (Row.alloc HW.out _) ht1 (Lk.ne H.out)); have d1 : w1.cell? ⟨b, 0, none⟩ = some (.slice A zs.length cap) := (HR1.out.cell 0).trans rfl; have d2 := HR1.out.free 0; have HS1 := Lib.hid hs1; clear hs1)
  have hne : ob1 ≠ some b := by
    have h1 := H.out.ne
    rcases ho1 with h | ⟨g, h, hg⟩
    · rw [h]; exact h1
    · rw [h]; intro e; injection e with e; simp at hg; omega
  have hL : Lk (w1.setCell ⟨b, 0, none⟩ (.slice A1 (zs.length + 1) cap1)) b (zs ++ [x]) t ob1 := by
    refine ⟨_, Row.put HR1.out 0 _, ?_⟩
    have := Seg.past HS1.out (p := ⟨b, 0, none⟩) hne (.slice A1 (zs.length + 1) cap1)
    simpa using this
  have hT : Turns w (w1.setCell ⟨b, 0, none⟩ (.slice A1 (zs.length + 1) cap1)) (fun k => k = b ∨ ob = some k) := Turns.put (Turns.trans ((Turns.refl w _).alloc _) ht1 (fun k _ e => .inr e)) b 0 _ (fun _ => .inl rfl)
  have hO : ob1 = ob ∨ ob1 = none ∨ ∃ g, ob1 = some g ∧ w.heap.size ≤ g := by
    rcases ho1 with h | ⟨g, h, hg⟩
    · exact .inl h
    · exact .inr (.inr ⟨g, h, by simp at hg; omega⟩)
  have HL := Lib.hid hL
  have HT := Lib.hid hT
  have HO := Lib.hid hO
  clear hL hT hO hne ho1 ht1 HS1 HR1 d1 d2 HS HW HZ HM c0 H
  generalize w1.setCell ⟨b, 0, none⟩ (.slice A1 (zs.length + 1) cap1) = W at HL HT ⊢
  have hlen : (zs ++ [x]).length - 1 = zs.length := by simp
  have HLEN := Lib.hid hlen
  clear hlen
  go_wp2_with fail
  refine (waiting_any b t (zs ++ [x]) ob1 _ HL.out (by simp; omega)).mono ?_
  rintro e w' ⟨rfl, rfl⟩
  rw [HLEN.out]
  cases zs with
  | nil =>
    obtain ⟨c1, f1⟩ := HL.out.times
    go_wp2
    go_ret
    exact ⟨rfl, ob1, HL.out.tick, HT.out.put b 1 _ (fun _ => .inl rfl), HO.out⟩
  | cons y r =>
    go_wp2
    go_ret
    exact ⟨rfl, ob1, HL.out, HT.out, HO.out⟩
theorem give_neg (b : Nat) (x : Int) (w : World) (hx : x < 0) : Calls Try.prog 27 #[.pointer (some ⟨b, 0, none⟩), .int .i64 x] w fun e w' => e = .returned (.int .i64 3) ∧ w = w' := by
  go_enter Try.func27, Try.ntmps27
  go_wp2
  go_ret
  exact ⟨rfl, rfl⟩
theorem give_nil (x : Int) (w : World) : Calls Try.prog 27 #[.pointer none, .int .i64 x] w fun e w' => e = .returned (.int .i64 3) ∧ w = w' := by
  rcases (show x < 0 ∨ 0 ≤ x from by omega) with h | h
  · go_enter Try.func27, Try.ntmps27
    go_wp2
    go_ret
    exact ⟨rfl, rfl⟩
  · have hb : ((-1 : Int) != x) = true := by simp; omega
    go_enter Try.func27, Try.ntmps27
    go_wp2_with fail
    refine (who_nil _).mono ?_
    rintro e w' ⟨rfl, rfl⟩
    go_wp2
    go_ret
    exact ⟨rfl, rfl⟩
theorem give_no (b t : Nat) (zs : List Int) (ob : Option Nat) (x : Int) (w : World) (h : Lk w b zs t ob) (hl : zs.length ≤ 1000) (hx : 0 ≤ x) (hw : whoV zs ≠ x) :
    Calls Try.prog 27 #[.pointer (some ⟨b, 0, none⟩), .int .i64 x] w fun e w' => e = .returned (.int .i64 3) ∧ w = w' := by
  have H := Lib.hid h
  have hb : (whoV zs == x) = false := by simpa using hw
  have hb' : (whoV zs != x) = true := by simpa using hw
  clear h hw
  go_enter Try.func27, Try.ntmps27
  go_wp2_with fail
  refine (who_any b t zs ob _ H.out (by omega)).mono ?_
  rintro e w' ⟨rfl, rfl⟩
  go_wp2
  go_ret
  exact ⟨rfl, rfl⟩
theorem give_yes (b t : Nat) (x : Int) (r : List Int) (ob : Option Nat) (w : World) (h : Lk w b (x :: r) t ob) (hl : r.length ≤ 1000) (hx : 0 ≤ x) (ht : t ≤ 1000) :
    Calls Try.prog 27 #[.pointer (some ⟨b, 0, none⟩), .int .i64 x] w fun e w' => e = .returned (.int .i64 0) ∧ Left w b r (if r = [] then t else t + 1) ob w' := by
  have H := Lib.hid h
  have HWHO : Hid (whoV (x :: r) = x) := rfl
  obtain ⟨v, hr, hs⟩ := h
  obtain ⟨g, o, cap, rfl, rfl, hn, _, _, _⟩ := hs.shape (by simp)
  have c0 : w.cell? ⟨b, 0, none⟩ = some (.slice (some ⟨g, o, none⟩) (x :: r).length cap) := (hr.cell 0).trans rfl
  have HS := Lib.hid hs
  have HW := Lib.hid hr
  have hlt := hr.lt
  have hne := H.out.ne
  clear hr hs
  go_enter Try.func27, Try.ntmps27
  go_wp2_with fail
  refine (who_any b t (x :: r) (some g) _ H.out (by simp; omega)).mono ?_
  rintro e w' ⟨rfl, rfl⟩
  rw [HWHO.out]
  go_wp2_with fail
  refine (delete_first g o cap x r _ HS.out).mono ?_
  rintro e w1 ⟨v1, rfl, hs1, ht1⟩
  have HR1 := Lib.hid (Row.turns HW.out ht1 (fun e => hne (by rw [e])))
  have d1 : w1.cell? ⟨b, 0, none⟩ = some (.slice (some ⟨g, o, none⟩) (x :: r).length cap) := (HR1.out.cell 0).trans rfl
  have d2 := HR1.out.free 0
  obtain ⟨A1, cap1, rfl, hn1, _⟩ := hs1.form
  go_upto_region 4 with fail
  have hL : Lk (w1.setCell ⟨b, 0, none⟩ (.slice A1 r.length cap1)) b r t (some g) := ⟨_, Row.put HR1.out 0 _, Seg.past hs1 (p := ⟨b, 0, none⟩) hne _⟩
  have hT : Turns w (w1.setCell ⟨b, 0, none⟩ (.slice A1 r.length cap1)) (fun k => k = b ∨ some g = some k) := (ht1.mono (fun k _ e => .inr (by rw [e]))).put b 0 _ (fun _ => .inl rfl)
  have HL := Lib.hid hL
  have HT := Lib.hid hT
  have c0' : (w1.setCell ⟨b, 0, none⟩ (.slice A1 r.length cap1)).cell? ⟨b, 0, none⟩ = some (.slice A1 r.length cap1) := (Row.cell (Row.put HR1.out 0 _) 0).trans rfl
  clear hL hT hs1 ht1 HS HW HR1 d1 d2 c0 H HWHO
  generalize w1.setCell ⟨b, 0, none⟩ (.slice A1 r.length cap1) = W at HL HT c0' ⊢
  cases r with
  | nil =>
    go_wp2
    go_ret
    exact ⟨rfl, _, HL.out, HT.out, .inl rfl⟩
  | cons y r =>
    obtain ⟨c1, f1⟩ := HL.out.times
    go_wp2
    go_ret
    exact ⟨rfl, _, HL.out.tick, HT.out.put b 1 _ (fun _ => .inl rfl), .inl rfl⟩
end Go.Proofs.Ytmkofjdmjilpiaa.Tick
