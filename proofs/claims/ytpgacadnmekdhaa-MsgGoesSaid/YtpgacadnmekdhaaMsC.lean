/- When two messages are alike: the whole of them. -/
import Derived.Test.YtpgacadnmekdhaaMsB
namespace Go.Proofs.Ytpgacadnmekdhaa.Ms
open Go.RowKit Go.Proofs.Ytpgacadnmekdhaa Go.Proofs.Ytpgacadnmekdhaa.Ev
set_option linter.unusedVariables false
set_option maxRecDepth 100000
section
variable (kind tick t q T win cap : Int) (ty key id : ByteArray) (A B E F : Option Addr) (vn vm c d en em ec ed : Nat) (w : World)
set_option maxHeartbeats 2000000 in
theorem m_yes (vs : List VV) (h : VS w A c vs) (g : VS w B d vs) : Calls Try.prog 49 #[.agg #[.int .i64 kind, .int .i64 tick, .string ty, .string key, .int .i64 t, .int .i64 q, .slice A vs.length c, .int .i64 T, .string id, .slice E 0 ec, .int .i64 win, .int .i64 cap],
      .agg #[.int .i64 kind, .int .i64 tick, .string ty, .string key, .int .i64 t, .int .i64 q, .slice B vs.length d, .int .i64 T, .string id, .slice F 0 ed, .int .i64 win, .int .i64 cap]] w fun e w' => e = .returned (.bool true) ∧ Below w.heap.size w w' := by
  have H := Lib.hid h
  have G := Lib.hid g
  clear h g
  go_enter Try.func49, Try.ntmps49
  go_wp2_with fail
  refine (ev_yes ty key t q A B c d _ vs ?_ ?_).mono ?_
  · exact (H.out.call (by go_grown))
  · exact (G.out.call (by go_grown))
  rintro e w1 ⟨rfl, hb1⟩
  have hz0 : w.heap.size + 2 ≤ w1.heap.size := by have := hb1.size; simp at this; omega
  have HB1 : Hid (Below w.heap.size w w1) := Lib.hid ((((Below.refl _ w).alloc (Nat.le_refl _) _).alloc (by simp) _).trans (hb1.mono (by simp; omega)))
  have RA := Lib.hid (Row.below ((Row.made w 85 #[.int .i64 kind, .int .i64 tick, .string ty, .string key, .int .i64 t, .int .i64 q, .slice A vs.length c, .int .i64 T, .string id, .slice E 0 ec, .int .i64 win, .int .i64 cap]).alloc (.cells #[.int .i64 kind, .int .i64 tick, .string ty, .string key, .int .i64 t, .int .i64 q, .slice B vs.length d, .int .i64 T, .string id, .slice F 0 ed, .int .i64 win, .int .i64 cap] 85)) hb1 (by simp; omega))
  have RB : Hid (Row w1 (w.heap.size + 1) 85 #[.int .i64 kind, .int .i64 tick, .string ty, .string key, .int .i64 t, .int .i64 q, .slice B vs.length d, .int .i64 T, .string id, .slice F 0 ed, .int .i64 win, .int .i64 cap]) := Lib.hid (by
    have := Row.below (Row.made (w.alloc (.cells #[.int .i64 kind, .int .i64 tick, .string ty, .string key, .int .i64 t, .int .i64 q, .slice A vs.length c, .int .i64 T, .string id, .slice E 0 ec, .int .i64 win, .int .i64 cap] 85)) 85 #[.int .i64 kind, .int .i64 tick, .string ty, .string key, .int .i64 t, .int .i64 q, .slice B vs.length d, .int .i64 T, .string id, .slice F 0 ed, .int .i64 win, .int .i64 cap]) hb1 (by simp)
    rw [World.size_alloc] at this; exact this)
  clear hb1
  have a7 := RA.out.is 7 (v := .int .i64 T) rfl
  have b7 := RB.out.is 7 (v := .int .i64 T) rfl
  have a8 := RA.out.is 8 (v := .string id) rfl
  have b8 := RB.out.is 8 (v := .string id) rfl
  have a9 := RA.out.is 9 (v := .slice E 0 ec) rfl
  have b9 := RB.out.is 9 (v := .slice F 0 ed) rfl
  have a10 := RA.out.is 10 (v := .int .i64 win) rfl
  have b10 := RB.out.is 10 (v := .int .i64 win) rfl
  have a11 := RA.out.is 11 (v := .int .i64 cap) rfl
  have b11 := RB.out.is 11 (v := .int .i64 cap) rfl
  go_wp2_with fail
  refine (q_yes E F ec ed win cap _).mono ?_
  rintro e w2 ⟨rfl, hb2⟩
  have HB2 := Lib.hid (HB1.out.trans (hb2.mono HB1.out.size))
  clear hb2
  go_wp2
  go_ret
  exact ⟨rfl, HB2.out⟩
set_option maxHeartbeats 2000000 in
theorem m_T (vs : List VV) (h : VS w A c vs) (g : VS w B d vs) (T' : Int) (hd : T ≠ T') : Calls Try.prog 49 #[.agg #[.int .i64 kind, .int .i64 tick, .string ty, .string key, .int .i64 t, .int .i64 q, .slice A vs.length c, .int .i64 T, .string id, .slice E 0 ec, .int .i64 win, .int .i64 cap],
      .agg #[.int .i64 kind, .int .i64 tick, .string ty, .string key, .int .i64 t, .int .i64 q, .slice B vs.length d, .int .i64 T', .string id, .slice F 0 ed, .int .i64 win, .int .i64 cap]] w fun e w' => e = .returned (.bool false) ∧ Below w.heap.size w w' := by
  have H := Lib.hid h
  have G := Lib.hid g
  clear h g
  have hdd : (T == T') = false := by simp; exact hd
  clear hd
  go_enter Try.func49, Try.ntmps49
  go_wp2_with fail
  refine (ev_yes ty key t q A B c d _ vs ?_ ?_).mono ?_
  · exact (H.out.call (by go_grown))
  · exact (G.out.call (by go_grown))
  rintro e w1 ⟨rfl, hb1⟩
  have hz0 : w.heap.size + 2 ≤ w1.heap.size := by have := hb1.size; simp at this; omega
  have HB1 : Hid (Below w.heap.size w w1) := Lib.hid ((((Below.refl _ w).alloc (Nat.le_refl _) _).alloc (by simp) _).trans (hb1.mono (by simp; omega)))
  have RA := Lib.hid (Row.below ((Row.made w 85 #[.int .i64 kind, .int .i64 tick, .string ty, .string key, .int .i64 t, .int .i64 q, .slice A vs.length c, .int .i64 T, .string id, .slice E 0 ec, .int .i64 win, .int .i64 cap]).alloc (.cells #[.int .i64 kind, .int .i64 tick, .string ty, .string key, .int .i64 t, .int .i64 q, .slice B vs.length d, .int .i64 T', .string id, .slice F 0 ed, .int .i64 win, .int .i64 cap] 85)) hb1 (by simp; omega))
  have RB : Hid (Row w1 (w.heap.size + 1) 85 #[.int .i64 kind, .int .i64 tick, .string ty, .string key, .int .i64 t, .int .i64 q, .slice B vs.length d, .int .i64 T', .string id, .slice F 0 ed, .int .i64 win, .int .i64 cap]) := Lib.hid (by
    have := Row.below (Row.made (w.alloc (.cells #[.int .i64 kind, .int .i64 tick, .string ty, .string key, .int .i64 t, .int .i64 q, .slice A vs.length c, .int .i64 T, .string id, .slice E 0 ec, .int .i64 win, .int .i64 cap] 85)) 85 #[.int .i64 kind, .int .i64 tick, .string ty, .string key, .int .i64 t, .int .i64 q, .slice B vs.length d, .int .i64 T', .string id, .slice F 0 ed, .int .i64 win, .int .i64 cap]) hb1 (by simp)
    rw [World.size_alloc] at this; exact this)
  clear hb1
  have a7 := RA.out.is 7 (v := .int .i64 T) rfl
  have b7 := RB.out.is 7 (v := .int .i64 T') rfl
  go_wp2
  go_ret
  exact ⟨rfl, HB1.out⟩
set_option maxHeartbeats 2000000 in
theorem m_id (vs : List VV) (h : VS w A c vs) (g : VS w B d vs) (id' : ByteArray) (hd : (id.toList == id'.toList) = false) : Calls Try.prog 49 #[.agg #[.int .i64 kind, .int .i64 tick, .string ty, .string key, .int .i64 t, .int .i64 q, .slice A vs.length c, .int .i64 T, .string id, .slice E 0 ec, .int .i64 win, .int .i64 cap],
      .agg #[.int .i64 kind, .int .i64 tick, .string ty, .string key, .int .i64 t, .int .i64 q, .slice B vs.length d, .int .i64 T, .string id', .slice F 0 ed, .int .i64 win, .int .i64 cap]] w fun e w' => e = .returned (.bool false) ∧ Below w.heap.size w w' := by
  have H := Lib.hid h
  have G := Lib.hid g
  clear h g
  go_enter Try.func49, Try.ntmps49
  go_wp2_with fail
  refine (ev_yes ty key t q A B c d _ vs ?_ ?_).mono ?_
  · exact (H.out.call (by go_grown))
  · exact (G.out.call (by go_grown))
  rintro e w1 ⟨rfl, hb1⟩
  have hz0 : w.heap.size + 2 ≤ w1.heap.size := by have := hb1.size; simp at this; omega
  have HB1 : Hid (Below w.heap.size w w1) := Lib.hid ((((Below.refl _ w).alloc (Nat.le_refl _) _).alloc (by simp) _).trans (hb1.mono (by simp; omega)))
  have RA := Lib.hid (Row.below ((Row.made w 85 #[.int .i64 kind, .int .i64 tick, .string ty, .string key, .int .i64 t, .int .i64 q, .slice A vs.length c, .int .i64 T, .string id, .slice E 0 ec, .int .i64 win, .int .i64 cap]).alloc (.cells #[.int .i64 kind, .int .i64 tick, .string ty, .string key, .int .i64 t, .int .i64 q, .slice B vs.length d, .int .i64 T, .string id', .slice F 0 ed, .int .i64 win, .int .i64 cap] 85)) hb1 (by simp; omega))
  have RB : Hid (Row w1 (w.heap.size + 1) 85 #[.int .i64 kind, .int .i64 tick, .string ty, .string key, .int .i64 t, .int .i64 q, .slice B vs.length d, .int .i64 T, .string id', .slice F 0 ed, .int .i64 win, .int .i64 cap]) := Lib.hid (by
    have := Row.below (Row.made (w.alloc (.cells #[.int .i64 kind, .int .i64 tick, .string ty, .string key, .int .i64 t, .int .i64 q, .slice A vs.length c, .int .i64 T, .string id, .slice E 0 ec, .int .i64 win, .int .i64 cap] 85)) 85 #[.int .i64 kind, .int .i64 tick, .string ty, .string key, .int .i64 t, .int .i64 q, .slice B vs.length d, .int .i64 T, .string id', .slice F 0 ed, .int .i64 win, .int .i64 cap]) hb1 (by simp)
    rw [World.size_alloc] at this; exact this)
  clear hb1
  have a7 := RA.out.is 7 (v := .int .i64 T) rfl
  have b7 := RB.out.is 7 (v := .int .i64 T) rfl
  have a8 := RA.out.is 8 (v := .string id) rfl
  have b8 := RB.out.is 8 (v := .string id') rfl
  go_wp2
  go_ret
  exact ⟨rfl, HB1.out⟩
set_option maxHeartbeats 2000000 in
theorem m_win (vs : List VV) (h : VS w A c vs) (g : VS w B d vs) (win' : Int) (hd : win ≠ win') : Calls Try.prog 49 #[.agg #[.int .i64 kind, .int .i64 tick, .string ty, .string key, .int .i64 t, .int .i64 q, .slice A vs.length c, .int .i64 T, .string id, .slice E 0 ec, .int .i64 win, .int .i64 cap],
      .agg #[.int .i64 kind, .int .i64 tick, .string ty, .string key, .int .i64 t, .int .i64 q, .slice B vs.length d, .int .i64 T, .string id, .slice F 0 ed, .int .i64 win', .int .i64 cap]] w fun e w' => e = .returned (.bool false) ∧ Below w.heap.size w w' := by
  have H := Lib.hid h
  have G := Lib.hid g
  clear h g
  have HD := Lib.hid hd
  clear hd
  go_enter Try.func49, Try.ntmps49
  go_wp2_with fail
  refine (ev_yes ty key t q A B c d _ vs ?_ ?_).mono ?_
  · exact (H.out.call (by go_grown))
  · exact (G.out.call (by go_grown))
  rintro e w1 ⟨rfl, hb1⟩
  have hz0 : w.heap.size + 2 ≤ w1.heap.size := by have := hb1.size; simp at this; omega
  have HB1 : Hid (Below w.heap.size w w1) := Lib.hid ((((Below.refl _ w).alloc (Nat.le_refl _) _).alloc (by simp) _).trans (hb1.mono (by simp; omega)))
  have RA := Lib.hid (Row.below ((Row.made w 85 #[.int .i64 kind, .int .i64 tick, .string ty, .string key, .int .i64 t, .int .i64 q, .slice A vs.length c, .int .i64 T, .string id, .slice E 0 ec, .int .i64 win, .int .i64 cap]).alloc (.cells #[.int .i64 kind, .int .i64 tick, .string ty, .string key, .int .i64 t, .int .i64 q, .slice B vs.length d, .int .i64 T, .string id, .slice F 0 ed, .int .i64 win', .int .i64 cap] 85)) hb1 (by simp; omega))
  have RB : Hid (Row w1 (w.heap.size + 1) 85 #[.int .i64 kind, .int .i64 tick, .string ty, .string key, .int .i64 t, .int .i64 q, .slice B vs.length d, .int .i64 T, .string id, .slice F 0 ed, .int .i64 win', .int .i64 cap]) := Lib.hid (by
    have := Row.below (Row.made (w.alloc (.cells #[.int .i64 kind, .int .i64 tick, .string ty, .string key, .int .i64 t, .int .i64 q, .slice A vs.length c, .int .i64 T, .string id, .slice E 0 ec, .int .i64 win, .int .i64 cap] 85)) 85 #[.int .i64 kind, .int .i64 tick, .string ty, .string key, .int .i64 t, .int .i64 q, .slice B vs.length d, .int .i64 T, .string id, .slice F 0 ed, .int .i64 win', .int .i64 cap]) hb1 (by simp)
    rw [World.size_alloc] at this; exact this)
  clear hb1
  have a7 := RA.out.is 7 (v := .int .i64 T) rfl
  have b7 := RB.out.is 7 (v := .int .i64 T) rfl
  have a8 := RA.out.is 8 (v := .string id) rfl
  have b8 := RB.out.is 8 (v := .string id) rfl
  have a9 := RA.out.is 9 (v := .slice E 0 ec) rfl
  have b9 := RB.out.is 9 (v := .slice F 0 ed) rfl
  have a10 := RA.out.is 10 (v := .int .i64 win) rfl
  have b10 := RB.out.is 10 (v := .int .i64 win') rfl
  have a11 := RA.out.is 11 (v := .int .i64 cap) rfl
  have b11 := RB.out.is 11 (v := .int .i64 cap) rfl
  go_wp2_with fail
  refine (q_win E F 0 0 ec ed win cap win' cap _ HD.out).mono ?_
  rintro e w2 ⟨rfl, hb2⟩
  have HB2 := Lib.hid (HB1.out.trans (hb2.mono HB1.out.size))
  clear hb2
  go_wp2
  go_ret
  exact ⟨rfl, HB2.out⟩
set_option maxHeartbeats 2000000 in
theorem m_el (vs : List VV) (h : VS w A c vs) (g : VS w B d vs) (hd : en ≠ em) : Calls Try.prog 49 #[.agg #[.int .i64 kind, .int .i64 tick, .string ty, .string key, .int .i64 t, .int .i64 q, .slice A vs.length c, .int .i64 T, .string id, .slice E en ec, .int .i64 win, .int .i64 cap],
      .agg #[.int .i64 kind, .int .i64 tick, .string ty, .string key, .int .i64 t, .int .i64 q, .slice B vs.length d, .int .i64 T, .string id, .slice F em ed, .int .i64 win, .int .i64 cap]] w fun e w' => e = .returned (.bool false) ∧ Below w.heap.size w w' := by
  have H := Lib.hid h
  have G := Lib.hid g
  clear h g
  have HD := Lib.hid hd
  clear hd
  go_enter Try.func49, Try.ntmps49
  go_wp2_with fail
  refine (ev_yes ty key t q A B c d _ vs ?_ ?_).mono ?_
  · exact (H.out.call (by go_grown))
  · exact (G.out.call (by go_grown))
  rintro e w1 ⟨rfl, hb1⟩
  have hz0 : w.heap.size + 2 ≤ w1.heap.size := by have := hb1.size; simp at this; omega
  have HB1 : Hid (Below w.heap.size w w1) := Lib.hid ((((Below.refl _ w).alloc (Nat.le_refl _) _).alloc (by simp) _).trans (hb1.mono (by simp; omega)))
  have RA := Lib.hid (Row.below ((Row.made w 85 #[.int .i64 kind, .int .i64 tick, .string ty, .string key, .int .i64 t, .int .i64 q, .slice A vs.length c, .int .i64 T, .string id, .slice E en ec, .int .i64 win, .int .i64 cap]).alloc (.cells #[.int .i64 kind, .int .i64 tick, .string ty, .string key, .int .i64 t, .int .i64 q, .slice B vs.length d, .int .i64 T, .string id, .slice F em ed, .int .i64 win, .int .i64 cap] 85)) hb1 (by simp; omega))
  have RB : Hid (Row w1 (w.heap.size + 1) 85 #[.int .i64 kind, .int .i64 tick, .string ty, .string key, .int .i64 t, .int .i64 q, .slice B vs.length d, .int .i64 T, .string id, .slice F em ed, .int .i64 win, .int .i64 cap]) := Lib.hid (by
    have := Row.below (Row.made (w.alloc (.cells #[.int .i64 kind, .int .i64 tick, .string ty, .string key, .int .i64 t, .int .i64 q, .slice A vs.length c, .int .i64 T, .string id, .slice E en ec, .int .i64 win, .int .i64 cap] 85)) 85 #[.int .i64 kind, .int .i64 tick, .string ty, .string key, .int .i64 t, .int .i64 q, .slice B vs.length d, .int .i64 T, .string id, .slice F em ed, .int .i64 win, .int .i64 cap]) hb1 (by simp)
    rw [World.size_alloc] at this; exact this)
  clear hb1
  have a7 := RA.out.is 7 (v := .int .i64 T) rfl
  have b7 := RB.out.is 7 (v := .int .i64 T) rfl
  have a8 := RA.out.is 8 (v := .string id) rfl
  have b8 := RB.out.is 8 (v := .string id) rfl
  have a9 := RA.out.is 9 (v := .slice E en ec) rfl
  have b9 := RB.out.is 9 (v := .slice F em ed) rfl
  have a10 := RA.out.is 10 (v := .int .i64 win) rfl
  have b10 := RB.out.is 10 (v := .int .i64 win) rfl
  have a11 := RA.out.is 11 (v := .int .i64 cap) rfl
  have b11 := RB.out.is 11 (v := .int .i64 cap) rfl
  go_wp2_with fail
  refine (q_len E F en em ec ed win cap _ HD.out).mono ?_
  rintro e w2 ⟨rfl, hb2⟩
  have HB2 := Lib.hid (HB1.out.trans (hb2.mono HB1.out.size))
  clear hb2
  go_wp2
  go_ret
  exact ⟨rfl, HB2.out⟩
set_option maxHeartbeats 2000000 in
theorem m_kind (kind' : Int) (hd : kind ≠ kind') : Calls Try.prog 49 #[.agg #[.int .i64 kind, .int .i64 tick, .string ty, .string key, .int .i64 t, .int .i64 q, .slice A vn c, .int .i64 T, .string id, .slice E en ec, .int .i64 win, .int .i64 cap],
      .agg #[.int .i64 kind', .int .i64 tick, .string ty, .string key, .int .i64 t, .int .i64 q, .slice B vm d, .int .i64 T, .string id, .slice F em ed, .int .i64 win, .int .i64 cap]] w fun e w' => e = .returned (.bool false) ∧ Below w.heap.size w w' := by
  have hdd : (kind == kind') = false := by simp; exact hd
  clear hd
  go_enter Try.func49, Try.ntmps49
  go_wp2
  go_ret
  exact ⟨rfl, by go_grown⟩
set_option maxHeartbeats 2000000 in
theorem m_tick (tick' : Int) (hd : tick ≠ tick') : Calls Try.prog 49 #[.agg #[.int .i64 kind, .int .i64 tick, .string ty, .string key, .int .i64 t, .int .i64 q, .slice A vn c, .int .i64 T, .string id, .slice E en ec, .int .i64 win, .int .i64 cap],
      .agg #[.int .i64 kind, .int .i64 tick', .string ty, .string key, .int .i64 t, .int .i64 q, .slice B vm d, .int .i64 T, .string id, .slice F em ed, .int .i64 win, .int .i64 cap]] w fun e w' => e = .returned (.bool false) ∧ Below w.heap.size w w' := by
  have hdd : (tick == tick') = false := by simp; exact hd
  clear hd
  go_enter Try.func49, Try.ntmps49
  go_wp2
  go_ret
  exact ⟨rfl, by go_grown⟩
set_option maxHeartbeats 2000000 in
theorem m_seq (q' : Int) (hd : q ≠ q') : Calls Try.prog 49 #[.agg #[.int .i64 kind, .int .i64 tick, .string ty, .string key, .int .i64 t, .int .i64 q, .slice A vn c, .int .i64 T, .string id, .slice E en ec, .int .i64 win, .int .i64 cap],
      .agg #[.int .i64 kind, .int .i64 tick, .string ty, .string key, .int .i64 t, .int .i64 q', .slice B vm d, .int .i64 T, .string id, .slice F em ed, .int .i64 win, .int .i64 cap]] w fun e w' => e = .returned (.bool false) ∧ Below w.heap.size w w' := by
  have HD := Lib.hid hd
  clear hd
  go_enter Try.func49, Try.ntmps49
  go_wp2_with fail
  refine (ev_seq ty key t q A B vn c d _ vm q' HD.out).mono ?_
  rintro e w1 ⟨rfl, hb1⟩
  have HB1 : Hid (Below w.heap.size w w1) := Lib.hid ((((Below.refl _ w).alloc (Nat.le_refl _) _).alloc (by simp) _).trans (hb1.mono (by simp; omega)))
  clear hb1
  go_wp2
  go_ret
  exact ⟨rfl, HB1.out⟩
set_option maxHeartbeats 2000000 in
theorem m_len (hd : vn ≠ vm) : Calls Try.prog 49 #[.agg #[.int .i64 kind, .int .i64 tick, .string ty, .string key, .int .i64 t, .int .i64 q, .slice A vn c, .int .i64 T, .string id, .slice E en ec, .int .i64 win, .int .i64 cap],
      .agg #[.int .i64 kind, .int .i64 tick, .string ty, .string key, .int .i64 t, .int .i64 q, .slice B vm d, .int .i64 T, .string id, .slice F em ed, .int .i64 win, .int .i64 cap]] w fun e w' => e = .returned (.bool false) ∧ Below w.heap.size w w' := by
  have HD := Lib.hid hd
  clear hd
  go_enter Try.func49, Try.ntmps49
  go_wp2_with fail
  refine (ev_len ty key t q A B vn c d _ vm HD.out).mono ?_
  rintro e w1 ⟨rfl, hb1⟩
  have HB1 : Hid (Below w.heap.size w w1) := Lib.hid ((((Below.refl _ w).alloc (Nat.le_refl _) _).alloc (by simp) _).trans (hb1.mono (by simp; omega)))
  clear hb1
  go_wp2
  go_ret
  exact ⟨rfl, HB1.out⟩
end
end Go.Proofs.Ytpgacadnmekdhaa.Ms
