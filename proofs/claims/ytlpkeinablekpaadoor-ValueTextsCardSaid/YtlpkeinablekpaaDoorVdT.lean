/- Parse; a value's text is read as it. -/
import Derived.Test.YtlpkeinablekpaaDoorVdS
namespace Go.Proofs.YtlpkeinablekpaaDoor.Vd
open Go.RowKit Go.Proofs.YtlpkeinablekpaaDoor Go.Proofs.YtlpkeinablekpaaDoor.Door Go.Proofs.YtlpkeinablekpaaDoor.Ev Go.Proofs.YtlpkeinablekpaaDoor.Sch Go.Proofs.YtlpkeinablekpaaDoor.Evl Go.Proofs.YtlpkeinablekpaaDoor.Ty
set_option linter.unusedVariables false
set_option maxRecDepth 100000
def zeroVV : VV := ⟨0, 0, ⟨#[]⟩, false⟩
def PaE (s : ByteArray) (w : World) (e : Ending) (w' : World) : Prop := ∃ v : VV, RdP s v ∧ Below w.heap.size w w' ∧
  ((mayB v = true ∧ e = .returned (.tuple #[.agg #[.int .i64 v.k, .int .i64 v.i, .string v.s, .bool v.b], .bool true])) ∨ (mayB v = false ∧ e = .returned (.tuple #[.agg #[.int .i64 0, .int .i64 0, .string ⟨#[]⟩, .bool false], .bool false])))
set_option maxHeartbeats 1000000 in
theorem parse_any (s : ByteArray) (w : World) (hm : ML w) (hs : s.size < 500000) : Calls Tryd.prog 23 #[.string s] w (PaE s w) := by
  have HM := Lib.hid hm
  have HS := Lib.hid hs
  clear hm hs
  have HX := Lib.hid ((Below.refl _ w).alloc (Nat.le_refl _) (.cells #[.int .i64 0, .int .i64 0, .string ⟨#[]⟩, .bool false] 23))
  have HR : Hid (Rz (w.alloc (.cells #[.int .i64 0, .int .i64 0, .string ⟨#[]⟩, .bool false] 23)) w.heap.size) := Row.made _ _ _
  go_enter Tryd.func23, Tryd.ntmps23
  go_wp2_with fail
  refine (read_any s _ (HM.out.below HX.out) HS.out).mono ?_
  rintro e w1 ⟨⟨k, i, t, b⟩, rfl, hrd, hb⟩
  dsimp only
  have HRD := Lib.hid hrd
  have HB := Lib.hid (HX.out.trans (hb.mono HX.out.size))
  have HZ : Hid (Rz w1 w.heap.size) := Lib.hid (Row.below HR.out hb HR.out.lt)
  have hb4 : Below w1.heap.size w1 (w1.alloc (.cells #[.int .i64 k, .int .i64 i, .string t, .bool b] 23)) := (Below.refl _ _).alloc (Nat.le_refl _) _
  have H4 : Hid (Row (w1.alloc (.cells #[.int .i64 k, .int .i64 i, .string t, .bool b] 23)) w1.heap.size 23 #[.int .i64 k, .int .i64 i, .string t, .bool b]) := Row.made _ _ _
  have HB4 := Lib.hid (HB.out.trans (hb4.mono HB.out.size))
  have HZ4 : Hid (Rz (w1.alloc (.cells #[.int .i64 k, .int .i64 i, .string t, .bool b] 23)) w.heap.size) := Lib.hid (Row.below HZ.out hb4 HZ.out.lt)
  clear hrd hb hb4
  go_wp2_with fail
  refine (vmay_any k i t b _).mono ?_
  rintro e w2 ⟨rfl, hb⟩
  have HB5 := Lib.hid (HB4.out.trans (hb.mono HB4.out.size))
  have HZ5 : Hid (Rz w2 w.heap.size) := Lib.hid (Row.below HZ4.out hb HZ4.out.lt)
  have H5 := Lib.hid (H4.out.below hb H4.out.lt)
  obtain ⟨l1, p10, p11, p12, p13, f10, f11, f12, f13⟩ := HZ5.out.facts
  have q0 := H5.out.is 0 rfl
  have q1 := H5.out.is 1 rfl
  have q2 := H5.out.is 2 rfl
  have q3 := H5.out.is 3 rfl
  clear hb
  generalize w1.heap.size = b4 at H5 q0 q1 q2 q3 ⊢
  cases hy : mayB ⟨k, i, t, b⟩
  · have HY := Lib.hid hy
    clear hy
    go_wp2
    obtain ⟨k0, k1, k2, k3⟩ := four (put4 HZ5.out (.int .i64 0) (.int .i64 0) (.string ⟨#[]⟩) (.bool false))
    exact bodyPost_ret (v := .tuple #[.agg #[.int .i64 0, .int .i64 0, .string ⟨#[]⟩, .bool false], .bool false]) (by simp [results, Tryd.results23, go_sem, k0, k1, k2, k3]; try rfl) rfl ⟨⟨k, i, t, b⟩, HRD.out, below4 HB5.out w.heap.size (by omega) _ _ _ _, .inr ⟨HY.out, rfl⟩⟩
  · have HY := Lib.hid hy
    clear hy
    go_wp2
    obtain ⟨k0, k1, k2, k3⟩ := four (put4 HZ5.out (.int .i64 k) (.int .i64 i) (.string t) (.bool b))
    exact bodyPost_ret (v := .tuple #[.agg #[.int .i64 k, .int .i64 i, .string t, .bool b], .bool true]) (by simp [results, Tryd.results23, go_sem, k0, k1, k2, k3]; try rfl) rfl ⟨⟨k, i, t, b⟩, HRD.out, below4 HB5.out w.heap.size (by omega) _ _ _ _, .inl ⟨HY.out, rfl⟩⟩
theorem toNil {s : ByteArray} (h : (s.toList == []) = true) : s = ⟨#[]⟩ := bytes_nil (beq_iff_eq.1 h)
theorem may_ok {v : VV} (h : mayB v = true) : OkM v.k v.i v.s v.b := by
  unfold mayB at h
  by_cases h1 : v.k = 1
  · rw [if_pos h1, Bool.and_eq_true] at h
    exact .inl ⟨h1, toNil h.1, by simpa using h.2⟩
  · rw [if_neg h1] at h
    by_cases h2 : v.k = 2
    · rw [if_pos h2, Bool.and_eq_true, Bool.and_eq_true] at h
      exact .inr (.inl ⟨h2, by simpa using h.1.1, by simpa using h.1.2, by simpa using h.2⟩)
    · rw [if_neg h2] at h
      by_cases h3 : v.k = 3
      · rw [if_pos h3, Bool.and_eq_true] at h
        exact .inr (.inr ⟨h3, by simpa using h.1, toNil h.2⟩)
      · rw [if_neg h3] at h; cases h
theorem txt_head {n : Int} (h0 : -9223372036854775808 ≤ n) (h1 : n ≤ 9223372036854775807) (r : List UInt8) : Num.txt n ≠ 39 :: r := by
  intro e
  unfold Num.txt at e
  split at e
  · injection e with e _; cases e
  · have hp := Num.dg_plain (m := n.natAbs) (by omega)
    rw [e] at hp
    have := (Num.plainB_all hp).1
    simp only [List.all_cons, Bool.and_eq_true] at this
    have h39 : Num.isD 39 = false := by decide
    rw [h39] at this
    exact absurd this.1 (by decide)
/-- A value's text is read as it. -/
theorem rd_back {x v : VV} (h0 : -9223372036854775808 ≤ x.i) (h1 : x.i ≤ 9223372036854775807) (hm : mayB x = true) (h : RdP (showB x) v) : v = x := by
  obtain ⟨k, i, s, b⟩ := x
  rcases may_ok hm with ⟨e1, e2, e3⟩ | ⟨e1, e2, e3, e4⟩ | ⟨e1, e2, e3⟩ <;> dsimp only at e1 e2 e3 h0 h1 <;> subst e1 e2 e3
  · have hs : showB ⟨1, i, ⟨#[]⟩, false⟩ = ⟨(Num.txt i).toArray⟩ := rfl
    rw [hs] at h
    obtain ⟨p1, p2⟩ := Num.parse_txt h0 h1
    rcases h with ⟨e, _⟩ | ⟨e, _⟩ | ⟨_, _, ⟨t, e, _⟩ | ⟨_, ⟨_, rfl⟩ | ⟨e, _⟩⟩⟩
    · rw [e] at p2; exact absurd p2 (by decide)
    · rw [e] at p2; exact absurd p2 (by decide)
    · exact absurd (show Num.txt i = 39 :: (dbl t ++ [39]) by simpa using e) (txt_head h0 h1 _)
    · rw [p1]
    · rw [p2] at e; cases e
  · have hs : showB ⟨2, 0, s, false⟩ = B (39 :: (dbl s.data.toList ++ [39])) := rfl
    rw [hs] at h
    rcases h with ⟨e, _⟩ | ⟨e, _⟩ | ⟨_, _, ⟨t, e, rfl⟩ | ⟨hn, _⟩⟩
    · have := congrArg (fun x : ByteArray => x.data.toList) e
      simp only [B_list] at this
      cases this
    · have := congrArg (fun x : ByteArray => x.data.toList) e
      simp only [B_list] at this
      cases this
    · rw [B_list] at e
      have e5 : dbl s.data.toList = dbl t := by simpa using e
      have e6 : s.data.toList = t := by rw [← und_dbl s.data.toList, e5, und_dbl]
      rw [← e6, B_data]
    · exact absurd (B_list _) (hn s.data.toList)
  · have hs : showB ⟨3, 0, ⟨#[]⟩, b⟩ = truthB b := rfl
    rw [hs] at h
    cases b
    · rcases h with ⟨e, _⟩ | ⟨_, rfl⟩ | ⟨_, e, _⟩
      · exact absurd e (by decide)
      · rfl
      · exact absurd rfl e
    · rcases h with ⟨_, rfl⟩ | ⟨e, _⟩ | ⟨e, _⟩
      · rfl
      · exact absurd e (by decide)
      · exact absurd rfl e
/-- What a text is read as, if it may be, has that text. -/
theorem rd_show {s : ByteArray} {v : VV} (h : RdP s v) (hm : mayB v = true) : showB v = s := by
  rcases h with ⟨rfl, rfl⟩ | ⟨rfl, rfl⟩ | ⟨_, _, ⟨t, e, rfl⟩ | ⟨_, ⟨hp, rfl⟩ | ⟨_, rfl⟩⟩⟩
  · rfl
  · rfl
  · show quoteB (B t) = s
    unfold quoteB
    rw [B_list, ← e, B_data]
  · show (⟨(Num.txt (Num.parseV s)).toArray⟩ : ByteArray) = s
    rw [(Num.parse_on hp).1, Array.toArray_toList]
  · exact absurd hm (by unfold mayB; simp)
theorem show_size (v : VV) (h0 : -9223372036854775808 ≤ v.i) (h1 : v.i ≤ 9223372036854775807) (hs : v.s.size ≤ 1000) : (showB v).size ≤ 3000 := by
  unfold showB
  split
  · have := Num.txt_size h0 h1; omega
  · split
    · unfold quoteB
      rw [B_size]
      have := (dbl_len v.s.data.toList).2
      rw [size_len] at this
      simp only [List.length_cons, List.length_append, List.length_nil]
      omega
    · split
      · cases v.b <;> decide
      · decide
end Go.Proofs.YtlpkeinablekpaaDoor.Vd
