/- Texts put together: EvlMa, EvlMb, EvlMc. -/
import Derived.Test.YtopbildpeojgoaaEvlFd
import Derived.Test.YtopbildpeojgoaaEvlX
import Derived.Test.YtopbildpeojgoaaEvB
import Derived.Test.YtopbildpeojgoaaTyS
import Derived.Test.YtopbildpeojgoaaLaw
import Derived.Deep.RegionLaw
import Derived.Deep.Cut
import Derived.Deep.DeepCutAuto
import Derived.Test.YtopbildpeojgoaaEvO
import Derived.Test.YtopbildpeojgoaaOpen4
section
namespace Go.Proofs.Ytopbildpeojgoaa.Evl
open Go.RowKit Go.Proofs.Ytopbildpeojgoaa Go.Proofs.Ytopbildpeojgoaa.Ev Go.Proofs.Ytopbildpeojgoaa.Sch Go.Proofs.Ytopbildpeojgoaa.Ty Go.Proofs.Ytopbildpeojgoaa.Num
set_option linter.unusedVariables false
set_option maxRecDepth 100000
theorem ty3_cases (k : Nat) (hk : k < 3) : (k = 0 ∧ ty3 k = ⟨#[65]⟩) ∨ (k = 1 ∧ ty3 k = ⟨#[66]⟩) ∨ (k = 2 ∧ ty3 k = ⟨#[67]⟩) := by
  match k, hk with
  | 0, _ => exact .inl ⟨rfl, rfl⟩
  | 1, _ => exact .inr (.inl ⟨rfl, rfl⟩)
  | 2, _ => exact .inr (.inr ⟨rfl, rfl⟩)
/-- What ref03.Event makes of an event, its values beside it. -/
def mkE (x : EI) : Evt := ⟨ty3 x.k, key3 (x.key.size % 3), x.t % 16, 0, evVals x.k x.n x.s x.b⟩
theorem mkE_t (x : EI) : EvT (mkE x) := by
  unfold mkE EvT
  dsimp only
  rcases ty3_cases x.k x.k_lt with ⟨h, e⟩ | ⟨h, e⟩ | ⟨h, e⟩
  · exact .inl ⟨e, by rw [h]; rfl⟩
  · exact .inr (.inl ⟨e, by rw [h]; rfl⟩)
  · exact .inr (.inr ⟨e, by rw [h]; rfl⟩)
theorem mkE_c (x : EI) : ∀ y ∈ (mkE x).vs, Cl y := by
  intro z hz
  have hn : In64 x.n := by unfold EI.n; split <;> exact ⟨by omega, by omega⟩
  unfold mkE evVals at hz
  dsimp only at hz
  split at hz <;> simp at hz
  · rcases hz with rfl | rfl | rfl
    · exact ⟨in_zero, .inr (.inl ⟨rfl, rfl, rfl⟩)⟩
    · exact ⟨hn, .inl ⟨rfl, rfl, rfl⟩⟩
    · exact ⟨in_zero, .inr (.inr ⟨rfl, rfl, rfl⟩)⟩
  · rcases hz with rfl | rfl
    · exact ⟨hn, .inl ⟨rfl, rfl, rfl⟩⟩
    · exact ⟨in_zero, .inr (.inl ⟨rfl, rfl, rfl⟩)⟩
def envE (x y : EI) : List Bn := [⟨⟨#[97]⟩, mkE x⟩, ⟨⟨#[98]⟩, mkE y⟩]
theorem envE_t (x y : EI) : ∀ b ∈ envE x y, EvT b.ev := by
  intro b hb
  simp [envE] at hb
  rcases hb with rfl | rfl <;> exact mkE_t _
theorem envE_c (x y : EI) : EnC (envE x y) := by
  intro b hb
  simp [envE] at hb
  rcases hb with rfl | rfl <;> exact mkE_c _
theorem truth_two (A : Option Addr) (n c : Nat) (f : Nat → Int) (ln : n ≤ c) (lc : c ≤ 9223372036854775807) (a : Nat) (w : World) (ha : a + tb 2 ≤ 100000) (hlb : ∃ B, Lies w B A n (fun k => .int .i64 (f k)) ∧ B ≤ w.heap.size) :
    Calls Try.prog 29 #[.slice A n c, .int .i64 a, .int .i64 (2 : Nat)] w (MadePost w 3 (tb 2) a (tb 2)) := by
  refine truth_leaf A n c f ln lc a 2 (by decide) w ha hlb (Lib.hid fun d hd a w ha hlb => ?_)
  obtain rfl : d = 1 := by omega
  refine truth_leaf A n c f ln lc a 1 (by decide) w ha hlb (Lib.hid fun d hd a w ha hlb => ?_)
  obtain rfl : d = 0 := by omega
  exact truth_leaf A n c f ln lc a 0 (by decide) w ha hlb (Lib.hid fun d hd => by omega)
theorem gn_ns {w w' : World} {v : Value} {L : List Nd} (h : Gn w w' v L) : Ns w' w'.heap.size v L := by
  obtain ⟨ob, hs, _⟩ := h.ex
  obtain ⟨A, c, rfl, _⟩ := hs.form
  exact ns_seg hs rfl
/-- The reference's Eval from the last part of a whole predicate. -/
theorem ref_any (v en : Value) (L : List Nd) (es : List Bn) (w : World) (hl : Ns w w.heap.size v L) (he : En w w.heap.size en es) (hec : EnC es) (het : ∀ b ∈ es, EvT b.ev) (hg : Ty.Good L) (hi : ∀ n ∈ L, In64 n.i) (m : Int) (hm : m = (L.length : Int) - 1) :
    Calls Try.prog 33 #[v, en, .int .i64 m] w (RfPost w (evM typesL es L []) 0) := by
  obtain ⟨t, ht, rfl⟩ := parse hg hi
  rw [evM_whole ht]
  have := ref_tree v en t.flat typesL es w hl hec (fun j va fd hj X hX => ref_fld v en t.flat es j va fd X (hl.below hX hX.size) (he.below hX hX.size) het hj) ht [] [] (by simp) w (Below.refl _ w)
  simp only [List.length_nil, Nat.zero_add] at this
  rw [hm]
  exact this
set_option maxHeartbeats 2000000 in
theorem ref_holds (v en : Value) (L : List Nd) (es : List Bn) (w : World) (hl : Ns w w.heap.size v L) (he : En w w.heap.size en es) (hec : EnC es) (het : ∀ b ∈ es, EvT b.ev) (hg : Ty.Good L) (hi : ∀ n ∈ L, In64 n.i) :
    Calls Try.prog 35 #[v, en] w fun e w' => e = .returned (.bool (holdM (evM typesL es L []))) ∧ Below w.heap.size w w' := by
  have HE := Lib.hid (ref_any v en L es w hl he hec het hg hi)
  have hpos := Good.pos hg
  obtain ⟨eA, ec, rfl, _, _, _⟩ := he
  obtain ⟨A, c, rfl, hnc, hcm, _⟩ := hl
  obtain ⟨n, hn⟩ : ∃ n, L.length = n := ⟨_, rfl⟩
  obtain ⟨r, hr⟩ : ∃ r, evM typesL es L [] = r := ⟨_, rfl⟩
  rw [hn] at HE hpos hnc ⊢
  rw [hr] at HE ⊢
  have hn0 : ((n : Int) == 0) = false := by simp; omega
  have hn1 : ¬ n = 0 := by omega
  have hnb : IntKind.i64.wrap ((n : Int) - 1) = (n : Int) - 1 := by rw [IntKind.wrap_i64]; omega
  have HM := Lib.hid (HE.out ((n : Int) - 1) rfl)
  clear hec het hg hi hr hn hnc HE
  go_enter Try.func35, Try.ntmps35
  go_wp2_with fail
  refine HM.out.mono ?_
  rintro e w1 ⟨k, i, s, b, rfl, hy, hb⟩
  cases r with
  | none =>
    go_wp2
    go_ret
    exact ⟨rfl, hb.alloc hb.size _⟩
  | some y =>
    obtain rfl := hy _ rfl
    by_cases hk : k = 3
    · subst hk
      go_wp2
      go_ret
      exact ⟨by show Ending.returned (.bool b) = _; simp [holdM], hb.alloc hb.size _⟩
    · have hkf : (k == 3) = false := by simpa using hk
      go_wp2
      go_ret
      exact ⟨by show Ending.returned (.bool false) = _; simp [holdM, hkf], hb.alloc hb.size _⟩
end Go.Proofs.Ytopbildpeojgoaa.Evl
end

section
namespace Go.Proofs.Ytopbildpeojgoaa.Evl
open Go.RowKit Go.Proofs.Ytopbildpeojgoaa Go.Proofs.Ytopbildpeojgoaa.Ev Go.Proofs.Ytopbildpeojgoaa.Sch Go.Proofs.Ytopbildpeojgoaa.Ty Go.Proofs.Ytopbildpeojgoaa.Num
set_option linter.unusedVariables false
set_option maxRecDepth 100000
def EvMade (X : World) (ty key : ByteArray) (t q : Int) (m : Nat) (L : List VV) (e : Ending) (w' : World) : Prop := ∃ vb : Nat, e = .returned (.agg #[.string ty, .string key, .int .i64 t, .int .i64 q, .slice (some ⟨vb, 0, none⟩) m m]) ∧ VL w' w'.heap.size (.slice (some ⟨vb, 0, none⟩) m m) L ∧ Below X.heap.size X w'
theorem event_made (x : EI) (X : World) (h : EIOk X X.heap.size x) :
    Calls Try.prog 28 #[.agg #[.string x.ty, .string x.key, .int .i64 x.t, .int .i64 x.q, .slice x.va x.vn x.vc]] X (EvMade X (mkE x).ty (mkE x).key (mkE x).t (mkE x).q (mkE x).vs.length (mkE x).vs) := by
  refine (event_any x X h).mono ?_
  rintro e w' ⟨vb, rfl, hok, hb⟩
  exact ⟨vb, rfl, vl_row hok.row (L := (x.made vb).vs) (by simp) rfl (by have := hok.ln; have e : (x.made vb).vs.length = (mkE x).vs.length := rfl; omega), hb⟩
def EnvAt (w2 wx : World) (e1 e2 : Evt) (v : Value) : Prop := En wx wx.heap.size v [⟨⟨#[97]⟩, e1⟩, ⟨⟨#[98]⟩, e2⟩] ∧ Below w2.heap.size w2 wx
theorem env_at {w2 W : World} {ty1 key1 ty2 key2 : ByteArray} {t1 q1 t2 q2 : Int} {v1 v2 : Value} {L1 L2 : List VV} (hb : Below w2.heap.size w2 W) (h1 : VL W W.heap.size v1 L1) (h2 : VL W W.heap.size v2 L2) {g : Nat} (hg : g = W.heap.size) :
    EnvAt w2 (W.alloc (.cells #[.string ⟨#[97]⟩, .string ty1, .string key1, .int .i64 t1, .int .i64 q1, v1, .string ⟨#[98]⟩, .string ty2, .string key2, .int .i64 t2, .int .i64 q2, v2] 51)) ⟨ty1, key1, t1, q1, L1⟩ ⟨ty2, key2, t2, q2, L2⟩ (.slice (some ⟨g, 0, none⟩) 2 2) := by
  subst hg
  have hX : Below W.heap.size W (W.alloc (.cells #[.string ⟨#[97]⟩, .string ty1, .string key1, .int .i64 t1, .int .i64 q1, v1, .string ⟨#[98]⟩, .string ty2, .string key2, .int .i64 t2, .int .i64 q2, v2] 51)) := (Below.refl _ W).alloc (Nat.le_refl _) _
  exact ⟨en_row2 (Row.made W _ _) (h1.below hX hX.size) (h2.below hX hX.size), hb.trans (hX.mono hb.size)⟩
theorem EnvAt.drew {w2 wx : World} {e1 e2 : Evt} {v : Value} (h : EnvAt w2 wx e1 e2 v) : EnvAt w2 wx.drew e1 e2 v := ⟨h.1, h.2.drew⟩
set_option maxHeartbeats 16000000 in
theorem made_law (A : Option Addr) (n c : Nat) (f : Nat → Int) (ln : n ≤ c) (lc : c ≤ 9223372036854775807) (lb : ∀ k, -9223372036854775808 ≤ f k ∧ f k ≤ 9223372036854775807) {w : World} (ll : Lies w w.heap.size A n (fun k => .int .i64 (f k)))
    (x y : EI) (hx : EIOk w w.heap.size x) (hy : EIOk w w.heap.size y) :
    Calls Try.prog 4 #[.slice A n c, .agg #[.string x.ty, .string x.key, .int .i64 x.t, .int .i64 x.q, .slice x.va x.vn x.vc], .agg #[.string y.ty, .string y.key, .int .i64 y.t, .int .i64 y.q, .slice y.va y.vn y.vc]] w fun e w' => e = .returned (.bool true) ∧ Below w.heap.size w w' := by
  obtain ⟨W0, hW0⟩ : ∃ W0, (w.alloc (.cells #[.string x.ty, .string x.key, .int .i64 x.t, .int .i64 x.q, .slice x.va x.vn x.vc] 42)).alloc (.cells #[.string y.ty, .string y.key, .int .i64 y.t, .int .i64 y.q, .slice y.va y.vn y.vc] 42) = W0 := ⟨_, rfl⟩
  have hX : Below w.heap.size w W0 := by rw [← hW0]; exact ((Below.refl _ w).alloc (Nat.le_refl _) _).alloc (by simp) _
  have hr1 : Row W0 w.heap.size 42 #[.string x.ty, .string x.key, .int .i64 x.t, .int .i64 x.q, .slice x.va x.vn x.vc] := by rw [← hW0]; exact (Row.made w _ _).alloc _
  have hr2 : Row W0 (w.heap.size + 1) 42 #[.string y.ty, .string y.key, .int .i64 y.t, .int .i64 y.q, .slice y.va y.vn y.vc] := by rw [← hW0]; exact row_at (by simp) _ _
  have HR1 := Lib.hid hr1
  have HR2 := Lib.hid hr2
  have HX := Lib.hid hX
  have HL := Lib.hid ll
  have HVA := Lib.hid (fun X (h : Below w.heap.size w X) => event_made x X ((hx.below h).mono h.size))
  have HVB := Lib.hid (fun X (h : Below w.heap.size w X) => event_made y X ((hy.below h).mono h.size))
  have HET : Hid (∀ b ∈ envE x y, EvT b.ev) := Lib.hid (envE_t x y)
  have HEC : Hid (EnC (envE x y)) := Lib.hid (envE_c x y)
  unfold envE at HET HEC
  obtain ⟨⟨ty1, key1, t1, q1, L1⟩, he1⟩ : ∃ e1, mkE x = e1 := ⟨_, rfl⟩
  obtain ⟨⟨ty2, key2, t2, q2, L2⟩, he2⟩ : ∃ e2, mkE y = e2 := ⟨_, rfl⟩
  rw [he1] at HVA HET HEC
  rw [he2] at HVB HET HEC
  dsimp only at HVA HVB
  obtain ⟨m1, hm1⟩ : ∃ m, L1.length = m := ⟨_, rfl⟩
  obtain ⟨m2, hm2⟩ : ∃ m, L2.length = m := ⟨_, rfl⟩
  rw [hm1] at HVA
  rw [hm2] at HVB
  clear ll lb hx hy hX hr1 hr2 he1 he2 hm1 hm2
  go_enter Try.func4, Try.ntmps4
  go_wp2_with fail
  refine (types_any _).mono ?_
  rintro e w1 ⟨v1, rfl, ht1, hb1⟩
  have HT1 := Lib.hid ht1
  clear ht1
  go_wp2_with fail
  refine (new_any _ typesL _ _ HT1.out (Nat.le_refl _)).mono ?_
  rintro e w2 ⟨p, cc, rfl, hr, hsc, _, hb2⟩
  obtain rfl := typesL_ok hr
  have hb12 : Below W0.heap.size W0 w2 := hb1.trans (hb2.mono hb1.size)
  have HS2 := Lib.hid (hsc rfl)
  have HB2 := Lib.hid (HX.out.trans (hb12.mono HX.out.size))
  have HR12 := Lib.hid (Row.below HR1.out hb12 HR1.out.lt)
  have HR22 := Lib.hid (Row.below HR2.out hb12 HR2.out.lt)
  clear hb1 hb2 hr hsc hb12 HR1 HR2 HX hW0
  go_upto_region 2 with fail
  go_cut [9] (fun s9 wx => ∃ g : Nat, s9 = .slice (some ⟨g, 0, none⟩) 2 2 ∧ Hid (EnvAt w2 wx ⟨ty1, key1, t1, q1, L1⟩ ⟨ty2, key2, t2, q2, L2⟩ (.slice (some ⟨g, 0, none⟩) 2 2)))
  case first =>
    have HC := Lib.hid (Below.refl w2.heap.size w2)
    have e0 : w2.cell? ⟨w.heap.size, 0, none⟩ = some (.string x.ty) := (HR12.out.cell 0).trans rfl
    have e1 : w2.cell? ⟨w.heap.size, 1, none⟩ = some (.string x.key) := (HR12.out.cell 1).trans rfl
    have e2 : w2.cell? ⟨w.heap.size, 2, none⟩ = some (.int .i64 x.t) := (HR12.out.cell 2).trans rfl
    have e3 : w2.cell? ⟨w.heap.size, 3, none⟩ = some (.int .i64 x.q) := (HR12.out.cell 3).trans rfl
    have e4 : w2.cell? ⟨w.heap.size, 4, none⟩ = some (.slice x.va x.vn x.vc) := (HR12.out.cell 4).trans rfl
    have f0 : w2.cell? ⟨w.heap.size + 1, 0, none⟩ = some (.string y.ty) := (HR22.out.cell 0).trans rfl
    have f1 : w2.cell? ⟨w.heap.size + 1, 1, none⟩ = some (.string y.key) := (HR22.out.cell 1).trans rfl
    have f2 : w2.cell? ⟨w.heap.size + 1, 2, none⟩ = some (.int .i64 y.t) := (HR22.out.cell 2).trans rfl
    have f3 : w2.cell? ⟨w.heap.size + 1, 3, none⟩ = some (.int .i64 y.q) := (HR22.out.cell 3).trans rfl
    have f4 : w2.cell? ⟨w.heap.size + 1, 4, none⟩ = some (.slice y.va y.vn y.vc) := (HR22.out.cell 4).trans rfl
    go_region_law (
      (go_simp
       go_at_call 28
       (first
         | ((with_reducible refine (HVA.out _ (by first | exact HB2.out.trans (HC.out.mono HB2.out.size) | exact HB2.out.trans (HC.out.drew.mono HB2.out.size))).mono ?_)
            rintro e w3 ⟨va, rfl, hva, hbv⟩
            have HVLA := Lib.hid hva
            have HC : Hid (Below w2.heap.size w2 w3) := Lib.hid (by first | exact HC.out.trans (hbv.mono HC.out.size) | exact HC.out.drew.trans (hbv.mono HC.out.size))
            try have HVLB := Lib.hid (HVLB.out.below hbv hbv.size)
            have HR22' := Lib.hid (Row.below HR22.out HC.out HR22.out.lt)
            have f0 : w3.cell? ⟨w.heap.size + 1, 0, none⟩ = some (.string y.ty) := (HR22'.out.cell 0).trans rfl
            have f1 : w3.cell? ⟨w.heap.size + 1, 1, none⟩ = some (.string y.key) := (HR22'.out.cell 1).trans rfl
            have f2 : w3.cell? ⟨w.heap.size + 1, 2, none⟩ = some (.int .i64 y.t) := (HR22'.out.cell 2).trans rfl
            have f3 : w3.cell? ⟨w.heap.size + 1, 3, none⟩ = some (.int .i64 y.q) := (HR22'.out.cell 3).trans rfl
            have f4 : w3.cell? ⟨w.heap.size + 1, 4, none⟩ = some (.slice y.va y.vn y.vc) := (HR22'.out.cell 4).trans rfl
            clear hva hbv)
         | ((with_reducible refine (HVB.out _ (by first | exact HB2.out.trans (HC.out.mono HB2.out.size) | exact HB2.out.trans (HC.out.drew.mono HB2.out.size))).mono ?_)
            rintro e w4 ⟨vb, rfl, hvb, hbv⟩
            have HVLB := Lib.hid hvb
            have HC : Hid (Below w2.heap.size w2 w4) := Lib.hid (by first | exact HC.out.trans (hbv.mono HC.out.size) | exact HC.out.drew.trans (hbv.mono HC.out.size))
            try have HVLA := Lib.hid (HVLA.out.below hbv hbv.size)
            have HR12' := Lib.hid (Row.below HR12.out HC.out HR12.out.lt)
            have e0 : w4.cell? ⟨w.heap.size, 0, none⟩ = some (.string x.ty) := (HR12'.out.cell 0).trans rfl
            have e1 : w4.cell? ⟨w.heap.size, 1, none⟩ = some (.string x.key) := (HR12'.out.cell 1).trans rfl
            have e2 : w4.cell? ⟨w.heap.size, 2, none⟩ = some (.int .i64 x.t) := (HR12'.out.cell 2).trans rfl
            have e3 : w4.cell? ⟨w.heap.size, 3, none⟩ = some (.int .i64 x.q) := (HR12'.out.cell 3).trans rfl
            have e4 : w4.cell? ⟨w.heap.size, 4, none⟩ = some (.slice x.va x.vn x.vc) := (HR12'.out.cell 4).trans rfl
            clear hvb hbv))))
    all_goals
      go_wp2_with fail
      go_meet
      exact ⟨_, rfl, Lib.hid (by first | exact env_at HC.out HVLA.out HVLB.out rfl | exact (env_at HC.out HVLA.out HVLB.out rfl).drew)⟩
  case rest =>
    obtain ⟨g, rfl, hen⟩ := hcut
    obtain ⟨es, hes⟩ : ∃ es : List Bn, [⟨⟨#[97]⟩, ⟨ty1, key1, t1, q1, L1⟩⟩, ⟨⟨#[98]⟩, ⟨ty2, key2, t2, q2, L2⟩⟩] = es := ⟨_, rfl⟩
    unfold EnvAt at hen
    rw [hes] at hen HET HEC
    have HEN := Lib.hid hen.out.1
    have HSC := Lib.hid (HS2.out.below hen.out.2 hen.out.2.size)
    have HBC := Lib.hid (HB2.out.trans (hen.out.2.mono HB2.out.size))
    have h1 := truth_two A n c f ln lc 0 wc (by decide) ⟨_, HL.out.below HBC.out, HBC.out.size⟩
    have H1 := Lib.hid h1
    clear h1 hen hes HVA HVB HR12 HR22 HB2 HS2 HT1
    go_wp2_with fail
    refine H1.out.mono ?_
    rintro e w3 ⟨v3, L3, a3, rfl, hg3, hp3, _⟩
    have HN3 := Lib.hid (gn_ns hg3)
    have HP3 := Lib.hid (hp3 0 0 0)
    have HB3 := Lib.hid hg3.be
    have HBW3 := Lib.hid (HBC.out.trans (hg3.be.mono HBC.out.size))
    have h2 := number_any A n c f ln lc 3 0 w3 (by decide) ⟨_, HL.out.below HBW3.out, HBW3.out.size⟩
    have H2 := Lib.hid h2
    obtain ⟨_, hs3, _⟩ := hg3.ex
    obtain ⟨A3, c3, rfl, _⟩ := hs3.form
    clear h2 hg3 hp3 hs3 H1
    go_wp2_with fail
    refine H2.out.mono ?_
    rintro e w4 ⟨v4, L4, a4, rfl, hg4, hp4, _⟩
    have HP4 := Lib.hid (hp4 0 0 0)
    have hb34 : Below wc.heap.size wc w4 := HB3.out.trans (hg4.be.mono HB3.out.size)
    have HN44 := Lib.hid (gn_ns hg4)
    have HN34 := Lib.hid (HN3.out.below hg4.be hg4.be.size)
    have HS4 := Lib.hid (HSC.out.below hb34 hb34.size)
    have HEN4 := Lib.hid (HEN.out.below hb34 hb34.size)
    have HBW4 := Lib.hid (HBC.out.trans (hb34.mono HBC.out.size))
    obtain ⟨_, hs4, _⟩ := hg4.ex
    obtain ⟨A4, c4, rfl, _⟩ := hs4.form
    have HE3 := Lib.hid (fun X (h : Below w4.heap.size w4 X) => eval_good p typesL _ L3 _ es X (HS4.out.below h h.size) (HEN4.out.below h h.size) (HN34.out.below h h.size) (HP3.out.good (by decide)) HP3.out.num HEC.out.b)
    have HE4 := Lib.hid (fun X (h : Below w4.heap.size w4 X) => eval_good p typesL _ L4 _ es X (HS4.out.below h h.size) (HEN4.out.below h h.size) (HN44.out.below h h.size) (HP4.out.good (by decide)) HP4.out.num HEC.out.b)
    have HR3 := Lib.hid (fun X (h : Below w4.heap.size w4 X) => ref_any _ _ L3 es X (HN34.out.below h h.size) (HEN4.out.below h h.size) HEC.out HET.out (HP3.out.good (by decide)) HP3.out.num _ rfl)
    have HR4 := Lib.hid (fun X (h : Below w4.heap.size w4 X) => ref_any _ _ L4 es X (HN44.out.below h h.size) (HEN4.out.below h h.size) HEC.out HET.out (HP4.out.good (by decide)) HP4.out.num _ rfl)
    have HH3 := Lib.hid (fun X (h : Below w4.heap.size w4 X) => holds_good p typesL _ L3 _ es X (HS4.out.below h h.size) (HEN4.out.below h h.size) (HN34.out.below h h.size) (HP3.out.good (by decide)) HP3.out.num HEC.out.b _ rfl)
    have HQ3 := Lib.hid (fun X (h : Below w4.heap.size w4 X) => ref_holds _ _ L3 es X (HN34.out.below h h.size) (HEN4.out.below h h.size) HEC.out HET.out (HP3.out.good (by decide)) HP3.out.num)
    have hl3 : L3.length ≤ 64 := Nat.le_trans HP3.out.len (by decide)
    have hl4 : L4.length ≤ 64 := Nat.le_trans HP4.out.len (by decide)
    obtain ⟨n3, hn3⟩ : ∃ n, L3.length = n := ⟨_, rfl⟩
    obtain ⟨n4, hn4⟩ : ∃ n, L4.length = n := ⟨_, rfl⟩
    obtain ⟨r3, hr3⟩ : ∃ r, evM typesL es L3 [] = r := ⟨_, rfl⟩
    obtain ⟨r4, hr4⟩ : ∃ r, evM typesL es L4 [] = r := ⟨_, rfl⟩
    rw [hn3] at HE3 HR3 HH3 HQ3 hl3 ⊢
    rw [hr3] at HE3 HR3 HH3 HQ3
    rw [hn4] at HE4 HR4 hl4 ⊢
    rw [hr4] at HE4 HR4
    obtain ⟨hh, hhh⟩ : ∃ h, holdM r3 = h := ⟨_, rfl⟩
    rw [hhh] at HH3 HQ3
    have h64a : ¬ (64 : Int) < (n3 : Int) := by omega
    have h64b : ¬ (64 : Int) < (n4 : Int) := by omega
    have hw3 : IntKind.i64.wrap ((n3 : Int) - 1) = (n3 : Int) - 1 := by rw [IntKind.wrap_i64]; omega
    have hw4 : IntKind.i64.wrap ((n4 : Int) - 1) = (n4 : Int) - 1 := by rw [IntKind.wrap_i64]; omega
    clear hg4 hp4 hs4 hb34 HN44 HN34 HS4 HEN4 HEN HSC HN3 HP3 HP4 H2 HBW3 HB3 HBC HEC HET hn3 hn4 hr3 hr4 hhh hl3 hl4 HL
    have HC := Lib.hid (Below.refl w4.heap.size w4)
    unfold RPost at HE3 HE4
    go_wp2_with fail
    refine (HE3.out _ HC.out).mono ?_
    rintro e w5 ⟨rfl, hb5⟩
    have HC5 := Lib.hid (HC.out.trans (hb5.mono HC.out.size))
    clear hb5 HC HE3
    cases r3 with
    | none =>
      dsimp only [Option.getD, Option.isSome, VV.agg, zeroV]
      go_wp2_with fail
      generalize hW : w5.alloc _ = W5
      have hc : Below w5.heap.size w5 W5 := by rw [← hW]; exact (Below.refl _ _).alloc (Nat.le_refl _) _
      have Ra : Hid (Row W5 w5.heap.size 57 #[.int .i64 0, .int .i64 0, .string ⟨#[]⟩, .bool false]) := Lib.hid (by rw [← hW]; exact Row.made _ _ _)
      have HW5 := Lib.hid (HC5.out.trans (hc.mono HC5.out.size))
      clear hc hW
      refine (HR3.out _ HW5.out).mono ?_
      rintro e w6 ⟨k5, i5, s5, b5, rfl, hy, hb⟩
      clear hy
      have HC6 := Lib.hid (HW5.out.trans (hb.mono HW5.out.size))
      have Ra := Lib.hid (Row.below Ra.out hb Ra.out.lt)
      clear hb
      go_wp2_with fail
      generalize hW : w6.alloc _ = W6
      have hc : Below w6.heap.size w6 W6 := by rw [← hW]; exact (Below.refl _ _).alloc (Nat.le_refl _) _
      have Rb : Hid (Row W6 w6.heap.size 57 #[.int .i64 k5, .int .i64 i5, .string s5, .bool b5]) := Lib.hid (by rw [← hW]; exact Row.made _ _ _)
      have Ra := Lib.hid (Row.below Ra.out hc Ra.out.lt)
      have HW6 := Lib.hid (HC6.out.trans (hc.mono HC6.out.size))
      clear hc hW
      refine (HE4.out _ HW6.out).mono ?_
      rintro e w7 ⟨rfl, hb⟩
      have HC7 := Lib.hid (HW6.out.trans (hb.mono HW6.out.size))
      have Ra := Lib.hid (Row.below Ra.out hb Ra.out.lt)
      have Rb := Lib.hid (Row.below Rb.out hb Rb.out.lt)
      clear hb
      cases r4 with
      | none =>
        dsimp only [Option.getD, Option.isSome, VV.agg, zeroV]
        go_wp2_with fail
        generalize hW : w7.alloc _ = W7
        have hc : Below w7.heap.size w7 W7 := by rw [← hW]; exact (Below.refl _ _).alloc (Nat.le_refl _) _
        have Rc : Hid (Row W7 w7.heap.size 57 #[.int .i64 0, .int .i64 0, .string ⟨#[]⟩, .bool false]) := Lib.hid (by rw [← hW]; exact Row.made _ _ _)
        have Ra := Lib.hid (Row.below Ra.out hc Ra.out.lt)
        have Rb := Lib.hid (Row.below Rb.out hc Rb.out.lt)
        have HW7 := Lib.hid (HC7.out.trans (hc.mono HC7.out.size))
        clear hc hW
        refine (HR4.out _ HW7.out).mono ?_
        rintro e w8 ⟨k6, i6, s6, b6, rfl, hy, hb⟩
        clear hy
        have HC8 := Lib.hid (HW7.out.trans (hb.mono HW7.out.size))
        have Ra := Lib.hid (Row.below Ra.out hb Ra.out.lt)
        have Rb := Lib.hid (Row.below Rb.out hb Rb.out.lt)
        have Rc := Lib.hid (Row.below Rc.out hb Rc.out.lt)
        clear hb
        go_wp2_with fail
        generalize hW : w8.alloc _ = W8
        have hc : Below w8.heap.size w8 W8 := by rw [← hW]; exact (Below.refl _ _).alloc (Nat.le_refl _) _
        have Rd : Hid (Row W8 w8.heap.size 57 #[.int .i64 k6, .int .i64 i6, .string s6, .bool b6]) := Lib.hid (by rw [← hW]; exact Row.made _ _ _)
        have Ra := Lib.hid (Row.below Ra.out hc Ra.out.lt)
        have Rb := Lib.hid (Row.below Rb.out hc Rb.out.lt)
        have Rc := Lib.hid (Row.below Rc.out hc Rc.out.lt)
        have HW8 := Lib.hid (HC8.out.trans (hc.mono HC8.out.size))
        clear hc hW
        refine (awake_any _).mono ?_
        rintro e w9 ⟨rfl, hb⟩
        have HC9 := Lib.hid (HW8.out.trans (hb.mono HW8.out.size))
        have Ra := Lib.hid (Row.below Ra.out hb Ra.out.lt)
        have Rb := Lib.hid (Row.below Rb.out hb Rb.out.lt)
        have Rc := Lib.hid (Row.below Rc.out hb Rc.out.lt)
        have Rd := Lib.hid (Row.below Rd.out hb Rd.out.lt)
        clear hb
        have fa0 : w9.cell? ⟨w5.heap.size, 0, none⟩ = some (.int .i64 0) := (Ra.out.cell 0).trans rfl
        have fa1 : w9.cell? ⟨w5.heap.size, 1, none⟩ = some (.int .i64 0) := (Ra.out.cell 1).trans rfl
        have fa2 : w9.cell? ⟨w5.heap.size, 2, none⟩ = some (.string ⟨#[]⟩) := (Ra.out.cell 2).trans rfl
        have fa3 : w9.cell? ⟨w5.heap.size, 3, none⟩ = some (.bool false) := (Ra.out.cell 3).trans rfl
        have fb0 : w9.cell? ⟨w6.heap.size, 0, none⟩ = some (.int .i64 k5) := (Rb.out.cell 0).trans rfl
        have fb1 : w9.cell? ⟨w6.heap.size, 1, none⟩ = some (.int .i64 i5) := (Rb.out.cell 1).trans rfl
        have fb2 : w9.cell? ⟨w6.heap.size, 2, none⟩ = some (.string s5) := (Rb.out.cell 2).trans rfl
        have fb3 : w9.cell? ⟨w6.heap.size, 3, none⟩ = some (.bool b5) := (Rb.out.cell 3).trans rfl
        have fc0 : w9.cell? ⟨w7.heap.size, 0, none⟩ = some (.int .i64 0) := (Rc.out.cell 0).trans rfl
        have fc1 : w9.cell? ⟨w7.heap.size, 1, none⟩ = some (.int .i64 0) := (Rc.out.cell 1).trans rfl
        have fc2 : w9.cell? ⟨w7.heap.size, 2, none⟩ = some (.string ⟨#[]⟩) := (Rc.out.cell 2).trans rfl
        have fc3 : w9.cell? ⟨w7.heap.size, 3, none⟩ = some (.bool false) := (Rc.out.cell 3).trans rfl
        have fd0 : w9.cell? ⟨w8.heap.size, 0, none⟩ = some (.int .i64 k6) := (Rd.out.cell 0).trans rfl
        have fd1 : w9.cell? ⟨w8.heap.size, 1, none⟩ = some (.int .i64 i6) := (Rd.out.cell 1).trans rfl
        have fd2 : w9.cell? ⟨w8.heap.size, 2, none⟩ = some (.string s6) := (Rd.out.cell 2).trans rfl
        have fd3 : w9.cell? ⟨w8.heap.size, 3, none⟩ = some (.bool b6) := (Rd.out.cell 3).trans rfl
        go_wp2_with fail
        refine (HH3.out _ HC9.out).mono ?_
        rintro e w10 ⟨rfl, hb⟩
        have HC10 := Lib.hid (HC9.out.trans (hb.mono HC9.out.size))
        have Ra := Lib.hid (Row.below Ra.out hb Ra.out.lt)
        clear hb
        go_wp2_with fail
        refine (HQ3.out _ HC10.out).mono ?_
        rintro e w11 ⟨rfl, hb⟩
        have HC11 := Lib.hid (HC10.out.trans (hb.mono HC10.out.size))
        have Ra := Lib.hid (Row.below Ra.out hb Ra.out.lt)
        clear hb
        have fz0 : w11.cell? ⟨w5.heap.size, 0, none⟩ = some (.int .i64 0) := (Ra.out.cell 0).trans rfl
        have fz1 : w11.cell? ⟨w5.heap.size, 1, none⟩ = some (.int .i64 0) := (Ra.out.cell 1).trans rfl
        have fz2 : w11.cell? ⟨w5.heap.size, 2, none⟩ = some (.string ⟨#[]⟩) := (Ra.out.cell 2).trans rfl
        have fz3 : w11.cell? ⟨w5.heap.size, 3, none⟩ = some (.bool false) := (Ra.out.cell 3).trans rfl
        go_wp2
        go_ret
        exact ⟨rfl, HBW4.out.trans (HC11.out.mono HBW4.out.size)⟩
      | some y =>
        obtain ⟨k4, i4, s4, b4⟩ := y
        dsimp only [Option.getD, Option.isSome, VV.agg, zeroV]
        go_wp2_with fail
        generalize hW : w7.alloc _ = W7
        have hc : Below w7.heap.size w7 W7 := by rw [← hW]; exact (Below.refl _ _).alloc (Nat.le_refl _) _
        have Rc : Hid (Row W7 w7.heap.size 57 #[.int .i64 k4, .int .i64 i4, .string s4, .bool b4]) := Lib.hid (by rw [← hW]; exact Row.made _ _ _)
        have Ra := Lib.hid (Row.below Ra.out hc Ra.out.lt)
        have Rb := Lib.hid (Row.below Rb.out hc Rb.out.lt)
        have HW7 := Lib.hid (HC7.out.trans (hc.mono HC7.out.size))
        clear hc hW
        refine (HR4.out _ HW7.out).mono ?_
        rintro e w8 ⟨k6, i6, s6, b6, rfl, hy, hb⟩
        injection hy _ rfl with g1 g2 g3 g4
        subst g1 g2 g3 g4
        have HC8 := Lib.hid (HW7.out.trans (hb.mono HW7.out.size))
        have Ra := Lib.hid (Row.below Ra.out hb Ra.out.lt)
        have Rb := Lib.hid (Row.below Rb.out hb Rb.out.lt)
        have Rc := Lib.hid (Row.below Rc.out hb Rc.out.lt)
        clear hb
        go_wp2_with fail
        generalize hW : w8.alloc _ = W8
        have hc : Below w8.heap.size w8 W8 := by rw [← hW]; exact (Below.refl _ _).alloc (Nat.le_refl _) _
        have Rd : Hid (Row W8 w8.heap.size 57 #[.int .i64 k4, .int .i64 i4, .string s4, .bool b4]) := Lib.hid (by rw [← hW]; exact Row.made _ _ _)
        have Ra := Lib.hid (Row.below Ra.out hc Ra.out.lt)
        have Rb := Lib.hid (Row.below Rb.out hc Rb.out.lt)
        have Rc := Lib.hid (Row.below Rc.out hc Rc.out.lt)
        have HW8 := Lib.hid (HC8.out.trans (hc.mono HC8.out.size))
        clear hc hW
        refine (awake_any _).mono ?_
        rintro e w9 ⟨rfl, hb⟩
        have HC9 := Lib.hid (HW8.out.trans (hb.mono HW8.out.size))
        have Ra := Lib.hid (Row.below Ra.out hb Ra.out.lt)
        have Rb := Lib.hid (Row.below Rb.out hb Rb.out.lt)
        have Rc := Lib.hid (Row.below Rc.out hb Rc.out.lt)
        have Rd := Lib.hid (Row.below Rd.out hb Rd.out.lt)
        clear hb
        have fa0 : w9.cell? ⟨w5.heap.size, 0, none⟩ = some (.int .i64 0) := (Ra.out.cell 0).trans rfl
        have fa1 : w9.cell? ⟨w5.heap.size, 1, none⟩ = some (.int .i64 0) := (Ra.out.cell 1).trans rfl
        have fa2 : w9.cell? ⟨w5.heap.size, 2, none⟩ = some (.string ⟨#[]⟩) := (Ra.out.cell 2).trans rfl
        have fa3 : w9.cell? ⟨w5.heap.size, 3, none⟩ = some (.bool false) := (Ra.out.cell 3).trans rfl
        have fb0 : w9.cell? ⟨w6.heap.size, 0, none⟩ = some (.int .i64 k5) := (Rb.out.cell 0).trans rfl
        have fb1 : w9.cell? ⟨w6.heap.size, 1, none⟩ = some (.int .i64 i5) := (Rb.out.cell 1).trans rfl
        have fb2 : w9.cell? ⟨w6.heap.size, 2, none⟩ = some (.string s5) := (Rb.out.cell 2).trans rfl
        have fb3 : w9.cell? ⟨w6.heap.size, 3, none⟩ = some (.bool b5) := (Rb.out.cell 3).trans rfl
        have fc0 : w9.cell? ⟨w7.heap.size, 0, none⟩ = some (.int .i64 k4) := (Rc.out.cell 0).trans rfl
        have fc1 : w9.cell? ⟨w7.heap.size, 1, none⟩ = some (.int .i64 i4) := (Rc.out.cell 1).trans rfl
        have fc2 : w9.cell? ⟨w7.heap.size, 2, none⟩ = some (.string s4) := (Rc.out.cell 2).trans rfl
        have fc3 : w9.cell? ⟨w7.heap.size, 3, none⟩ = some (.bool b4) := (Rc.out.cell 3).trans rfl
        have fd0 : w9.cell? ⟨w8.heap.size, 0, none⟩ = some (.int .i64 k4) := (Rd.out.cell 0).trans rfl
        have fd1 : w9.cell? ⟨w8.heap.size, 1, none⟩ = some (.int .i64 i4) := (Rd.out.cell 1).trans rfl
        have fd2 : w9.cell? ⟨w8.heap.size, 2, none⟩ = some (.string s4) := (Rd.out.cell 2).trans rfl
        have fd3 : w9.cell? ⟨w8.heap.size, 3, none⟩ = some (.bool b4) := (Rd.out.cell 3).trans rfl
        go_wp2_with fail
        refine (HH3.out _ HC9.out).mono ?_
        rintro e w10 ⟨rfl, hb⟩
        have HC10 := Lib.hid (HC9.out.trans (hb.mono HC9.out.size))
        have Ra := Lib.hid (Row.below Ra.out hb Ra.out.lt)
        clear hb
        go_wp2_with fail
        refine (HQ3.out _ HC10.out).mono ?_
        rintro e w11 ⟨rfl, hb⟩
        have HC11 := Lib.hid (HC10.out.trans (hb.mono HC10.out.size))
        have Ra := Lib.hid (Row.below Ra.out hb Ra.out.lt)
        clear hb
        have fz0 : w11.cell? ⟨w5.heap.size, 0, none⟩ = some (.int .i64 0) := (Ra.out.cell 0).trans rfl
        have fz1 : w11.cell? ⟨w5.heap.size, 1, none⟩ = some (.int .i64 0) := (Ra.out.cell 1).trans rfl
        have fz2 : w11.cell? ⟨w5.heap.size, 2, none⟩ = some (.string ⟨#[]⟩) := (Ra.out.cell 2).trans rfl
        have fz3 : w11.cell? ⟨w5.heap.size, 3, none⟩ = some (.bool false) := (Ra.out.cell 3).trans rfl
        go_wp2
        go_ret
        exact ⟨rfl, HBW4.out.trans (HC11.out.mono HBW4.out.size)⟩
    | some y =>
      obtain ⟨k3, i3, s3, b3⟩ := y
      dsimp only [Option.getD, Option.isSome, VV.agg, zeroV]
      go_wp2_with fail
      generalize hW : w5.alloc _ = W5
      have hc : Below w5.heap.size w5 W5 := by rw [← hW]; exact (Below.refl _ _).alloc (Nat.le_refl _) _
      have Ra : Hid (Row W5 w5.heap.size 57 #[.int .i64 k3, .int .i64 i3, .string s3, .bool b3]) := Lib.hid (by rw [← hW]; exact Row.made _ _ _)
      have HW5 := Lib.hid (HC5.out.trans (hc.mono HC5.out.size))
      clear hc hW
      refine (HR3.out _ HW5.out).mono ?_
      rintro e w6 ⟨k5, i5, s5, b5, rfl, hy, hb⟩
      injection hy _ rfl with g1 g2 g3 g4
      subst g1 g2 g3 g4
      have HC6 := Lib.hid (HW5.out.trans (hb.mono HW5.out.size))
      have Ra := Lib.hid (Row.below Ra.out hb Ra.out.lt)
      clear hb
      go_wp2_with fail
      generalize hW : w6.alloc _ = W6
      have hc : Below w6.heap.size w6 W6 := by rw [← hW]; exact (Below.refl _ _).alloc (Nat.le_refl _) _
      have Rb : Hid (Row W6 w6.heap.size 57 #[.int .i64 k3, .int .i64 i3, .string s3, .bool b3]) := Lib.hid (by rw [← hW]; exact Row.made _ _ _)
      have Ra := Lib.hid (Row.below Ra.out hc Ra.out.lt)
      have HW6 := Lib.hid (HC6.out.trans (hc.mono HC6.out.size))
      clear hc hW
      refine (HE4.out _ HW6.out).mono ?_
      rintro e w7 ⟨rfl, hb⟩
      have HC7 := Lib.hid (HW6.out.trans (hb.mono HW6.out.size))
      have Ra := Lib.hid (Row.below Ra.out hb Ra.out.lt)
      have Rb := Lib.hid (Row.below Rb.out hb Rb.out.lt)
      clear hb
      cases r4 with
      | none =>
        dsimp only [Option.getD, Option.isSome, VV.agg, zeroV]
        go_wp2_with fail
        generalize hW : w7.alloc _ = W7
        have hc : Below w7.heap.size w7 W7 := by rw [← hW]; exact (Below.refl _ _).alloc (Nat.le_refl _) _
        have Rc : Hid (Row W7 w7.heap.size 57 #[.int .i64 0, .int .i64 0, .string ⟨#[]⟩, .bool false]) := Lib.hid (by rw [← hW]; exact Row.made _ _ _)
        have Ra := Lib.hid (Row.below Ra.out hc Ra.out.lt)
        have Rb := Lib.hid (Row.below Rb.out hc Rb.out.lt)
        have HW7 := Lib.hid (HC7.out.trans (hc.mono HC7.out.size))
        clear hc hW
        refine (HR4.out _ HW7.out).mono ?_
        rintro e w8 ⟨k6, i6, s6, b6, rfl, hy, hb⟩
        clear hy
        have HC8 := Lib.hid (HW7.out.trans (hb.mono HW7.out.size))
        have Ra := Lib.hid (Row.below Ra.out hb Ra.out.lt)
        have Rb := Lib.hid (Row.below Rb.out hb Rb.out.lt)
        have Rc := Lib.hid (Row.below Rc.out hb Rc.out.lt)
        clear hb
        go_wp2_with fail
        generalize hW : w8.alloc _ = W8
        have hc : Below w8.heap.size w8 W8 := by rw [← hW]; exact (Below.refl _ _).alloc (Nat.le_refl _) _
        have Rd : Hid (Row W8 w8.heap.size 57 #[.int .i64 k6, .int .i64 i6, .string s6, .bool b6]) := Lib.hid (by rw [← hW]; exact Row.made _ _ _)
        have Ra := Lib.hid (Row.below Ra.out hc Ra.out.lt)
        have Rb := Lib.hid (Row.below Rb.out hc Rb.out.lt)
        have Rc := Lib.hid (Row.below Rc.out hc Rc.out.lt)
        have HW8 := Lib.hid (HC8.out.trans (hc.mono HC8.out.size))
        clear hc hW
        refine (awake_any _).mono ?_
        rintro e w9 ⟨rfl, hb⟩
        have HC9 := Lib.hid (HW8.out.trans (hb.mono HW8.out.size))
        have Ra := Lib.hid (Row.below Ra.out hb Ra.out.lt)
        have Rb := Lib.hid (Row.below Rb.out hb Rb.out.lt)
        have Rc := Lib.hid (Row.below Rc.out hb Rc.out.lt)
        have Rd := Lib.hid (Row.below Rd.out hb Rd.out.lt)
        clear hb
        have fa0 : w9.cell? ⟨w5.heap.size, 0, none⟩ = some (.int .i64 k3) := (Ra.out.cell 0).trans rfl
        have fa1 : w9.cell? ⟨w5.heap.size, 1, none⟩ = some (.int .i64 i3) := (Ra.out.cell 1).trans rfl
        have fa2 : w9.cell? ⟨w5.heap.size, 2, none⟩ = some (.string s3) := (Ra.out.cell 2).trans rfl
        have fa3 : w9.cell? ⟨w5.heap.size, 3, none⟩ = some (.bool b3) := (Ra.out.cell 3).trans rfl
        have fb0 : w9.cell? ⟨w6.heap.size, 0, none⟩ = some (.int .i64 k3) := (Rb.out.cell 0).trans rfl
        have fb1 : w9.cell? ⟨w6.heap.size, 1, none⟩ = some (.int .i64 i3) := (Rb.out.cell 1).trans rfl
        have fb2 : w9.cell? ⟨w6.heap.size, 2, none⟩ = some (.string s3) := (Rb.out.cell 2).trans rfl
        have fb3 : w9.cell? ⟨w6.heap.size, 3, none⟩ = some (.bool b3) := (Rb.out.cell 3).trans rfl
        have fc0 : w9.cell? ⟨w7.heap.size, 0, none⟩ = some (.int .i64 0) := (Rc.out.cell 0).trans rfl
        have fc1 : w9.cell? ⟨w7.heap.size, 1, none⟩ = some (.int .i64 0) := (Rc.out.cell 1).trans rfl
        have fc2 : w9.cell? ⟨w7.heap.size, 2, none⟩ = some (.string ⟨#[]⟩) := (Rc.out.cell 2).trans rfl
        have fc3 : w9.cell? ⟨w7.heap.size, 3, none⟩ = some (.bool false) := (Rc.out.cell 3).trans rfl
        have fd0 : w9.cell? ⟨w8.heap.size, 0, none⟩ = some (.int .i64 k6) := (Rd.out.cell 0).trans rfl
        have fd1 : w9.cell? ⟨w8.heap.size, 1, none⟩ = some (.int .i64 i6) := (Rd.out.cell 1).trans rfl
        have fd2 : w9.cell? ⟨w8.heap.size, 2, none⟩ = some (.string s6) := (Rd.out.cell 2).trans rfl
        have fd3 : w9.cell? ⟨w8.heap.size, 3, none⟩ = some (.bool b6) := (Rd.out.cell 3).trans rfl
        go_wp2_with fail
        refine (HH3.out _ HC9.out).mono ?_
        rintro e w10 ⟨rfl, hb⟩
        have HC10 := Lib.hid (HC9.out.trans (hb.mono HC9.out.size))
        have Ra := Lib.hid (Row.below Ra.out hb Ra.out.lt)
        clear hb
        go_wp2_with fail
        refine (HQ3.out _ HC10.out).mono ?_
        rintro e w11 ⟨rfl, hb⟩
        have HC11 := Lib.hid (HC10.out.trans (hb.mono HC10.out.size))
        have Ra := Lib.hid (Row.below Ra.out hb Ra.out.lt)
        clear hb
        have fz0 : w11.cell? ⟨w5.heap.size, 0, none⟩ = some (.int .i64 k3) := (Ra.out.cell 0).trans rfl
        have fz1 : w11.cell? ⟨w5.heap.size, 1, none⟩ = some (.int .i64 i3) := (Ra.out.cell 1).trans rfl
        have fz2 : w11.cell? ⟨w5.heap.size, 2, none⟩ = some (.string s3) := (Ra.out.cell 2).trans rfl
        have fz3 : w11.cell? ⟨w5.heap.size, 3, none⟩ = some (.bool b3) := (Ra.out.cell 3).trans rfl
        go_wp2
        go_ret
        exact ⟨rfl, HBW4.out.trans (HC11.out.mono HBW4.out.size)⟩
      | some y =>
        obtain ⟨k4, i4, s4, b4⟩ := y
        dsimp only [Option.getD, Option.isSome, VV.agg, zeroV]
        go_wp2_with fail
        generalize hW : w7.alloc _ = W7
        have hc : Below w7.heap.size w7 W7 := by rw [← hW]; exact (Below.refl _ _).alloc (Nat.le_refl _) _
        have Rc : Hid (Row W7 w7.heap.size 57 #[.int .i64 k4, .int .i64 i4, .string s4, .bool b4]) := Lib.hid (by rw [← hW]; exact Row.made _ _ _)
        have Ra := Lib.hid (Row.below Ra.out hc Ra.out.lt)
        have Rb := Lib.hid (Row.below Rb.out hc Rb.out.lt)
        have HW7 := Lib.hid (HC7.out.trans (hc.mono HC7.out.size))
        clear hc hW
        refine (HR4.out _ HW7.out).mono ?_
        rintro e w8 ⟨k6, i6, s6, b6, rfl, hy, hb⟩
        injection hy _ rfl with g1 g2 g3 g4
        subst g1 g2 g3 g4
        have HC8 := Lib.hid (HW7.out.trans (hb.mono HW7.out.size))
        have Ra := Lib.hid (Row.below Ra.out hb Ra.out.lt)
        have Rb := Lib.hid (Row.below Rb.out hb Rb.out.lt)
        have Rc := Lib.hid (Row.below Rc.out hb Rc.out.lt)
        clear hb
        go_wp2_with fail
        generalize hW : w8.alloc _ = W8
        have hc : Below w8.heap.size w8 W8 := by rw [← hW]; exact (Below.refl _ _).alloc (Nat.le_refl _) _
        have Rd : Hid (Row W8 w8.heap.size 57 #[.int .i64 k4, .int .i64 i4, .string s4, .bool b4]) := Lib.hid (by rw [← hW]; exact Row.made _ _ _)
        have Ra := Lib.hid (Row.below Ra.out hc Ra.out.lt)
        have Rb := Lib.hid (Row.below Rb.out hc Rb.out.lt)
        have Rc := Lib.hid (Row.below Rc.out hc Rc.out.lt)
        have HW8 := Lib.hid (HC8.out.trans (hc.mono HC8.out.size))
        clear hc hW
        refine (awake_any _).mono ?_
        rintro e w9 ⟨rfl, hb⟩
        have HC9 := Lib.hid (HW8.out.trans (hb.mono HW8.out.size))
        have Ra := Lib.hid (Row.below Ra.out hb Ra.out.lt)
        have Rb := Lib.hid (Row.below Rb.out hb Rb.out.lt)
        have Rc := Lib.hid (Row.below Rc.out hb Rc.out.lt)
        have Rd := Lib.hid (Row.below Rd.out hb Rd.out.lt)
        clear hb
        have fa0 : w9.cell? ⟨w5.heap.size, 0, none⟩ = some (.int .i64 k3) := (Ra.out.cell 0).trans rfl
        have fa1 : w9.cell? ⟨w5.heap.size, 1, none⟩ = some (.int .i64 i3) := (Ra.out.cell 1).trans rfl
        have fa2 : w9.cell? ⟨w5.heap.size, 2, none⟩ = some (.string s3) := (Ra.out.cell 2).trans rfl
        have fa3 : w9.cell? ⟨w5.heap.size, 3, none⟩ = some (.bool b3) := (Ra.out.cell 3).trans rfl
        have fb0 : w9.cell? ⟨w6.heap.size, 0, none⟩ = some (.int .i64 k3) := (Rb.out.cell 0).trans rfl
        have fb1 : w9.cell? ⟨w6.heap.size, 1, none⟩ = some (.int .i64 i3) := (Rb.out.cell 1).trans rfl
        have fb2 : w9.cell? ⟨w6.heap.size, 2, none⟩ = some (.string s3) := (Rb.out.cell 2).trans rfl
        have fb3 : w9.cell? ⟨w6.heap.size, 3, none⟩ = some (.bool b3) := (Rb.out.cell 3).trans rfl
        have fc0 : w9.cell? ⟨w7.heap.size, 0, none⟩ = some (.int .i64 k4) := (Rc.out.cell 0).trans rfl
        have fc1 : w9.cell? ⟨w7.heap.size, 1, none⟩ = some (.int .i64 i4) := (Rc.out.cell 1).trans rfl
        have fc2 : w9.cell? ⟨w7.heap.size, 2, none⟩ = some (.string s4) := (Rc.out.cell 2).trans rfl
        have fc3 : w9.cell? ⟨w7.heap.size, 3, none⟩ = some (.bool b4) := (Rc.out.cell 3).trans rfl
        have fd0 : w9.cell? ⟨w8.heap.size, 0, none⟩ = some (.int .i64 k4) := (Rd.out.cell 0).trans rfl
        have fd1 : w9.cell? ⟨w8.heap.size, 1, none⟩ = some (.int .i64 i4) := (Rd.out.cell 1).trans rfl
        have fd2 : w9.cell? ⟨w8.heap.size, 2, none⟩ = some (.string s4) := (Rd.out.cell 2).trans rfl
        have fd3 : w9.cell? ⟨w8.heap.size, 3, none⟩ = some (.bool b4) := (Rd.out.cell 3).trans rfl
        go_wp2_with fail
        refine (HH3.out _ HC9.out).mono ?_
        rintro e w10 ⟨rfl, hb⟩
        have HC10 := Lib.hid (HC9.out.trans (hb.mono HC9.out.size))
        have Ra := Lib.hid (Row.below Ra.out hb Ra.out.lt)
        clear hb
        go_wp2_with fail
        refine (HQ3.out _ HC10.out).mono ?_
        rintro e w11 ⟨rfl, hb⟩
        have HC11 := Lib.hid (HC10.out.trans (hb.mono HC10.out.size))
        have Ra := Lib.hid (Row.below Ra.out hb Ra.out.lt)
        clear hb
        have fz0 : w11.cell? ⟨w5.heap.size, 0, none⟩ = some (.int .i64 k3) := (Ra.out.cell 0).trans rfl
        have fz1 : w11.cell? ⟨w5.heap.size, 1, none⟩ = some (.int .i64 i3) := (Ra.out.cell 1).trans rfl
        have fz2 : w11.cell? ⟨w5.heap.size, 2, none⟩ = some (.string s3) := (Ra.out.cell 2).trans rfl
        have fz3 : w11.cell? ⟨w5.heap.size, 3, none⟩ = some (.bool b3) := (Ra.out.cell 3).trans rfl
        go_wp2
        go_ret
        exact ⟨rfl, HBW4.out.trans (HC11.out.mono HBW4.out.size)⟩
end Go.Proofs.Ytopbildpeojgoaa.Evl
end

section
namespace Go.Proofs.Ytopbildpeojgoaa.Evl
open Go.RowKit Go.Proofs.Ytopbildpeojgoaa Go.Proofs.Ytopbildpeojgoaa.Ev Go.Proofs.Ytopbildpeojgoaa.Sch Go.Proofs.Ytopbildpeojgoaa.Ty Go.Proofs.Ytopbildpeojgoaa.Num
set_option linter.unusedVariables false
set_option maxRecDepth 100000
section
open Go.ChangeShapes Go.WideShapes
variable {H : Type} {enc : TypeId × Value → H} {w : World}
theorem open_event_arg {base : Nat} {v : Value} {d : DataW H} {p : List MemPlace} (hv : Value.okWide Try.prog w .any base 42 v) (h : DataW.Trod enc Try.prog w 0 (fun _ => true) true 42 v d p) :
    ∃ x : EI, v = .agg #[.string x.ty, .string x.key, .int .i64 x.t, .int .i64 x.q, .slice x.va x.vn x.vc] ∧ EIOk w w.heap.size x := by
  obtain ⟨cs, rfl, _⟩ := okWide_struct (by kernel_rfl) hv
  obtain ⟨fuel, hf⟩ := h
  obtain ⟨x, hc, hok⟩ := open_event hf
  refine ⟨x, ?_, hok⟩
  have : cs.toList = x.cells := hc
  rw [← Array.toArray_toList (xs := cs), this]
  rfl
end
theorem made_law2 (A : Option Addr) (n c : Nat) (f : Nat → Int) (ln : n ≤ c) (lc : c ≤ 9223372036854775807) (lb : ∀ k, -9223372036854775808 ≤ f k ∧ f k ≤ 9223372036854775807) {w : World} (ll : Lies w w.heap.size A n (fun k => .int .i64 (f k)))
    (x : EI) (hx : EIOk w w.heap.size x) (y : EI) (hy : EIOk w w.heap.size y) :
    Calls Try.prog 4 #[.slice A n c, .agg #[.string x.ty, .string x.key, .int .i64 x.t, .int .i64 x.q, .slice x.va x.vn x.vc], .agg #[.string y.ty, .string y.key, .int .i64 y.t, .int .i64 y.q, .slice y.va y.vn y.vc]] w fun e w' => e = .returned (.bool true) ∧ Below w.heap.size w w' :=
  made_law A n c f ln lc lb ll x y hx hy
end Go.Proofs.Ytopbildpeojgoaa.Evl
end
