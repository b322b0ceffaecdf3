/- The walk of the law SchemaMost. -/
import Derived.Test.YtenlnnhhmgjapaaSchO
import Derived.Deep.DeepCutAuto
import Derived.Deep.CutBlock
import Derived.Laws.BytesString
namespace Go.Proofs.Ytenlnnhhmgjapaa.Sch
open Go.RowKit Go.Proofs.Ytenlnnhhmgjapaa
set_option linter.unusedVariables false

/-- Types so far, in a list of the law's own. -/
structure TI (w wr : World) (m : Nat) (v : Value) (i : Nat) (ob : Option Nat) (xs : List Value) : Prop where
  seg : Seg wr 64 2 v i xs ob
  hob : ∀ g, ob = some g → w.heap.size ≤ g
  be : Below w.heap.size w wr
  fs : ∀ j, j < i → ∃ fv, xs[j * 2]? = some (.string (one (65 + j))) ∧ xs[j * 2 + 1]? = some fv ∧ FsS wr (fun g => w.heap.size ≤ g ∧ ob ≠ some g) fv (flds m)
theorem TI.mono {w wr wr' : World} {m i : Nat} {v : Value} {ob : Option Nat} {xs : List Value} (h : TI w wr m v i ob xs) (hb : Below wr.heap.size wr wr') : TI w wr' m v i ob xs :=
  ⟨h.seg.keep fun g hg => hb.block g (h.seg.lt g hg), h.hob, h.be.trans (hb.mono h.be.size), fun j hj => by
    obtain ⟨fv, a, b, c⟩ := h.fs j hj
    exact ⟨fv, a, b, c.keep fun g hg hs => ⟨hb.block g hg, hs⟩⟩⟩
theorem TI.push {w W W2 : World} {m i : Nat} {v v2 v' : Value} {ob ob2 : Option Nat} {xs : List Value} (h : TI w W m v i ob xs)
    (hs2 : Seg W2 64 2 v2 (i + 1) (xs ++ [.string (one (65 + i)), v']) ob2) (ht2 : Turns W W2 (fun g => ob = some g)) (ho2 : ob2 = ob ∨ ∃ g, ob2 = some g ∧ W.heap.size ≤ g)
    (hv : FsS W (fun g => w.heap.size ≤ g ∧ ob ≠ some g) v' (flds m)) : TI w W2 m v2 (i + 1) ob2 (xs ++ [.string (one (65 + i)), v']) := by
  have hsz := h.be.size
  have keep : ∀ g, g < W.heap.size → (w.heap.size ≤ g ∧ ob ≠ some g) → W2.heap[g]? = W.heap[g]? ∧ (w.heap.size ≤ g ∧ ob2 ≠ some g) := fun g hg hs =>
    ⟨ht2.block g hg (fun e => hs.2 e), hs.1, by
      rcases ho2 with e | ⟨g', e, hg'⟩
      · rw [e]; exact hs.2
      · rw [e]; intro e'; injection e' with e'; omega⟩
  have hxl : xs.length = i * 2 := h.seg.1
  refine ⟨hs2, fun g hg => ?_, ht2.below h.be hsz (fun j hj e => by have := h.hob _ e; omega), fun j hj => ?_⟩
  · rcases ho2 with e | ⟨g', e, hg'⟩
    · exact h.hob g (by rw [← e, hg])
    · rw [e] at hg; injection hg with hg; omega
  · by_cases e : j = i
    · subst e
      refine ⟨v', ?_, ?_, hv.keep keep⟩
      · rw [List.getElem?_append_right (by omega)]; simp [hxl]
      · rw [List.getElem?_append_right (by omega)]; simp [hxl]
    · obtain ⟨fv, a, b, c⟩ := h.fs j (by omega)
      refine ⟨fv, ?_, ?_, c.keep keep⟩
      · rw [List.getElem?_append_left (by omega)]; exact a
      · rw [List.getElem?_append_left (by omega)]; exact b
theorem ts_of_TI {w wr : World} {m i : Nat} {v : Value} {ob : Option Nat} {xs : List Value} (h : TI w wr m v i ob xs) : Ts wr wr.heap.size v (tys i m) := by
  have hl := tys_len i m
  rcases Nat.eq_zero_or_pos i with h0 | h0
  · obtain ⟨A, c, rfl, h1, h2⟩ := h.seg.form
    exact ⟨A, c, by rw [hl], by omega, by unfold maxLen at h2; omega, fun j hj => by omega⟩
  · obtain ⟨g, o, cap, rfl, ho, h1, h2, h3, _⟩ := h.seg.shape h0
    refine ⟨_, cap, by rw [hl], by omega, by unfold maxLen at h2; omega, fun j hj => ?_⟩
    obtain ⟨fv, a, b, c⟩ := h.fs j (by omega)
    rw [tys_get]
    exact ⟨g, o, fv, rfl, h.seg.lt g ho, h3 _ _ a, h3 _ _ b, c.keep fun g hg _ => ⟨rfl, hg⟩⟩
/-- A type under way: k fields so far. -/
structure KI (w1 wr : World) (b : Nat) (nm : ByteArray) (k : Nat) (fv : Value) (ob : Option Nat) : Prop where
  row : Row wr b 64 #[.string nm, fv]
  seg : Seg wr 66 2 fv k (cellsF (flds k)) ob
  hob : ∀ g, ob = some g → b < g
  be : Below w1.heap.size w1 wr
  hb : w1.heap.size ≤ b
theorem conv_one (w : World) (b : Nat) (hb : b < 256) (x : Int) (hx : x = (b : Int)) :
    (convert 61 9 (.slice (some ⟨w.heap.size, 0, none⟩) 1 1)).run Try.prog (w.alloc (.cells #[.int .u8 x] 5)) = .ok (.string (one b)) (w.alloc (.cells #[.int .u8 x] 5)) := by
  refine run_convert_bytes_back (P := Try.prog) _ _ _ 5 ⟨w.heap.size, 0, none⟩ 1 [UInt8.ofNat b] Try.underlying61 Try.underlying5 Try.underlying9 (fun j hj => ?_)
  have h0 : j = 0 := by simpa using hj
  subst h0
  subst hx
  have : b % 256 = b := Nat.mod_eq_of_lt hb
  simp [Addr.add, this]
theorem cells_succ (k : Nat) : cellsF (flds (k + 1)) = cellsF (flds k) ++ [.string (one (97 + k)), .int .i64 1] := by rw [flds_succ]; simp [cellsF]
theorem two_news' (w : World) (t : TypeId) (a b : Value) (n : Nat) (hn : w.heap.size = n) : ∀ j u, [a, b][j]? = some u → (w.alloc (.cells #[a, b] t)).cell? ((⟨n, 0, none⟩ : Addr).add j) = some u := by subst hn; exact two_news w t a b
theorem find_none (n : ByteArray) (w : World) :
    Calls Try.prog 46 #[.pointer none, .string n] w fun e w' => e = .returned (.tuple #[.agg #[.string ⟨#[]⟩, .slice none 0 0], .bool false]) ∧ Below w.heap.size w w' := by
  go_enter Try.func46, Try.ntmps46
  go_wp2_with fail
  refine (place_nil _ _).mono ?_
  rintro e w' ⟨rfl, hb⟩
  have R : Row w' w.heap.size 64 #[.string ByteArray.empty, .slice none 0 0] := Row.below (Row.made w _ _) hb (by simp)
  have c0 : w'.cell? ⟨w.heap.size, 0, none⟩ = some (.string ByteArray.empty) := (R.cell 0).trans rfl
  have c1 : w'.cell? ⟨w.heap.size, 1, none⟩ = some (.slice none 0 0) := (R.cell 1).trans rfl
  have f0 := R.free 0
  have f1 := R.free 1
  have HB := Lib.hid (((Below.refl w.heap.size w).alloc (Nat.le_refl _) _).trans (hb.mono (by simp)))
  clear hb R
  go_wp2
  have e0 : (w'.setCell ⟨w.heap.size, 0, none⟩ (.string ⟨#[]⟩)).cell? ⟨w.heap.size, 0, none⟩ = some (.string ⟨#[]⟩) := World.cell?_setCell_same' _ _ _ (by rw [c0]; rfl)
  try simp only [Exit.inBlock, Exit.then]
  refine bodyPost_ret (by simp [results, Try.results46, go_sem, e0, c1]; try rfl) rfl ?_
  exact ⟨rfl, (HB.out.setCell (Nat.le_refl _) _).setCell (Nat.le_refl _) _⟩
theorem KI.push {w1 W W2 : World} {b k : Nat} {nm : ByteArray} {fv v2 : Value} {ob ob2 : Option Nat} (h : KI w1 W b nm k fv ob)
    (hs2 : Seg W2 66 2 v2 (k + 1) (cellsF (flds k) ++ [.string (one (97 + k)), .int .i64 1]) ob2) (ht2 : Turns W W2 (fun g => ob = some g)) (ho2 : ob2 = ob ∨ ∃ g, ob2 = some g ∧ W.heap.size ≤ g) :
    KI w1 (W2.setCell ⟨b, 1, none⟩ v2) b nm (k + 1) v2 ob2 := by
  have hlt := h.row.lt
  have hob2 : ∀ g, ob2 = some g → b < g := fun g hg => by
    rcases ho2 with e | ⟨g', e, hg'⟩
    · exact h.hob g (by rw [← e, hg])
    · rw [e] at hg; injection hg with hg; omega
  refine ⟨by simpa using Row.put (h.row.turns ht2 (fun e => by have := h.hob _ e; omega)) 1 v2, ?_, hob2, (ht2.below h.be h.be.size (fun j hj e => by have := h.hob _ e; have := h.hb; omega)).setCell h.hb _, h.hb⟩
  rw [cells_succ]
  exact hs2.past (fun e => by have := hob2 _ e; simp at this) _
theorem KI.mono {w1 W W' : World} {b k : Nat} {nm : ByteArray} {fv : Value} {ob : Option Nat} (h : KI w1 W b nm k fv ob) (hb : Below W.heap.size W W') : KI w1 W' b nm k fv ob :=
  ⟨Row.below h.row hb h.row.lt, h.seg.keep fun g hg => hb.block g (h.seg.lt g hg), h.hob, h.be.trans (hb.mono h.be.size), h.hb⟩
theorem and1 (n : Int) : bits .and .i64 n 1 = n % 2 := by
  have hm : (BitVec.ofInt 64 1).toNat = 2 ^ 1 - 1 := by decide
  have key : (BitVec.ofInt 64 n &&& BitVec.ofInt 64 1).toNat = (n % ((2 ^ 64 : Nat) : Int)).toNat % 2 ^ 1 := by
    rw [BitVec.toNat_and, BitVec.toNat_ofInt, hm, Nat.and_two_pow_sub_one_eq_mod]
  show IntKind.i64.wrap ((BitVec.ofInt 64 n &&& BitVec.ofInt 64 1).toNat : Nat) = n % 2
  rw [key, IntKind.wrap_i64]
  omega
set_option maxRecDepth 100000 in
set_option maxHeartbeats 4000000 in
theorem most_law (n : Int) (hn : (Lit.int .i64 n).wf = true) (f : Int) (hf : (Lit.int .i64 f).wf = true) {w : World} :
    Calls Try.prog 8 #[.int .i64 n, .int .i64 f] w fun e w' => e = .returned (.bool true) ∧ Below w.heap.size w w' := by
  clear hn hf
  obtain ⟨r, hr, hr4⟩ : ∃ r : Nat, bits .and .i64 n 3 = (r : Int) ∧ r < 4 := ⟨(n % 4).toNat, by rw [and3]; omega, by omega⟩
  obtain ⟨q, hq, hq2⟩ : ∃ q : Nat, bits .and .i64 f 1 = (q : Int) ∧ q < 2 := ⟨(f % 2).toNat, by rw [and1]; omega, by omega⟩
  obtain ⟨N, hN⟩ : ∃ N : Nat, N = 14 + r := ⟨_, rfl⟩
  obtain ⟨M, hM⟩ : ∃ M : Nat, M = 7 + q := ⟨_, rfl⟩
  obtain ⟨i0, hi0, hz0, hz1, hz2⟩ := info_parts field_info
  obtain ⟨i1, hi1, hy0, hy1, hy2⟩ := info_parts type_info
  have hNr : (14 : Int) + (r : Int) = (N : Int) := by omega
  have hMq : (7 : Int) + (q : Int) = (M : Int) := by omega
  have hN17 : N ≤ 17 := by omega
  have hN0 : 0 < N := by omega
  have hM8 : M ≤ 8 := by omega
  clear hN hM
  go_enter Try.func8, Try.ntmps8
  go_upto_if 28 with fail
  go_cut [7] (fun s wc => ∃ m : Nat, s = .int .i64 m ∧ m ≤ 9 ∧ wc = w.alloc (.cells #[] 64))
  case first =>
    go_wp2
    · go_meet
      exact ⟨9, rfl, by omega, rfl⟩
    · go_meet
      exact ⟨M, rfl, by omega, rfl⟩
  case rest =>
    obtain ⟨m, rfl, hm9, rfl⟩ := hcut
    go_wp2
    go_loopw [5, 8] (fun v s wr => ∃ i : Nat, i ≤ N ∧ s = .int .i64 i ∧ Hid (∃ ob xs, TI w wr m v i ob xs)) (fun _ s _ => N - (intOf s).toNat)
    case atStart => exact ⟨0, by omega, rfl, none, [], seg_zero _ _ _ _, (fun _ e => by cases e), (Below.refl _ w).alloc (Nat.le_refl _) _, fun _ h => absurd h (by omega)⟩
    case round =>
      obtain ⟨wo, hwo⟩ : ∃ wo : World, wo = wr := ⟨_, rfl⟩
      subst hwo
      obtain ⟨i, hi, rfl, hti⟩ := hrel
      obtain ⟨ob, xs, hTI⟩ := hti.out
      have HT := Lib.hid hTI
      obtain ⟨A5, c5, rfl, _, _⟩ := hTI.seg.form
      clear hTI hti
      by_cases hlt : i < N
      · have hwrap : IntKind.u8.wrap (65 + (i : Int)) = 65 + (i : Int) := by simp [IntKind.wrap, IntKind.bits, IntKind.signed]; omega
        have hconv := conv_one wo (65 + i) (by omega) (65 + (i : Int)) (by omega)
        have hK0 : KI wo ((wo.alloc (.cells #[.int .u8 (65 + (i : Int))] 5)).alloc (.cells #[.string (one (65 + i)), .slice none 0 0] 64)) (wo.heap.size + 1) (one (65 + i)) 0 (.slice none 0 0) none :=
          ⟨made_two wo _ _ _, seg_zero _ _ _ _, (fun _ e => by cases e), ((Below.refl _ wo).alloc (Nat.le_refl _) _).alloc (by simp) _, by omega⟩
        have HK0 := Lib.hid hK0
        clear hK0
        go_wp2
        go_loopw [10] (fun s w2 => ∃ k : Nat, k ≤ m ∧ s = .int .i64 k ∧ Hid (∃ fv ob', KI wo w2 (wo.heap.size + 1) (one (65 + i)) k fv ob')) (fun s _ => m - (intOf s).toNat)
        case atStart => exact ⟨0, by omega, rfl, _, _, HK0.out⟩
        case round =>
          obtain ⟨k, hk, rfl, hki⟩ := hrel
          obtain ⟨fv, ob', hKI⟩ := hki.out
          have HK := Lib.hid hKI
          obtain ⟨A6, c6, rfl, _, _⟩ := hKI.seg.form
          have e1 : wr.cell? ⟨wo.heap.size + 1, 1, none⟩ = some (.slice A6 k c6) := (hKI.row.cell 1).trans rfl
          have e0 : wr.cell? ⟨wo.heap.size + 1, 0, none⟩ = some (.string (one (65 + i))) := (hKI.row.cell 0).trans rfl
          have hbz : wo.heap.size + 1 < wr.heap.size := hKI.row.lt
          clear hKI hki HK0
          by_cases hlk : k < m
          · have hwr2 : IntKind.u8.wrap (97 + (k : Int)) = 97 + (k : Int) := by simp [IntKind.wrap, IntKind.bits, IntKind.signed]; omega
            have hcv2 := conv_one wr (97 + k) (by omega) (97 + (k : Int)) (by omega)
            clear hwrap hconv
            go_wp2_with (at_builtin; refine wpList_append_seg _ rfl _ _ 62 rfl 66 i0 _ 2 24 Try.underlying62 hi0 hz0 hz1 hz2 rfl (by decide) _ k (cellsF (flds k)) ob' rfl ((HK.out.seg.alloc _).alloc _) ⟨wr.heap.size + 1, 0, none⟩ 1 1 [.string (one (97 + k)), .int .i64 1] rfl rfl (two_news' _ _ _ _ _ (by simp)) (by simp [Value.oneCell']) (by omega) (by unfold maxLen; omega) (by omega) ?_; intro v1 w1 ob1 hs1 ht1 ho1; have HS1 := Lib.hid hs1; obtain ⟨A1, c1, rfl, _, _⟩ := hs1.form; have HR1 := Lib.hid (Row.turns ((HK.out.row.alloc _).alloc _) ht1 (fun e => by have := HK.out.hob _ e; omega)); have d1 : w1.cell? ⟨wo.heap.size + 1, 1, none⟩ = some (.slice A6 k c6) := (HR1.out.cell 1).trans rfl; have d2 := HR1.out.free 1)
            have hK2 := KI.push (HK.out.mono (show Below wr.heap.size wr ((wr.alloc (.cells #[.int .u8 (97 + (k : Int))] 5)).alloc (.cells #[.string (one (97 + k)), .int .i64 1] 66)) from by go_grown)) HS1.out ht1 ho1
            go_roundw
            case rel => exact ⟨k + 1, by omega, by go_num, _, _, hK2⟩
            case measure => simp [intOf]; omega
          · obtain rfl : k = m := by omega
            have hTw : TI w wr k (.slice A5 i c5) i ob xs := HT.out.mono HK.out.be
            have HTw := Lib.hid hTw
            have hfl : FsS wr (fun g => w.heap.size ≤ g ∧ ob ≠ some g) (.slice A6 k c6) (flds k) := fs_of_seg (by rw [flds_len]; exact HK.out.seg) (fun g hg => by
              have h1 := HK.out.hob g hg
              have h2 := HT.out.be.size
              exact ⟨by omega, fun e => by have := HT.out.seg.lt g e; omega⟩)
            have HFL := Lib.hid hfl
            clear hTw hfl hwrap hconv hlk
            go_wp2_with (at_builtin; refine wpList_append_seg _ rfl _ _ 60 rfl 64 i1 _ 2 40 Try.underlying60 hi1 hy0 hy1 hy2 rfl (by decide) _ i xs ob rfl (HTw.out.seg.alloc _) ⟨wr.heap.size, 0, none⟩ 1 1 [.string (one (65 + i)), .slice A6 k c6] rfl rfl (two_news' _ _ _ _ _ rfl) (by simp [Value.oneCell']) (by omega) (by unfold maxLen; omega) (by omega) ?_; intro v1 w1 ob1 hs1 ht1 ho1)
            have hT2 := TI.push (HTw.out.mono (show Below wr.heap.size wr (wr.alloc (.cells #[.string (one (65 + i)), .slice A6 k c6] 64)) from by go_grown)) hs1 ht1 ho1 (HFL.out.keep fun g hg hs => ⟨Below.heap_alloc _ _ g hg, hs⟩)
            go_roundw
            case rel => exact ⟨i + 1, by omega, by go_num, _, _, hT2⟩
            case measure => simp [intOf]; omega
      · obtain rfl : i = N := by omega
        have hts : Ts wo wo.heap.size (.slice A5 i c5) (tys i m) := ts_of_TI HT.out
        have HTS := Lib.hid hts
        have HBE := Lib.hid HT.out.be
        clear hts hlt HT
        rcases (show (16 < i ∧ 8 < m) ∨ (16 < i ∧ ¬ 8 < m) ∨ (¬ 16 < i ∧ 8 < m) ∨ (¬ 16 < i ∧ ¬ 8 < m) from by omega) with ⟨h16, h8⟩ | ⟨h16, h8⟩ | ⟨h16, h8⟩ | ⟨h16, h8⟩
        · have hL : want i m = 5 := by unfold want; simp only [h16, h8, if_true]
          go_wp2_with fail
          refine (new_any _ (tys i m) _ _ HTS.out (Nat.le_refl _)).mono ?_
          rintro e w1 ⟨p, c, rfl, hnr, _, _, hb1⟩
          obtain rfl : c = 5 := (want_of i m hN17 hN0 hnr).trans hL
          have HB1 := Lib.hid (HBE.out.trans (hb1.mono HBE.out.size))
          clear hb1 hnr HTS
          go_wp2_with fail
          refine (find_none _ _).mono ?_
          rintro e w2 ⟨rfl, hb2⟩
          have HB2 := Lib.hid (HB1.out.trans (hb2.mono HB1.out.size))
          clear hb2
          go_wp2_with fail
          refine (field_nil _ _ _).mono ?_
          rintro e w3 ⟨rfl, hb3⟩
          have hz2 : w.heap.size ≤ w2.heap.size := HB2.out.size
          have HB3 : Hid (Below w.heap.size w w3) := by
            refine HB2.out.trans (Below.trans ?_ (hb3.mono ?_))
            · go_grown
            · simp; omega
          clear hb3
          go_wp2_with fail
          refine (awake_any _).mono ?_
          rintro e w4 ⟨rfl, hb4⟩
          have HB4 := Lib.hid (HB3.out.trans (hb4.mono HB3.out.size))
          clear hb4
          go_wp2_with fail
          refine (len_nil _).mono ?_
          rintro e w' ⟨rfl, rfl⟩
          go_wp2_with fail
          refine (names_nil _).mono ?_
          rintro e w' ⟨rfl, rfl⟩
          go_wp2
          go_ret
          exact ⟨rfl, HB4.out⟩
        · have hL : want i m = 5 := by unfold want; simp only [h16, if_true]
          go_wp2_with fail
          refine (new_any _ (tys i m) _ _ HTS.out (Nat.le_refl _)).mono ?_
          rintro e w1 ⟨p, c, rfl, hnr, _, _, hb1⟩
          obtain rfl : c = 5 := (want_of i m hN17 hN0 hnr).trans hL
          have HB1 := Lib.hid (HBE.out.trans (hb1.mono HBE.out.size))
          clear hb1 hnr HTS
          go_wp2_with fail
          refine (find_none _ _).mono ?_
          rintro e w2 ⟨rfl, hb2⟩
          have HB2 := Lib.hid (HB1.out.trans (hb2.mono HB1.out.size))
          clear hb2
          go_wp2_with fail
          refine (field_nil _ _ _).mono ?_
          rintro e w3 ⟨rfl, hb3⟩
          have hz2 : w.heap.size ≤ w2.heap.size := HB2.out.size
          have HB3 : Hid (Below w.heap.size w w3) := by
            refine HB2.out.trans (Below.trans ?_ (hb3.mono ?_))
            · go_grown
            · simp; omega
          clear hb3
          go_wp2_with fail
          refine (awake_any _).mono ?_
          rintro e w4 ⟨rfl, hb4⟩
          have HB4 := Lib.hid (HB3.out.trans (hb4.mono HB3.out.size))
          clear hb4
          go_wp2_with fail
          refine (len_nil _).mono ?_
          rintro e w' ⟨rfl, rfl⟩
          go_wp2_with fail
          refine (names_nil _).mono ?_
          rintro e w' ⟨rfl, rfl⟩
          go_wp2
          go_ret
          exact ⟨rfl, HB4.out⟩
        · have hL : want i m = 1 := by unfold want; simp only [h16, h8, if_true, if_false]
          go_wp2_with fail
          refine (new_any _ (tys i m) _ _ HTS.out (Nat.le_refl _)).mono ?_
          rintro e w1 ⟨p, c, rfl, hnr, _, _, hb1⟩
          obtain rfl : c = 1 := (want_of i m hN17 hN0 hnr).trans hL
          have HB1 := Lib.hid (HBE.out.trans (hb1.mono HBE.out.size))
          clear hb1 hnr HTS
          go_wp2_with fail
          refine (find_none _ _).mono ?_
          rintro e w2 ⟨rfl, hb2⟩
          have HB2 := Lib.hid (HB1.out.trans (hb2.mono HB1.out.size))
          clear hb2
          go_wp2_with fail
          refine (field_nil _ _ _).mono ?_
          rintro e w3 ⟨rfl, hb3⟩
          have hz2 : w.heap.size ≤ w2.heap.size := HB2.out.size
          have HB3 : Hid (Below w.heap.size w w3) := by
            refine HB2.out.trans (Below.trans ?_ (hb3.mono ?_))
            · go_grown
            · simp; omega
          clear hb3
          go_wp2_with fail
          refine (awake_any _).mono ?_
          rintro e w4 ⟨rfl, hb4⟩
          have HB4 := Lib.hid (HB3.out.trans (hb4.mono HB3.out.size))
          clear hb4
          go_wp2_with fail
          refine (len_nil _).mono ?_
          rintro e w' ⟨rfl, rfl⟩
          go_wp2_with fail
          refine (names_nil _).mono ?_
          rintro e w' ⟨rfl, rfl⟩
          go_wp2
          go_ret
          exact ⟨rfl, HB4.out⟩
        · have hL : want i m = 0 := by unfold want; simp only [h16, h8, if_false]
          go_wp2_with fail
          refine (new_any _ (tys i m) _ _ HTS.out (Nat.le_refl _)).mono ?_
          rintro e w1 ⟨p, c, rfl, hnr, _, _, hb1⟩
          obtain rfl : c = 0 := (want_of i m hN17 hN0 hnr).trans hL
          have HB1 := Lib.hid (HBE.out.trans (hb1.mono HBE.out.size))
          clear hb1 hnr HTS
          go_wp2_with fail
          refine (find_none _ _).mono ?_
          rintro e w2 ⟨rfl, hb2⟩
          have HB2 := Lib.hid (HB1.out.trans (hb2.mono HB1.out.size))
          clear hb2
          go_wp2_with fail
          refine (field_nil _ _ _).mono ?_
          rintro e w3 ⟨rfl, hb3⟩
          have hz2 : w.heap.size ≤ w2.heap.size := HB2.out.size
          have HB3 : Hid (Below w.heap.size w w3) := by
            refine HB2.out.trans (Below.trans ?_ (hb3.mono ?_))
            · go_grown
            · simp; omega
          clear hb3
          go_wp2_with fail
          refine (awake_any _).mono ?_
          rintro e w4 ⟨rfl, hb4⟩
          have HB4 := Lib.hid (HB3.out.trans (hb4.mono HB3.out.size))
          clear hb4
          go_wp2_with fail
          refine (len_nil _).mono ?_
          rintro e w' ⟨rfl, rfl⟩
          go_wp2_with fail
          refine (names_nil _).mono ?_
          rintro e w' ⟨rfl, rfl⟩
          go_wp2
          go_ret
          exact ⟨rfl, HB4.out⟩
end Go.Proofs.Ytenlnnhhmgjapaa.Sch
