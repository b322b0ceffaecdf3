/- Predicates of truths, by picks. -/
import Derived.Test.YtlpkeinablekpaaDoorTyR
import Derived.BigQuiet
import Derived.Test.YtlpkeinablekpaaDoorLaw
namespace Go.Proofs.YtlpkeinablekpaaDoor.Ty
open Go.RowKit Go.Proofs.YtlpkeinablekpaaDoor Go.Proofs.YtlpkeinablekpaaDoor.Sch
set_option linter.unusedVariables false
set_option maxRecDepth 100000
theorem and1' (n : Int) : bits .and .i64 n 1 = n % 2 := by
  have hm : (BitVec.ofInt 64 1).toNat = 2 ^ 1 - 1 := by decide
  have key : (BitVec.ofInt 64 n &&& BitVec.ofInt 64 1).toNat = (n % ((2 ^ 64 : Nat) : Int)).toNat % 2 ^ 1 := by
    rw [BitVec.toNat_and, BitVec.toNat_ofInt, hm, Nat.and_two_pow_sub_one_eq_mod]
  show IntKind.i64.wrap ((BitVec.ofInt 64 n &&& BitVec.ofInt 64 1).toNat : Nat) = n % 2
  rw [key, IntKind.wrap_i64]
  omega
theorem parts_or (i : Nat) (h : i < 2) : partsI (14 + (i : Int)) = 2 := by
  match i, h with
  | 0, _ => rfl
  | 1, _ => rfl
theorem opK_or (i : Nat) (h : i < 2) : opK (14 + (i : Int)) [3, 3] = (3, 0) := by
  match i, h with
  | 0, _ => rfl
  | 1, _ => rfl
theorem rem7 (x : Nat) : ∃ r : Nat, (x : Int).tmod 7 = (r : Int) ∧ r < 7 := ⟨x % 7, by rw [Int.tmod_eq_emod_of_nonneg (by omega)]; omega, by omega⟩
theorem rem3b (x : Nat) : ∃ r : Nat, ((x : Int) / 64).tmod 3 = (r : Int) ∧ r < 3 := ⟨x / 64 % 3, by rw [Int.tmod_eq_emod_of_nonneg (by omega)]; omega, by omega⟩
theorem rem6b (x : Nat) : ∃ r : Nat, ((x : Int) / 256).tmod 6 = (r : Int) ∧ r < 6 := ⟨x / 256 % 6, by rw [Int.tmod_eq_emod_of_nonneg (by omega)]; omega, by omega⟩
theorem rem6c (x : Nat) : ∃ r : Nat, ((x : Int) / 16).tmod 6 = (r : Int) ∧ r < 6 := ⟨x / 16 % 6, by rw [Int.tmod_eq_emod_of_nonneg (by omega)]; omega, by omega⟩
theorem pn_truth (b : Bool) : PN 3 1 [⟨1, 3, 0, ⟨#[]⟩, b, ⟨#[]⟩, ⟨#[]⟩⟩] := fun _ _ _ => .leaf _ (.const (.truth b)) rfl (fun _ => rfl)
theorem pn_text (s : ByteArray) (h : s.size ≤ 64) : PN 2 1 [⟨1, 2, 0, s, false, ⟨#[]⟩, ⟨#[]⟩⟩] := fun _ _ _ => .leaf _ (.const (.text s h)) rfl (fun _ => rfl)
theorem pn_fieldS (i : Nat) (hi : i < 3) : PN 2 1 [⟨2, 0, 0, ⟨#[]⟩, false, vAt i, ss⟩] := fun x y z => .leaf _ (.field (vAt_name i) rfl) rfl (fun _ => by
  unfold partK
  dsimp only
  rw [if_neg (by decide), if_pos rfl]
  exact fieldN x y z i hi ss _ asks)
theorem parts_cmp (i : Nat) (h : i < 6) : partsI (7 + (i : Int)) = 2 := by
  match i, h with
  | 0, _ => rfl
  | 1, _ => rfl
  | 2, _ => rfl
  | 3, _ => rfl
  | 4, _ => rfl
  | 5, _ => rfl
theorem opK_cmp1 (i : Nat) (h : i < 6) : opK (7 + (i : Int)) [1, 1] = (3, 0) := by
  match i, h with
  | 0, _ => rfl
  | 1, _ => rfl
  | 2, _ => rfl
  | 3, _ => rfl
  | 4, _ => rfl
  | 5, _ => rfl
theorem opK_cmp2 (i : Nat) (h : i < 6) : opK (7 + (i : Int)) [2, 2] = (3, 0) := by
  match i, h with
  | 0, _ => rfl
  | 1, _ => rfl
  | 2, _ => rfl
  | 3, _ => rfl
  | 4, _ => rfl
  | 5, _ => rfl
def tAt (i : Nat) : ByteArray := if i = 0 then ⟨#[117]⟩ else if i = 1 then ⟨#[118]⟩ else ⟨#[105, 116, 39, 115]⟩
theorem tAt_size (i : Nat) : (tAt i).size ≤ 64 := by
  unfold tAt
  split
  · decide
  · split <;> decide
theorem tm_cell (w : World) (i : Nat) (hi : i < 3) : (w.alloc (.cells #[.string ⟨#[117]⟩, .string ⟨#[118]⟩, .string ⟨#[105, 116, 39, 115]⟩] 9)).cell? ⟨w.heap.size, i, none⟩ = some (.string (tAt i)) := by
  rw [(Row.made w 9 #[.string ⟨#[117]⟩, .string ⟨#[118]⟩, .string ⟨#[105, 116, 39, 115]⟩]).cell i]
  match i, hi with
  | 0, _ => rfl
  | 1, _ => rfl
  | 2, _ => rfl
theorem gn_rows {w o : World} {g n : Nat} {L : List Nd} (h : Row o g 25 (ncells L).toArray) (hn : L.length = n) (h9 : n ≤ 1000) (hg : w.heap.size ≤ g) (hb : Below w.heap.size w o) : Gn w o (.slice (some ⟨g, 0, none⟩) n n) L := by
  subst hn
  refine ⟨⟨some g, ⟨ncells_len L, _, L.length, rfl, Nat.le_refl _, by unfold maxLen; omega, .inr ⟨g, 0, (ncells L).toArray, rfl, rfl, h, ?_, ?_⟩⟩, fun g' e => by injection e with e; omega⟩, hb⟩
  · simp [ncells_len]
  · simp [← ncells_len]
/-- How many parts, how many picks a truth so deep has at most. -/
def tb (d : Nat) : Nat := 2 ^ (d + 2) - 1
theorem tb_eq (d : Nat) : tb d = 2 * (2 ^ (d + 1) - 1) + 1 := by
  unfold tb
  have h1 : 2 ^ (d + 2) = 2 * 2 ^ (d + 1) := by rw [Nat.pow_succ]; omega
  have h2 := Nat.one_le_two_pow (n := d + 1)
  omega
theorem tb_small (d : Nat) (h : d ≤ 2) : 2 ^ (d + 1) - 1 ≤ 7 := by
  match d, h with
  | 0, _ => decide
  | 1, _ => decide
  | 2, _ => decide
theorem tb_succ (d : Nat) : tb (d + 1) = 2 * tb d + 1 := by rw [tb_eq (d + 1)]; unfold tb; rfl
set_option maxHeartbeats 8000000 in
theorem truth_leaf (A : Option Addr) (n c : Nat) (f : Nat → Int) (ln : n ≤ c) (lc : c ≤ 9223372036854775807) (a deep : Nat) (hdeep : deep ≤ 2) (w : World) (ha : a + tb deep ≤ 100000) (hlb : ∃ B, Lies w B A n (fun k => .int .i64 (f k)) ∧ B ≤ w.heap.size)
    (IH : Hid (∀ d, deep = d + 1 → ∀ (a : Nat) (w : World), a + tb d ≤ 100000 → (∃ B, Lies w B A n (fun k => .int .i64 (f k)) ∧ B ≤ w.heap.size) → Calls Tryd.prog 13 #[.slice A n c, .int .i64 a, .int .i64 d] w (MadePost w 3 (tb d) a (tb d)))) :
    Calls Tryd.prog 13 #[.slice A n c, .int .i64 a, .int .i64 deep] w (MadePost w 3 (tb deep) a (tb deep)) := by
    have HLB := Lib.hid hlb
    obtain ⟨B, hl, hB⟩ := id hlb
    have HL := Lib.hid hl
    have hb3 : 3 ≤ tb deep := by have h1 := tb_eq deep; have h2 := Nat.one_le_two_pow (n := deep); have h3 : 2 ^ (deep + 1) = 2 * 2 ^ deep := by { rw [Nat.pow_succ]; omega }; omega
    have HB3 := Lib.hid hb3
    clear hl hlb hb3
    go_enter Tryd.func13, Tryd.ntmps13
    go_upto_if 22 with fail
    go_cut [8] (fun s8 wx => ∃ x : Nat, s8 = .int .i64 x ∧ x < 65536 ∧ w = wx)
    case first =>
      by_cases han : a < n
      · obtain ⟨g, o, rfl, hg, hc⟩ := HL.out a han
        have hx : bits .and .i64 (f a) 65535 = (((f a % 65536).toNat : Nat) : Int) := by rw [and65535]; omega
        have hai : (a : Int) < (n : Int) := by omega
        go_wp2
        go_meet
        exact ⟨(f a % 65536).toNat, congrArg (Value.int .i64) (by omega), by omega, rfl⟩
      · go_wp2
        go_meet
        exact ⟨0, rfl, by omega, rfl⟩
    case rest =>
      obtain ⟨x, rfl, hx, rfl⟩ := hcut
      obtain ⟨r, hr, hr7⟩ := rem7 x
      have hae : IntKind.i64.wrap ((a : Int) + 1) = ((a + 1 : Nat) : Int) := by rw [IntKind.wrap_i64]; omega
      rcases (show r = 0 ∨ r = 1 ∨ r = 2 ∨ r = 3 ∨ r = 4 ∨ r = 5 ∨ r = 6 from by omega) with rfl | rfl | rfl | rfl | rfl | rfl | rfl
      · rcases Nat.eq_zero_or_pos deep with hd | hd
        · have hdz : ((deep : Int) == 0) = true := by simp; omega
          clear hd
          have hr0 : (x : Int).tmod 7 = 0 := hr
          obtain ⟨q6, hq6, hq66⟩ := rem6c x
          obtain ⟨nb, hnb⟩ : ∃ nb, 2 ^ (deep + 1) - 1 = nb := ⟨_, rfl⟩
          have hca : ((a + 1 : Nat) : Int) = (a : Int) + 1 := by omega
          have hn7 : nb ≤ 7 := by rw [← hnb]; exact tb_small deep hdeep
          have hp8 : 2 ^ (deep + 1) ≤ 8 := by omega
          have htb : tb deep = 2 * nb + 1 := by rw [← hnb]; exact tb_eq deep
          have hmin : ¬ (2 : Int) < (deep : Int) := by omega
          have hmin2 : (if (2 : Int) < (deep : Int) then (2 : Int) else (deep : Int)) = (deep : Int) := if_neg hmin
          have hmin3 : (deep : Int) ≤ 2 := by omega
          have hmin4 : (if (deep : Int) ≤ 2 then (deep : Int) else (2 : Int)) = (deep : Int) := if_pos hmin3
          have hmin5 : min (deep : Int) 2 = (deep : Int) := by omega
          have h1 := number_any A n c f ln lc deep (a + 1) w (by omega) HLB.out
          rw [hnb, hca] at h1
          have H1 := Lib.hid h1
          have HTB := Lib.hid htb
          have HNB := Lib.hid hnb
          obtain ⟨i0, hi0, hz0, hz1, hz2⟩ := info_parts node_info
          clear hr h1 htb hnb
          go_wp2_with fail
          refine H1.out.mono ?_
          rintro e w1 ⟨v1, L1, a1, rfl, hg1, hp1, ha1⟩
          obtain ⟨ob1, hs1, hown1⟩ := hg1.ex
          have HS1 := Lib.hid hs1
          have HOW1 := Lib.hid hown1
          have HBE1 := Lib.hid hg1.be
          have HPN1 := Lib.hid hp1
          have hl1 : L1.length ≤ nb := (hp1 0 0 0).len
          have HL1 := Lib.hid hl1
          have HA1 := Lib.hid ha1
          obtain ⟨A1, c1, rfl, _, _⟩ := hs1.form
          have h2 := number_any A n c f ln lc deep a1 w1 (by have := HA1.out; omega) (by obtain ⟨B', hl', hB'⟩ := HLB.out; exact ⟨B', hl'.below (HBE1.out.mono hB'), Nat.le_trans hB' HBE1.out.size⟩)
          rw [HNB.out] at h2
          have H2 := Lib.hid h2
          clear hs1 hown1 hg1 hp1 hl1 ha1 h2
          go_wp2_with fail
          refine H2.out.mono ?_
          rintro e w2 ⟨v2, L2, a2, rfl, hg2, hp2', ha2'⟩
          obtain ⟨ob2, hs2, hown2⟩ := hg2.ex
          have HS2 := Lib.hid hs2
          have HBE2 := Lib.hid hg2.be
          have HPN2 := Lib.hid hp2'
          have hl2 : L2.length ≤ nb := (hp2' 0 0 0).len
          have HL2 := Lib.hid hl2
          have HA2 := Lib.hid ha2'
          have HS12 := Lib.hid (HS1.out.turns (Turns.of_below hg2.be) (fun _ _ x => x))
          obtain ⟨A2, c2, rfl, _, _⟩ := hs2.form
          clear hs2 hown2 hg2 hp2' hl2 ha2'
          have H64 : Hid (nb ≤ 1000000) := Lib.hid (by omega)
          go_wp2_with (first
            | (at_builtin; refine wpList_append_both (n := L1.length) (m := L2.length) (xs := ncells L1) (ys := ncells L2) rfl _ _ 29 rfl i0 _ 80 Tryd.underlying29 hi0 hz0 hz1 hz2 rfl (by decide) rfl HS12.out rfl HS2.out (ncells_one _) (by have := HL1.out; have := HL2.out; have := H64.out; unfold maxLen; omega) (by have := HL1.out; have := HL2.out; have := H64.out; omega) ?_; intro v4 w4 o4 hs4 ht4 ho4
               have HS4 := Lib.hid hs4
               have HT4 := Lib.hid ht4
               have HO4 := Lib.hid ho4
               obtain ⟨A4, c4, rfl, _, _⟩ := hs4.form
               clear hs4 ht4 ho4
               go_frame)
            | (at_builtin; refine wpList_append_seg _ rfl _ _ 29 rfl 25 i0 _ 7 80 Tryd.underlying29 hi0 hz0 hz1 hz2 rfl (by decide) _ (L1.length + L2.length) (ncells L1 ++ ncells L2) o4 rfl (HS4.out.alloc _) ⟨w4.heap.size, 0, none⟩ 1 1 (opn (7 + (q6 : Int))).cells rfl rfl (news_nd w4 _) (by simp [opn, Nd.cells, Value.oneCell']) (by decide) (by have := HL1.out; have := HL2.out; have := H64.out; unfold maxLen; omega) (by have := HL1.out; have := HL2.out; have := H64.out; omega) ?_; intro v5 w5 o5 hs5 ht5 ho5
               have HS5 := Lib.hid hs5
               have HT5 := Lib.hid ht5
               have HO5 := Lib.hid ho5
               obtain ⟨A5, c5, rfl, _, _⟩ := hs5.form
               clear hs5 ht5 ho5
               go_frame))
          go_ret2
          have hb2 : Below w.heap.size w w2 := HBE1.out.trans (HBE2.out.mono HBE1.out.size)
          have hb4 : Below w.heap.size w w4 := HT4.out.below hb2 hb2.size (fun k hk e => by have := HOW1.out k e; omega)
          have ho4 : ∀ g, o4 = some g → w.heap.size ≤ g := fun g e => by
            rcases HO4.out with h | ⟨g', h, hg'⟩
            · exact HOW1.out g (by rw [← h]; exact e)
            · rw [h] at e; injection e with e; subst e; have := hb2.size; omega
          refine ⟨_, (L1 ++ L2) ++ [opn (7 + (q6 : Int))], a2, rfl, gn_app2 hb4 ho4 HS5.out ((((Turns.refl w4 (fun k => o4 = some k)).alloc _).trans HT5.out (fun _ _ e => e))) HO5.out, fun u v t => ((HPN1.out u v t).op2 (HPN2.out u v t) (7 + (q6 : Int)) (by omega) (by omega) (parts_cmp q6 hq66) (opK_cmp1 q6 hq66)).more (by have := HTB.out; omega), by have := HA1.out; have := HA2.out; have := HTB.out; omega⟩
        · have hdz : ((deep : Int) == 0) = false := by simp; omega
          clear hd
          have hr0 : (x : Int).tmod 7 = 0 := hr
          obtain ⟨q6, hq6, hq66⟩ := rem6c x
          obtain ⟨nb, hnb⟩ : ∃ nb, 2 ^ (deep + 1) - 1 = nb := ⟨_, rfl⟩
          have hca : ((a + 1 : Nat) : Int) = (a : Int) + 1 := by omega
          have hn7 : nb ≤ 7 := by rw [← hnb]; exact tb_small deep hdeep
          have hp8 : 2 ^ (deep + 1) ≤ 8 := by omega
          have htb : tb deep = 2 * nb + 1 := by rw [← hnb]; exact tb_eq deep
          have hmin : ¬ (2 : Int) < (deep : Int) := by omega
          have hmin2 : (if (2 : Int) < (deep : Int) then (2 : Int) else (deep : Int)) = (deep : Int) := if_neg hmin
          have hmin3 : (deep : Int) ≤ 2 := by omega
          have hmin4 : (if (deep : Int) ≤ 2 then (deep : Int) else (2 : Int)) = (deep : Int) := if_pos hmin3
          have hmin5 : min (deep : Int) 2 = (deep : Int) := by omega
          have h1 := number_any A n c f ln lc deep (a + 1) w (by omega) HLB.out
          rw [hnb, hca] at h1
          have H1 := Lib.hid h1
          have HTB := Lib.hid htb
          have HNB := Lib.hid hnb
          obtain ⟨i0, hi0, hz0, hz1, hz2⟩ := info_parts node_info
          clear hr h1 htb hnb
          go_wp2_with fail
          refine H1.out.mono ?_
          rintro e w1 ⟨v1, L1, a1, rfl, hg1, hp1, ha1⟩
          obtain ⟨ob1, hs1, hown1⟩ := hg1.ex
          have HS1 := Lib.hid hs1
          have HOW1 := Lib.hid hown1
          have HBE1 := Lib.hid hg1.be
          have HPN1 := Lib.hid hp1
          have hl1 : L1.length ≤ nb := (hp1 0 0 0).len
          have HL1 := Lib.hid hl1
          have HA1 := Lib.hid ha1
          obtain ⟨A1, c1, rfl, _, _⟩ := hs1.form
          have h2 := number_any A n c f ln lc deep a1 w1 (by have := HA1.out; omega) (by obtain ⟨B', hl', hB'⟩ := HLB.out; exact ⟨B', hl'.below (HBE1.out.mono hB'), Nat.le_trans hB' HBE1.out.size⟩)
          rw [HNB.out] at h2
          have H2 := Lib.hid h2
          clear hs1 hown1 hg1 hp1 hl1 ha1 h2
          go_wp2_with fail
          refine H2.out.mono ?_
          rintro e w2 ⟨v2, L2, a2, rfl, hg2, hp2', ha2'⟩
          obtain ⟨ob2, hs2, hown2⟩ := hg2.ex
          have HS2 := Lib.hid hs2
          have HBE2 := Lib.hid hg2.be
          have HPN2 := Lib.hid hp2'
          have hl2 : L2.length ≤ nb := (hp2' 0 0 0).len
          have HL2 := Lib.hid hl2
          have HA2 := Lib.hid ha2'
          have HS12 := Lib.hid (HS1.out.turns (Turns.of_below hg2.be) (fun _ _ x => x))
          obtain ⟨A2, c2, rfl, _, _⟩ := hs2.form
          clear hs2 hown2 hg2 hp2' hl2 ha2'
          have H64 : Hid (nb ≤ 1000000) := Lib.hid (by omega)
          go_wp2_with (first
            | (at_builtin; refine wpList_append_both (n := L1.length) (m := L2.length) (xs := ncells L1) (ys := ncells L2) rfl _ _ 29 rfl i0 _ 80 Tryd.underlying29 hi0 hz0 hz1 hz2 rfl (by decide) rfl HS12.out rfl HS2.out (ncells_one _) (by have := HL1.out; have := HL2.out; have := H64.out; unfold maxLen; omega) (by have := HL1.out; have := HL2.out; have := H64.out; omega) ?_; intro v4 w4 o4 hs4 ht4 ho4
               have HS4 := Lib.hid hs4
               have HT4 := Lib.hid ht4
               have HO4 := Lib.hid ho4
               obtain ⟨A4, c4, rfl, _, _⟩ := hs4.form
               clear hs4 ht4 ho4
               go_frame)
            | (at_builtin; refine wpList_append_seg _ rfl _ _ 29 rfl 25 i0 _ 7 80 Tryd.underlying29 hi0 hz0 hz1 hz2 rfl (by decide) _ (L1.length + L2.length) (ncells L1 ++ ncells L2) o4 rfl (HS4.out.alloc _) ⟨w4.heap.size, 0, none⟩ 1 1 (opn (7 + (q6 : Int))).cells rfl rfl (news_nd w4 _) (by simp [opn, Nd.cells, Value.oneCell']) (by decide) (by have := HL1.out; have := HL2.out; have := H64.out; unfold maxLen; omega) (by have := HL1.out; have := HL2.out; have := H64.out; omega) ?_; intro v5 w5 o5 hs5 ht5 ho5
               have HS5 := Lib.hid hs5
               have HT5 := Lib.hid ht5
               have HO5 := Lib.hid ho5
               obtain ⟨A5, c5, rfl, _, _⟩ := hs5.form
               clear hs5 ht5 ho5
               go_frame))
          go_ret2
          have hb2 : Below w.heap.size w w2 := HBE1.out.trans (HBE2.out.mono HBE1.out.size)
          have hb4 : Below w.heap.size w w4 := HT4.out.below hb2 hb2.size (fun k hk e => by have := HOW1.out k e; omega)
          have ho4 : ∀ g, o4 = some g → w.heap.size ≤ g := fun g e => by
            rcases HO4.out with h | ⟨g', h, hg'⟩
            · exact HOW1.out g (by rw [← h]; exact e)
            · rw [h] at e; injection e with e; subst e; have := hb2.size; omega
          refine ⟨_, (L1 ++ L2) ++ [opn (7 + (q6 : Int))], a2, rfl, gn_app2 hb4 ho4 HS5.out ((((Turns.refl w4 (fun k => o4 = some k)).alloc _).trans HT5.out (fun _ _ e => e))) HO5.out, fun u v t => ((HPN1.out u v t).op2 (HPN2.out u v t) (7 + (q6 : Int)) (by omega) (by omega) (parts_cmp q6 hq66) (opK_cmp1 q6 hq66)).more (by have := HTB.out; omega), by have := HA1.out; have := HA2.out; have := HTB.out; omega⟩
      · rcases Nat.eq_zero_or_pos deep with hd | hd
        · have hdz : ((deep : Int) == 0) = true := by simp; omega
          clear hd
          have hr0 : (x : Int).tmod 7 = 1 := hr
          obtain ⟨q6, hq6, hq66⟩ := rem6c x
          obtain ⟨nb, hnb⟩ : ∃ nb, 2 ^ (deep + 1) - 1 = nb := ⟨_, rfl⟩
          have hca : ((a + 1 : Nat) : Int) = (a : Int) + 1 := by omega
          have hn7 : nb ≤ 7 := by rw [← hnb]; exact tb_small deep hdeep
          have hp8 : 2 ^ (deep + 1) ≤ 8 := by omega
          have htb : tb deep = 2 * nb + 1 := by rw [← hnb]; exact tb_eq deep
          have hmin : ¬ (2 : Int) < (deep : Int) := by omega
          have hmin2 : (if (2 : Int) < (deep : Int) then (2 : Int) else (deep : Int)) = (deep : Int) := if_neg hmin
          have hmin3 : (deep : Int) ≤ 2 := by omega
          have hmin4 : (if (deep : Int) ≤ 2 then (deep : Int) else (2 : Int)) = (deep : Int) := if_pos hmin3
          have hmin5 : min (deep : Int) 2 = (deep : Int) := by omega
          have h1 := number_any A n c f ln lc deep (a + 1) w (by omega) HLB.out
          rw [hnb, hca] at h1
          have H1 := Lib.hid h1
          have HTB := Lib.hid htb
          have HNB := Lib.hid hnb
          obtain ⟨i0, hi0, hz0, hz1, hz2⟩ := info_parts node_info
          clear hr h1 htb hnb
          go_wp2_with fail
          refine H1.out.mono ?_
          rintro e w1 ⟨v1, L1, a1, rfl, hg1, hp1, ha1⟩
          obtain ⟨ob1, hs1, hown1⟩ := hg1.ex
          have HS1 := Lib.hid hs1
          have HOW1 := Lib.hid hown1
          have HBE1 := Lib.hid hg1.be
          have HPN1 := Lib.hid hp1
          have hl1 : L1.length ≤ nb := (hp1 0 0 0).len
          have HL1 := Lib.hid hl1
          have HA1 := Lib.hid ha1
          obtain ⟨A1, c1, rfl, _, _⟩ := hs1.form
          have h2 := number_any A n c f ln lc deep a1 w1 (by have := HA1.out; omega) (by obtain ⟨B', hl', hB'⟩ := HLB.out; exact ⟨B', hl'.below (HBE1.out.mono hB'), Nat.le_trans hB' HBE1.out.size⟩)
          rw [HNB.out] at h2
          have H2 := Lib.hid h2
          clear hs1 hown1 hg1 hp1 hl1 ha1 h2
          go_wp2_with fail
          refine H2.out.mono ?_
          rintro e w2 ⟨v2, L2, a2, rfl, hg2, hp2', ha2'⟩
          obtain ⟨ob2, hs2, hown2⟩ := hg2.ex
          have HS2 := Lib.hid hs2
          have HBE2 := Lib.hid hg2.be
          have HPN2 := Lib.hid hp2'
          have hl2 : L2.length ≤ nb := (hp2' 0 0 0).len
          have HL2 := Lib.hid hl2
          have HA2 := Lib.hid ha2'
          have HS12 := Lib.hid (HS1.out.turns (Turns.of_below hg2.be) (fun _ _ x => x))
          obtain ⟨A2, c2, rfl, _, _⟩ := hs2.form
          clear hs2 hown2 hg2 hp2' hl2 ha2'
          have H64 : Hid (nb ≤ 1000000) := Lib.hid (by omega)
          go_wp2_with (first
            | (at_builtin; refine wpList_append_both (n := L1.length) (m := L2.length) (xs := ncells L1) (ys := ncells L2) rfl _ _ 29 rfl i0 _ 80 Tryd.underlying29 hi0 hz0 hz1 hz2 rfl (by decide) rfl HS12.out rfl HS2.out (ncells_one _) (by have := HL1.out; have := HL2.out; have := H64.out; unfold maxLen; omega) (by have := HL1.out; have := HL2.out; have := H64.out; omega) ?_; intro v4 w4 o4 hs4 ht4 ho4
               have HS4 := Lib.hid hs4
               have HT4 := Lib.hid ht4
               have HO4 := Lib.hid ho4
               obtain ⟨A4, c4, rfl, _, _⟩ := hs4.form
               clear hs4 ht4 ho4
               go_frame)
            | (at_builtin; refine wpList_append_seg _ rfl _ _ 29 rfl 25 i0 _ 7 80 Tryd.underlying29 hi0 hz0 hz1 hz2 rfl (by decide) _ (L1.length + L2.length) (ncells L1 ++ ncells L2) o4 rfl (HS4.out.alloc _) ⟨w4.heap.size, 0, none⟩ 1 1 (opn (7 + (q6 : Int))).cells rfl rfl (news_nd w4 _) (by simp [opn, Nd.cells, Value.oneCell']) (by decide) (by have := HL1.out; have := HL2.out; have := H64.out; unfold maxLen; omega) (by have := HL1.out; have := HL2.out; have := H64.out; omega) ?_; intro v5 w5 o5 hs5 ht5 ho5
               have HS5 := Lib.hid hs5
               have HT5 := Lib.hid ht5
               have HO5 := Lib.hid ho5
               obtain ⟨A5, c5, rfl, _, _⟩ := hs5.form
               clear hs5 ht5 ho5
               go_frame))
          go_ret2
          have hb2 : Below w.heap.size w w2 := HBE1.out.trans (HBE2.out.mono HBE1.out.size)
          have hb4 : Below w.heap.size w w4 := HT4.out.below hb2 hb2.size (fun k hk e => by have := HOW1.out k e; omega)
          have ho4 : ∀ g, o4 = some g → w.heap.size ≤ g := fun g e => by
            rcases HO4.out with h | ⟨g', h, hg'⟩
            · exact HOW1.out g (by rw [← h]; exact e)
            · rw [h] at e; injection e with e; subst e; have := hb2.size; omega
          refine ⟨_, (L1 ++ L2) ++ [opn (7 + (q6 : Int))], a2, rfl, gn_app2 hb4 ho4 HS5.out ((((Turns.refl w4 (fun k => o4 = some k)).alloc _).trans HT5.out (fun _ _ e => e))) HO5.out, fun u v t => ((HPN1.out u v t).op2 (HPN2.out u v t) (7 + (q6 : Int)) (by omega) (by omega) (parts_cmp q6 hq66) (opK_cmp1 q6 hq66)).more (by have := HTB.out; omega), by have := HA1.out; have := HA2.out; have := HTB.out; omega⟩
        · have hdz : ((deep : Int) == 0) = false := by simp; omega
          clear hd
          have hr0 : (x : Int).tmod 7 = 1 := hr
          obtain ⟨q6, hq6, hq66⟩ := rem6c x
          obtain ⟨nb, hnb⟩ : ∃ nb, 2 ^ (deep + 1) - 1 = nb := ⟨_, rfl⟩
          have hca : ((a + 1 : Nat) : Int) = (a : Int) + 1 := by omega
          have hn7 : nb ≤ 7 := by rw [← hnb]; exact tb_small deep hdeep
          have hp8 : 2 ^ (deep + 1) ≤ 8 := by omega
          have htb : tb deep = 2 * nb + 1 := by rw [← hnb]; exact tb_eq deep
          have hmin : ¬ (2 : Int) < (deep : Int) := by omega
          have hmin2 : (if (2 : Int) < (deep : Int) then (2 : Int) else (deep : Int)) = (deep : Int) := if_neg hmin
          have hmin3 : (deep : Int) ≤ 2 := by omega
          have hmin4 : (if (deep : Int) ≤ 2 then (deep : Int) else (2 : Int)) = (deep : Int) := if_pos hmin3
          have hmin5 : min (deep : Int) 2 = (deep : Int) := by omega
          have h1 := number_any A n c f ln lc deep (a + 1) w (by omega) HLB.out
          rw [hnb, hca] at h1
          have H1 := Lib.hid h1
          have HTB := Lib.hid htb
          have HNB := Lib.hid hnb
          obtain ⟨i0, hi0, hz0, hz1, hz2⟩ := info_parts node_info
          clear hr h1 htb hnb
          go_wp2_with fail
          refine H1.out.mono ?_
          rintro e w1 ⟨v1, L1, a1, rfl, hg1, hp1, ha1⟩
          obtain ⟨ob1, hs1, hown1⟩ := hg1.ex
          have HS1 := Lib.hid hs1
          have HOW1 := Lib.hid hown1
          have HBE1 := Lib.hid hg1.be
          have HPN1 := Lib.hid hp1
          have hl1 : L1.length ≤ nb := (hp1 0 0 0).len
          have HL1 := Lib.hid hl1
          have HA1 := Lib.hid ha1
          obtain ⟨A1, c1, rfl, _, _⟩ := hs1.form
          have h2 := number_any A n c f ln lc deep a1 w1 (by have := HA1.out; omega) (by obtain ⟨B', hl', hB'⟩ := HLB.out; exact ⟨B', hl'.below (HBE1.out.mono hB'), Nat.le_trans hB' HBE1.out.size⟩)
          rw [HNB.out] at h2
          have H2 := Lib.hid h2
          clear hs1 hown1 hg1 hp1 hl1 ha1 h2
          go_wp2_with fail
          refine H2.out.mono ?_
          rintro e w2 ⟨v2, L2, a2, rfl, hg2, hp2', ha2'⟩
          obtain ⟨ob2, hs2, hown2⟩ := hg2.ex
          have HS2 := Lib.hid hs2
          have HBE2 := Lib.hid hg2.be
          have HPN2 := Lib.hid hp2'
          have hl2 : L2.length ≤ nb := (hp2' 0 0 0).len
          have HL2 := Lib.hid hl2
          have HA2 := Lib.hid ha2'
          have HS12 := Lib.hid (HS1.out.turns (Turns.of_below hg2.be) (fun _ _ x => x))
          obtain ⟨A2, c2, rfl, _, _⟩ := hs2.form
          clear hs2 hown2 hg2 hp2' hl2 ha2'
          have H64 : Hid (nb ≤ 1000000) := Lib.hid (by omega)
          go_wp2_with (first
            | (at_builtin; refine wpList_append_both (n := L1.length) (m := L2.length) (xs := ncells L1) (ys := ncells L2) rfl _ _ 29 rfl i0 _ 80 Tryd.underlying29 hi0 hz0 hz1 hz2 rfl (by decide) rfl HS12.out rfl HS2.out (ncells_one _) (by have := HL1.out; have := HL2.out; have := H64.out; unfold maxLen; omega) (by have := HL1.out; have := HL2.out; have := H64.out; omega) ?_; intro v4 w4 o4 hs4 ht4 ho4
               have HS4 := Lib.hid hs4
               have HT4 := Lib.hid ht4
               have HO4 := Lib.hid ho4
               obtain ⟨A4, c4, rfl, _, _⟩ := hs4.form
               clear hs4 ht4 ho4
               go_frame)
            | (at_builtin; refine wpList_append_seg _ rfl _ _ 29 rfl 25 i0 _ 7 80 Tryd.underlying29 hi0 hz0 hz1 hz2 rfl (by decide) _ (L1.length + L2.length) (ncells L1 ++ ncells L2) o4 rfl (HS4.out.alloc _) ⟨w4.heap.size, 0, none⟩ 1 1 (opn (7 + (q6 : Int))).cells rfl rfl (news_nd w4 _) (by simp [opn, Nd.cells, Value.oneCell']) (by decide) (by have := HL1.out; have := HL2.out; have := H64.out; unfold maxLen; omega) (by have := HL1.out; have := HL2.out; have := H64.out; omega) ?_; intro v5 w5 o5 hs5 ht5 ho5
               have HS5 := Lib.hid hs5
               have HT5 := Lib.hid ht5
               have HO5 := Lib.hid ho5
               obtain ⟨A5, c5, rfl, _, _⟩ := hs5.form
               clear hs5 ht5 ho5
               go_frame))
          go_ret2
          have hb2 : Below w.heap.size w w2 := HBE1.out.trans (HBE2.out.mono HBE1.out.size)
          have hb4 : Below w.heap.size w w4 := HT4.out.below hb2 hb2.size (fun k hk e => by have := HOW1.out k e; omega)
          have ho4 : ∀ g, o4 = some g → w.heap.size ≤ g := fun g e => by
            rcases HO4.out with h | ⟨g', h, hg'⟩
            · exact HOW1.out g (by rw [← h]; exact e)
            · rw [h] at e; injection e with e; subst e; have := hb2.size; omega
          refine ⟨_, (L1 ++ L2) ++ [opn (7 + (q6 : Int))], a2, rfl, gn_app2 hb4 ho4 HS5.out ((((Turns.refl w4 (fun k => o4 = some k)).alloc _).trans HT5.out (fun _ _ e => e))) HO5.out, fun u v t => ((HPN1.out u v t).op2 (HPN2.out u v t) (7 + (q6 : Int)) (by omega) (by omega) (parts_cmp q6 hq66) (opK_cmp1 q6 hq66)).more (by have := HTB.out; omega), by have := HA1.out; have := HA2.out; have := HTB.out; omega⟩
      · rcases Nat.eq_zero_or_pos deep with hd | hd
        · have hdz : ((deep : Int) == 0) = true := by simp; omega
          clear hd
          have hr0 : (x : Int).tmod 7 = 2 := hr
          obtain ⟨q6, hq6, hq66⟩ := rem6c x
          obtain ⟨nb, hnb⟩ : ∃ nb, 2 ^ (deep + 1) - 1 = nb := ⟨_, rfl⟩
          have hca : ((a + 1 : Nat) : Int) = (a : Int) + 1 := by omega
          have hn7 : nb ≤ 7 := by rw [← hnb]; exact tb_small deep hdeep
          have hp8 : 2 ^ (deep + 1) ≤ 8 := by omega
          have htb : tb deep = 2 * nb + 1 := by rw [← hnb]; exact tb_eq deep
          have hmin : ¬ (2 : Int) < (deep : Int) := by omega
          have hmin2 : (if (2 : Int) < (deep : Int) then (2 : Int) else (deep : Int)) = (deep : Int) := if_neg hmin
          have hmin3 : (deep : Int) ≤ 2 := by omega
          have hmin4 : (if (deep : Int) ≤ 2 then (deep : Int) else (2 : Int)) = (deep : Int) := if_pos hmin3
          have hmin5 : min (deep : Int) 2 = (deep : Int) := by omega
          have h1 := number_any A n c f ln lc deep (a + 1) w (by omega) HLB.out
          rw [hnb, hca] at h1
          have H1 := Lib.hid h1
          have HTB := Lib.hid htb
          have HNB := Lib.hid hnb
          obtain ⟨i0, hi0, hz0, hz1, hz2⟩ := info_parts node_info
          clear hr h1 htb hnb
          go_wp2_with fail
          refine H1.out.mono ?_
          rintro e w1 ⟨v1, L1, a1, rfl, hg1, hp1, ha1⟩
          obtain ⟨ob1, hs1, hown1⟩ := hg1.ex
          have HS1 := Lib.hid hs1
          have HOW1 := Lib.hid hown1
          have HBE1 := Lib.hid hg1.be
          have HPN1 := Lib.hid hp1
          have hl1 : L1.length ≤ nb := (hp1 0 0 0).len
          have HL1 := Lib.hid hl1
          have HA1 := Lib.hid ha1
          obtain ⟨A1, c1, rfl, _, _⟩ := hs1.form
          have h2 := number_any A n c f ln lc deep a1 w1 (by have := HA1.out; omega) (by obtain ⟨B', hl', hB'⟩ := HLB.out; exact ⟨B', hl'.below (HBE1.out.mono hB'), Nat.le_trans hB' HBE1.out.size⟩)
          rw [HNB.out] at h2
          have H2 := Lib.hid h2
          clear hs1 hown1 hg1 hp1 hl1 ha1 h2
          go_wp2_with fail
          refine H2.out.mono ?_
          rintro e w2 ⟨v2, L2, a2, rfl, hg2, hp2', ha2'⟩
          obtain ⟨ob2, hs2, hown2⟩ := hg2.ex
          have HS2 := Lib.hid hs2
          have HBE2 := Lib.hid hg2.be
          have HPN2 := Lib.hid hp2'
          have hl2 : L2.length ≤ nb := (hp2' 0 0 0).len
          have HL2 := Lib.hid hl2
          have HA2 := Lib.hid ha2'
          have HS12 := Lib.hid (HS1.out.turns (Turns.of_below hg2.be) (fun _ _ x => x))
          obtain ⟨A2, c2, rfl, _, _⟩ := hs2.form
          clear hs2 hown2 hg2 hp2' hl2 ha2'
          have H64 : Hid (nb ≤ 1000000) := Lib.hid (by omega)
          go_wp2_with (first
            | (at_builtin; refine wpList_append_both (n := L1.length) (m := L2.length) (xs := ncells L1) (ys := ncells L2) rfl _ _ 29 rfl i0 _ 80 Tryd.underlying29 hi0 hz0 hz1 hz2 rfl (by decide) rfl HS12.out rfl HS2.out (ncells_one _) (by have := HL1.out; have := HL2.out; have := H64.out; unfold maxLen; omega) (by have := HL1.out; have := HL2.out; have := H64.out; omega) ?_; intro v4 w4 o4 hs4 ht4 ho4
               have HS4 := Lib.hid hs4
               have HT4 := Lib.hid ht4
               have HO4 := Lib.hid ho4
               obtain ⟨A4, c4, rfl, _, _⟩ := hs4.form
               clear hs4 ht4 ho4
               go_frame)
            | (at_builtin; refine wpList_append_seg _ rfl _ _ 29 rfl 25 i0 _ 7 80 Tryd.underlying29 hi0 hz0 hz1 hz2 rfl (by decide) _ (L1.length + L2.length) (ncells L1 ++ ncells L2) o4 rfl (HS4.out.alloc _) ⟨w4.heap.size, 0, none⟩ 1 1 (opn (7 + (q6 : Int))).cells rfl rfl (news_nd w4 _) (by simp [opn, Nd.cells, Value.oneCell']) (by decide) (by have := HL1.out; have := HL2.out; have := H64.out; unfold maxLen; omega) (by have := HL1.out; have := HL2.out; have := H64.out; omega) ?_; intro v5 w5 o5 hs5 ht5 ho5
               have HS5 := Lib.hid hs5
               have HT5 := Lib.hid ht5
               have HO5 := Lib.hid ho5
               obtain ⟨A5, c5, rfl, _, _⟩ := hs5.form
               clear hs5 ht5 ho5
               go_frame))
          go_ret2
          have hb2 : Below w.heap.size w w2 := HBE1.out.trans (HBE2.out.mono HBE1.out.size)
          have hb4 : Below w.heap.size w w4 := HT4.out.below hb2 hb2.size (fun k hk e => by have := HOW1.out k e; omega)
          have ho4 : ∀ g, o4 = some g → w.heap.size ≤ g := fun g e => by
            rcases HO4.out with h | ⟨g', h, hg'⟩
            · exact HOW1.out g (by rw [← h]; exact e)
            · rw [h] at e; injection e with e; subst e; have := hb2.size; omega
          refine ⟨_, (L1 ++ L2) ++ [opn (7 + (q6 : Int))], a2, rfl, gn_app2 hb4 ho4 HS5.out ((((Turns.refl w4 (fun k => o4 = some k)).alloc _).trans HT5.out (fun _ _ e => e))) HO5.out, fun u v t => ((HPN1.out u v t).op2 (HPN2.out u v t) (7 + (q6 : Int)) (by omega) (by omega) (parts_cmp q6 hq66) (opK_cmp1 q6 hq66)).more (by have := HTB.out; omega), by have := HA1.out; have := HA2.out; have := HTB.out; omega⟩
        · obtain ⟨d, rfl⟩ : ∃ d, deep = d + 1 := ⟨deep - 1, by omega⟩
          have hr0 : (x : Int).tmod 7 = 2 := hr
          obtain ⟨t1, ht1, ht2⟩ : ∃ t : Nat, bits .and .i64 ((x : Int) / 16) 1 = (t : Int) ∧ t < 2 := ⟨x / 16 % 2, by rw [and1']; omega, by omega⟩
          obtain ⟨nb, hnb⟩ : ∃ nb, tb d = nb := ⟨_, rfl⟩
          have hca : ((a + 1 : Nat) : Int) = (a : Int) + 1 := by omega
          have hn7 : nb ≤ 100000 := by rw [← hnb]; have := tb_succ d; omega
          have htb : tb (d + 1) = 2 * nb + 1 := by rw [← hnb]; exact tb_succ d
          have h1 := IH.out d rfl (a + 1) w (by have := tb_succ d; omega) HLB.out
          rw [hnb, hca] at h1
          have H1 := Lib.hid h1
          have HTB := Lib.hid htb
          have HNB := Lib.hid hnb
          have hd0 : (((d + 1 : Nat) : Int) == 0) = false := by simp; omega
          have hd1 : IntKind.i64.wrap (((d + 1 : Nat) : Int) - 1) = (d : Int) := by rw [IntKind.wrap_i64]; omega
          have hd2 : ((d + 1 : Nat) : Int) - 1 = (d : Int) := by omega
          obtain ⟨i0, hi0, hz0, hz1, hz2⟩ := info_parts node_info
          clear hr h1 htb hnb
          go_wp2_with fail
          refine H1.out.mono ?_
          rintro e w1 ⟨v1, L1, a1, rfl, hg1, hp1, ha1⟩
          obtain ⟨ob1, hs1, hown1⟩ := hg1.ex
          have HS1 := Lib.hid hs1
          have HOW1 := Lib.hid hown1
          have HBE1 := Lib.hid hg1.be
          have HPN1 := Lib.hid hp1
          have hl1 : L1.length ≤ 1000000 := by have := (hp1 0 0 0).len; omega
          have HL1 := Lib.hid hl1
          have HA1 := Lib.hid ha1
          obtain ⟨A1, c1, rfl, _, _⟩ := hs1.form
          clear hs1 hown1 hg1 hp1 hl1 ha1
          go_wp2_with (at_builtin; refine wpList_append_seg _ rfl _ _ 29 rfl 25 i0 _ 7 80 Tryd.underlying29 hi0 hz0 hz1 hz2 rfl (by decide) _ L1.length (ncells L1) ob1 rfl (HS1.out.alloc _) ⟨w1.heap.size, 0, none⟩ 1 1 (opn 13).cells rfl rfl (news_nd w1 _) (by simp [opn, Nd.cells, Value.oneCell']) (by decide) (by have := HL1.out; unfold maxLen; omega) (by have := HL1.out; omega) ?_; intro v5 w5 o5 hs5 ht5 ho5; obtain ⟨A5, c5, rfl, _, _⟩ := hs5.form; go_frame)
          go_ret2
          refine ⟨_, L1 ++ [opn 13], a1, rfl, gn_app HBE1.out HOW1.out hs5 ((((Turns.refl w1 (fun k => ob1 = some k)).alloc _).trans ht5 (fun _ _ e => e))) ho5 (by simp), fun u v t => ((HPN1.out u v t).op1 13 (by decide) (by decide) rfl rfl).more (by have := HTB.out; omega), by have := HA1.out; have := HTB.out; omega⟩
      · rcases Nat.eq_zero_or_pos deep with hd | hd
        · have hdz : ((deep : Int) == 0) = true := by simp; omega
          clear hd
          have hr0 : (x : Int).tmod 7 = 3 := hr
          obtain ⟨q6, hq6, hq66⟩ := rem6c x
          obtain ⟨nb, hnb⟩ : ∃ nb, 2 ^ (deep + 1) - 1 = nb := ⟨_, rfl⟩
          have hca : ((a + 1 : Nat) : Int) = (a : Int) + 1 := by omega
          have hn7 : nb ≤ 7 := by rw [← hnb]; exact tb_small deep hdeep
          have hp8 : 2 ^ (deep + 1) ≤ 8 := by omega
          have htb : tb deep = 2 * nb + 1 := by rw [← hnb]; exact tb_eq deep
          have hmin : ¬ (2 : Int) < (deep : Int) := by omega
          have hmin2 : (if (2 : Int) < (deep : Int) then (2 : Int) else (deep : Int)) = (deep : Int) := if_neg hmin
          have hmin3 : (deep : Int) ≤ 2 := by omega
          have hmin4 : (if (deep : Int) ≤ 2 then (deep : Int) else (2 : Int)) = (deep : Int) := if_pos hmin3
          have hmin5 : min (deep : Int) 2 = (deep : Int) := by omega
          have h1 := number_any A n c f ln lc deep (a + 1) w (by omega) HLB.out
          rw [hnb, hca] at h1
          have H1 := Lib.hid h1
          have HTB := Lib.hid htb
          have HNB := Lib.hid hnb
          obtain ⟨i0, hi0, hz0, hz1, hz2⟩ := info_parts node_info
          clear hr h1 htb hnb
          go_wp2_with fail
          refine H1.out.mono ?_
          rintro e w1 ⟨v1, L1, a1, rfl, hg1, hp1, ha1⟩
          obtain ⟨ob1, hs1, hown1⟩ := hg1.ex
          have HS1 := Lib.hid hs1
          have HOW1 := Lib.hid hown1
          have HBE1 := Lib.hid hg1.be
          have HPN1 := Lib.hid hp1
          have hl1 : L1.length ≤ nb := (hp1 0 0 0).len
          have HL1 := Lib.hid hl1
          have HA1 := Lib.hid ha1
          obtain ⟨A1, c1, rfl, _, _⟩ := hs1.form
          have h2 := number_any A n c f ln lc deep a1 w1 (by have := HA1.out; omega) (by obtain ⟨B', hl', hB'⟩ := HLB.out; exact ⟨B', hl'.below (HBE1.out.mono hB'), Nat.le_trans hB' HBE1.out.size⟩)
          rw [HNB.out] at h2
          have H2 := Lib.hid h2
          clear hs1 hown1 hg1 hp1 hl1 ha1 h2
          go_wp2_with fail
          refine H2.out.mono ?_
          rintro e w2 ⟨v2, L2, a2, rfl, hg2, hp2', ha2'⟩
          obtain ⟨ob2, hs2, hown2⟩ := hg2.ex
          have HS2 := Lib.hid hs2
          have HBE2 := Lib.hid hg2.be
          have HPN2 := Lib.hid hp2'
          have hl2 : L2.length ≤ nb := (hp2' 0 0 0).len
          have HL2 := Lib.hid hl2
          have HA2 := Lib.hid ha2'
          have HS12 := Lib.hid (HS1.out.turns (Turns.of_below hg2.be) (fun _ _ x => x))
          obtain ⟨A2, c2, rfl, _, _⟩ := hs2.form
          clear hs2 hown2 hg2 hp2' hl2 ha2'
          have H64 : Hid (nb ≤ 1000000) := Lib.hid (by omega)
          go_wp2_with (first
            | (at_builtin; refine wpList_append_both (n := L1.length) (m := L2.length) (xs := ncells L1) (ys := ncells L2) rfl _ _ 29 rfl i0 _ 80 Tryd.underlying29 hi0 hz0 hz1 hz2 rfl (by decide) rfl HS12.out rfl HS2.out (ncells_one _) (by have := HL1.out; have := HL2.out; have := H64.out; unfold maxLen; omega) (by have := HL1.out; have := HL2.out; have := H64.out; omega) ?_; intro v4 w4 o4 hs4 ht4 ho4
               have HS4 := Lib.hid hs4
               have HT4 := Lib.hid ht4
               have HO4 := Lib.hid ho4
               obtain ⟨A4, c4, rfl, _, _⟩ := hs4.form
               clear hs4 ht4 ho4
               go_frame)
            | (at_builtin; refine wpList_append_seg _ rfl _ _ 29 rfl 25 i0 _ 7 80 Tryd.underlying29 hi0 hz0 hz1 hz2 rfl (by decide) _ (L1.length + L2.length) (ncells L1 ++ ncells L2) o4 rfl (HS4.out.alloc _) ⟨w4.heap.size, 0, none⟩ 1 1 (opn (7 + (q6 : Int))).cells rfl rfl (news_nd w4 _) (by simp [opn, Nd.cells, Value.oneCell']) (by decide) (by have := HL1.out; have := HL2.out; have := H64.out; unfold maxLen; omega) (by have := HL1.out; have := HL2.out; have := H64.out; omega) ?_; intro v5 w5 o5 hs5 ht5 ho5
               have HS5 := Lib.hid hs5
               have HT5 := Lib.hid ht5
               have HO5 := Lib.hid ho5
               obtain ⟨A5, c5, rfl, _, _⟩ := hs5.form
               clear hs5 ht5 ho5
               go_frame))
          go_ret2
          have hb2 : Below w.heap.size w w2 := HBE1.out.trans (HBE2.out.mono HBE1.out.size)
          have hb4 : Below w.heap.size w w4 := HT4.out.below hb2 hb2.size (fun k hk e => by have := HOW1.out k e; omega)
          have ho4 : ∀ g, o4 = some g → w.heap.size ≤ g := fun g e => by
            rcases HO4.out with h | ⟨g', h, hg'⟩
            · exact HOW1.out g (by rw [← h]; exact e)
            · rw [h] at e; injection e with e; subst e; have := hb2.size; omega
          refine ⟨_, (L1 ++ L2) ++ [opn (7 + (q6 : Int))], a2, rfl, gn_app2 hb4 ho4 HS5.out ((((Turns.refl w4 (fun k => o4 = some k)).alloc _).trans HT5.out (fun _ _ e => e))) HO5.out, fun u v t => ((HPN1.out u v t).op2 (HPN2.out u v t) (7 + (q6 : Int)) (by omega) (by omega) (parts_cmp q6 hq66) (opK_cmp1 q6 hq66)).more (by have := HTB.out; omega), by have := HA1.out; have := HA2.out; have := HTB.out; omega⟩
        · obtain ⟨d, rfl⟩ : ∃ d, deep = d + 1 := ⟨deep - 1, by omega⟩
          have hr0 : (x : Int).tmod 7 = 3 := hr
          obtain ⟨t1, ht1, ht2⟩ : ∃ t : Nat, bits .and .i64 ((x : Int) / 16) 1 = (t : Int) ∧ t < 2 := ⟨x / 16 % 2, by rw [and1']; omega, by omega⟩
          obtain ⟨nb, hnb⟩ : ∃ nb, tb d = nb := ⟨_, rfl⟩
          have hca : ((a + 1 : Nat) : Int) = (a : Int) + 1 := by omega
          have hn7 : nb ≤ 100000 := by rw [← hnb]; have := tb_succ d; omega
          have htb : tb (d + 1) = 2 * nb + 1 := by rw [← hnb]; exact tb_succ d
          have h1 := IH.out d rfl (a + 1) w (by have := tb_succ d; omega) HLB.out
          rw [hnb, hca] at h1
          have H1 := Lib.hid h1
          have HTB := Lib.hid htb
          have HNB := Lib.hid hnb
          have hd0 : (((d + 1 : Nat) : Int) == 0) = false := by simp; omega
          have hd1 : IntKind.i64.wrap (((d + 1 : Nat) : Int) - 1) = (d : Int) := by rw [IntKind.wrap_i64]; omega
          have hd2 : ((d + 1 : Nat) : Int) - 1 = (d : Int) := by omega
          obtain ⟨i0, hi0, hz0, hz1, hz2⟩ := info_parts node_info
          clear hr h1 htb hnb
          go_wp2_with fail
          refine H1.out.mono ?_
          rintro e w1 ⟨v1, L1, a1, rfl, hg1, hp1, ha1⟩
          obtain ⟨ob1, hs1, hown1⟩ := hg1.ex
          have HS1 := Lib.hid hs1
          have HOW1 := Lib.hid hown1
          have HBE1 := Lib.hid hg1.be
          have HPN1 := Lib.hid hp1
          have hl1 : L1.length ≤ nb := (hp1 0 0 0).len
          have HL1 := Lib.hid hl1
          have HA1 := Lib.hid ha1
          obtain ⟨A1, c1, rfl, _, _⟩ := hs1.form
          have h2 := IH.out d rfl a1 w1 (by have := HA1.out; have := HTB.out; have := HNB.out; omega) (by obtain ⟨B', hl', hB'⟩ := HLB.out; exact ⟨B', hl'.below (HBE1.out.mono hB'), Nat.le_trans hB' HBE1.out.size⟩)
          rw [HNB.out] at h2
          have H2 := Lib.hid h2
          clear hs1 hown1 hg1 hp1 hl1 ha1 h2
          go_wp2_with fail
          refine H2.out.mono ?_
          rintro e w2 ⟨v2, L2, a2, rfl, hg2, hp2', ha2'⟩
          obtain ⟨ob2, hs2, hown2⟩ := hg2.ex
          have HS2 := Lib.hid hs2
          have HBE2 := Lib.hid hg2.be
          have HPN2 := Lib.hid hp2'
          have hl2 : L2.length ≤ nb := (hp2' 0 0 0).len
          have HL2 := Lib.hid hl2
          have HA2 := Lib.hid ha2'
          have HS12 := Lib.hid (HS1.out.turns (Turns.of_below hg2.be) (fun _ _ x => x))
          obtain ⟨A2, c2, rfl, _, _⟩ := hs2.form
          clear hs2 hown2 hg2 hp2' hl2 ha2'
          have H64 : Hid (nb ≤ 1000000) := Lib.hid (by omega)
          go_wp2_with (first
            | (at_builtin; refine wpList_append_both (n := L1.length) (m := L2.length) (xs := ncells L1) (ys := ncells L2) rfl _ _ 29 rfl i0 _ 80 Tryd.underlying29 hi0 hz0 hz1 hz2 rfl (by decide) rfl HS12.out rfl HS2.out (ncells_one _) (by have := HL1.out; have := HL2.out; have := H64.out; unfold maxLen; omega) (by have := HL1.out; have := HL2.out; have := H64.out; omega) ?_; intro v4 w4 o4 hs4 ht4 ho4
               have HS4 := Lib.hid hs4
               have HT4 := Lib.hid ht4
               have HO4 := Lib.hid ho4
               obtain ⟨A4, c4, rfl, _, _⟩ := hs4.form
               clear hs4 ht4 ho4
               go_frame)
            | (at_builtin; refine wpList_append_seg _ rfl _ _ 29 rfl 25 i0 _ 7 80 Tryd.underlying29 hi0 hz0 hz1 hz2 rfl (by decide) _ (L1.length + L2.length) (ncells L1 ++ ncells L2) o4 rfl (HS4.out.alloc _) ⟨w4.heap.size, 0, none⟩ 1 1 (opn (14 + (t1 : Int))).cells rfl rfl (news_nd w4 _) (by simp [opn, Nd.cells, Value.oneCell']) (by decide) (by have := HL1.out; have := HL2.out; have := H64.out; unfold maxLen; omega) (by have := HL1.out; have := HL2.out; have := H64.out; omega) ?_; intro v5 w5 o5 hs5 ht5 ho5
               have HS5 := Lib.hid hs5
               have HT5 := Lib.hid ht5
               have HO5 := Lib.hid ho5
               obtain ⟨A5, c5, rfl, _, _⟩ := hs5.form
               clear hs5 ht5 ho5
               go_frame))
          go_ret2
          have hb2 : Below w.heap.size w w2 := HBE1.out.trans (HBE2.out.mono HBE1.out.size)
          have hb4 : Below w.heap.size w w4 := HT4.out.below hb2 hb2.size (fun k hk e => by have := HOW1.out k e; omega)
          have ho4 : ∀ g, o4 = some g → w.heap.size ≤ g := fun g e => by
            rcases HO4.out with h | ⟨g', h, hg'⟩
            · exact HOW1.out g (by rw [← h]; exact e)
            · rw [h] at e; injection e with e; subst e; have := hb2.size; omega
          refine ⟨_, (L1 ++ L2) ++ [opn (14 + (t1 : Int))], a2, rfl, gn_app2 hb4 ho4 HS5.out ((((Turns.refl w4 (fun k => o4 = some k)).alloc _).trans HT5.out (fun _ _ e => e))) HO5.out, fun u v t => ((HPN1.out u v t).op2 (HPN2.out u v t) (14 + (t1 : Int)) (by omega) (by omega) (parts_or t1 ht2) (opK_or t1 ht2)).more (by have := HTB.out; omega), by have := HA1.out; have := HA2.out; have := HTB.out; omega⟩
      · rcases Nat.eq_zero_or_pos deep with hd | hd
        · have hdz : ((deep : Int) == 0) = true := by simp; omega
          clear hd
          have hr0 : (x : Int).tmod 7 = 4 := hr
          obtain ⟨q6, hq6, hq66⟩ := rem6c x
          obtain ⟨nb, hnb⟩ : ∃ nb, 2 ^ (deep + 1) - 1 = nb := ⟨_, rfl⟩
          have hca : ((a + 1 : Nat) : Int) = (a : Int) + 1 := by omega
          have hn7 : nb ≤ 7 := by rw [← hnb]; exact tb_small deep hdeep
          have hp8 : 2 ^ (deep + 1) ≤ 8 := by omega
          have htb : tb deep = 2 * nb + 1 := by rw [← hnb]; exact tb_eq deep
          have hmin : ¬ (2 : Int) < (deep : Int) := by omega
          have hmin2 : (if (2 : Int) < (deep : Int) then (2 : Int) else (deep : Int)) = (deep : Int) := if_neg hmin
          have hmin3 : (deep : Int) ≤ 2 := by omega
          have hmin4 : (if (deep : Int) ≤ 2 then (deep : Int) else (2 : Int)) = (deep : Int) := if_pos hmin3
          have hmin5 : min (deep : Int) 2 = (deep : Int) := by omega
          have h1 := number_any A n c f ln lc deep (a + 1) w (by omega) HLB.out
          rw [hnb, hca] at h1
          have H1 := Lib.hid h1
          have HTB := Lib.hid htb
          have HNB := Lib.hid hnb
          obtain ⟨i0, hi0, hz0, hz1, hz2⟩ := info_parts node_info
          clear hr h1 htb hnb
          go_wp2_with fail
          refine H1.out.mono ?_
          rintro e w1 ⟨v1, L1, a1, rfl, hg1, hp1, ha1⟩
          obtain ⟨ob1, hs1, hown1⟩ := hg1.ex
          have HS1 := Lib.hid hs1
          have HOW1 := Lib.hid hown1
          have HBE1 := Lib.hid hg1.be
          have HPN1 := Lib.hid hp1
          have hl1 : L1.length ≤ nb := (hp1 0 0 0).len
          have HL1 := Lib.hid hl1
          have HA1 := Lib.hid ha1
          obtain ⟨A1, c1, rfl, _, _⟩ := hs1.form
          have h2 := number_any A n c f ln lc deep a1 w1 (by have := HA1.out; omega) (by obtain ⟨B', hl', hB'⟩ := HLB.out; exact ⟨B', hl'.below (HBE1.out.mono hB'), Nat.le_trans hB' HBE1.out.size⟩)
          rw [HNB.out] at h2
          have H2 := Lib.hid h2
          clear hs1 hown1 hg1 hp1 hl1 ha1 h2
          go_wp2_with fail
          refine H2.out.mono ?_
          rintro e w2 ⟨v2, L2, a2, rfl, hg2, hp2', ha2'⟩
          obtain ⟨ob2, hs2, hown2⟩ := hg2.ex
          have HS2 := Lib.hid hs2
          have HBE2 := Lib.hid hg2.be
          have HPN2 := Lib.hid hp2'
          have hl2 : L2.length ≤ nb := (hp2' 0 0 0).len
          have HL2 := Lib.hid hl2
          have HA2 := Lib.hid ha2'
          have HS12 := Lib.hid (HS1.out.turns (Turns.of_below hg2.be) (fun _ _ x => x))
          obtain ⟨A2, c2, rfl, _, _⟩ := hs2.form
          clear hs2 hown2 hg2 hp2' hl2 ha2'
          have H64 : Hid (nb ≤ 1000000) := Lib.hid (by omega)
          go_wp2_with (first
            | (at_builtin; refine wpList_append_both (n := L1.length) (m := L2.length) (xs := ncells L1) (ys := ncells L2) rfl _ _ 29 rfl i0 _ 80 Tryd.underlying29 hi0 hz0 hz1 hz2 rfl (by decide) rfl HS12.out rfl HS2.out (ncells_one _) (by have := HL1.out; have := HL2.out; have := H64.out; unfold maxLen; omega) (by have := HL1.out; have := HL2.out; have := H64.out; omega) ?_; intro v4 w4 o4 hs4 ht4 ho4
               have HS4 := Lib.hid hs4
               have HT4 := Lib.hid ht4
               have HO4 := Lib.hid ho4
               obtain ⟨A4, c4, rfl, _, _⟩ := hs4.form
               clear hs4 ht4 ho4
               go_frame)
            | (at_builtin; refine wpList_append_seg _ rfl _ _ 29 rfl 25 i0 _ 7 80 Tryd.underlying29 hi0 hz0 hz1 hz2 rfl (by decide) _ (L1.length + L2.length) (ncells L1 ++ ncells L2) o4 rfl (HS4.out.alloc _) ⟨w4.heap.size, 0, none⟩ 1 1 (opn (7 + (q6 : Int))).cells rfl rfl (news_nd w4 _) (by simp [opn, Nd.cells, Value.oneCell']) (by decide) (by have := HL1.out; have := HL2.out; have := H64.out; unfold maxLen; omega) (by have := HL1.out; have := HL2.out; have := H64.out; omega) ?_; intro v5 w5 o5 hs5 ht5 ho5
               have HS5 := Lib.hid hs5
               have HT5 := Lib.hid ht5
               have HO5 := Lib.hid ho5
               obtain ⟨A5, c5, rfl, _, _⟩ := hs5.form
               clear hs5 ht5 ho5
               go_frame))
          go_ret2
          have hb2 : Below w.heap.size w w2 := HBE1.out.trans (HBE2.out.mono HBE1.out.size)
          have hb4 : Below w.heap.size w w4 := HT4.out.below hb2 hb2.size (fun k hk e => by have := HOW1.out k e; omega)
          have ho4 : ∀ g, o4 = some g → w.heap.size ≤ g := fun g e => by
            rcases HO4.out with h | ⟨g', h, hg'⟩
            · exact HOW1.out g (by rw [← h]; exact e)
            · rw [h] at e; injection e with e; subst e; have := hb2.size; omega
          refine ⟨_, (L1 ++ L2) ++ [opn (7 + (q6 : Int))], a2, rfl, gn_app2 hb4 ho4 HS5.out ((((Turns.refl w4 (fun k => o4 = some k)).alloc _).trans HT5.out (fun _ _ e => e))) HO5.out, fun u v t => ((HPN1.out u v t).op2 (HPN2.out u v t) (7 + (q6 : Int)) (by omega) (by omega) (parts_cmp q6 hq66) (opK_cmp1 q6 hq66)).more (by have := HTB.out; omega), by have := HA1.out; have := HA2.out; have := HTB.out; omega⟩
        · obtain ⟨d, rfl⟩ : ∃ d, deep = d + 1 := ⟨deep - 1, by omega⟩
          have hr0 : (x : Int).tmod 7 = 4 := hr
          obtain ⟨t1, ht1, ht2⟩ : ∃ t : Nat, bits .and .i64 ((x : Int) / 16) 1 = (t : Int) ∧ t < 2 := ⟨x / 16 % 2, by rw [and1']; omega, by omega⟩
          obtain ⟨nb, hnb⟩ : ∃ nb, tb d = nb := ⟨_, rfl⟩
          have hca : ((a + 1 : Nat) : Int) = (a : Int) + 1 := by omega
          have hn7 : nb ≤ 100000 := by rw [← hnb]; have := tb_succ d; omega
          have htb : tb (d + 1) = 2 * nb + 1 := by rw [← hnb]; exact tb_succ d
          have h1 := IH.out d rfl (a + 1) w (by have := tb_succ d; omega) HLB.out
          rw [hnb, hca] at h1
          have H1 := Lib.hid h1
          have HTB := Lib.hid htb
          have HNB := Lib.hid hnb
          have hd0 : (((d + 1 : Nat) : Int) == 0) = false := by simp; omega
          have hd1 : IntKind.i64.wrap (((d + 1 : Nat) : Int) - 1) = (d : Int) := by rw [IntKind.wrap_i64]; omega
          have hd2 : ((d + 1 : Nat) : Int) - 1 = (d : Int) := by omega
          obtain ⟨i0, hi0, hz0, hz1, hz2⟩ := info_parts node_info
          clear hr h1 htb hnb
          go_wp2_with fail
          refine H1.out.mono ?_
          rintro e w1 ⟨v1, L1, a1, rfl, hg1, hp1, ha1⟩
          obtain ⟨ob1, hs1, hown1⟩ := hg1.ex
          have HS1 := Lib.hid hs1
          have HOW1 := Lib.hid hown1
          have HBE1 := Lib.hid hg1.be
          have HPN1 := Lib.hid hp1
          have hl1 : L1.length ≤ nb := (hp1 0 0 0).len
          have HL1 := Lib.hid hl1
          have HA1 := Lib.hid ha1
          obtain ⟨A1, c1, rfl, _, _⟩ := hs1.form
          have h2 := IH.out d rfl a1 w1 (by have := HA1.out; have := HTB.out; have := HNB.out; omega) (by obtain ⟨B', hl', hB'⟩ := HLB.out; exact ⟨B', hl'.below (HBE1.out.mono hB'), Nat.le_trans hB' HBE1.out.size⟩)
          rw [HNB.out] at h2
          have H2 := Lib.hid h2
          clear hs1 hown1 hg1 hp1 hl1 ha1 h2
          go_wp2_with fail
          refine H2.out.mono ?_
          rintro e w2 ⟨v2, L2, a2, rfl, hg2, hp2', ha2'⟩
          obtain ⟨ob2, hs2, hown2⟩ := hg2.ex
          have HS2 := Lib.hid hs2
          have HBE2 := Lib.hid hg2.be
          have HPN2 := Lib.hid hp2'
          have hl2 : L2.length ≤ nb := (hp2' 0 0 0).len
          have HL2 := Lib.hid hl2
          have HA2 := Lib.hid ha2'
          have HS12 := Lib.hid (HS1.out.turns (Turns.of_below hg2.be) (fun _ _ x => x))
          obtain ⟨A2, c2, rfl, _, _⟩ := hs2.form
          clear hs2 hown2 hg2 hp2' hl2 ha2'
          have H64 : Hid (nb ≤ 1000000) := Lib.hid (by omega)
          go_wp2_with (first
            | (at_builtin; refine wpList_append_both (n := L1.length) (m := L2.length) (xs := ncells L1) (ys := ncells L2) rfl _ _ 29 rfl i0 _ 80 Tryd.underlying29 hi0 hz0 hz1 hz2 rfl (by decide) rfl HS12.out rfl HS2.out (ncells_one _) (by have := HL1.out; have := HL2.out; have := H64.out; unfold maxLen; omega) (by have := HL1.out; have := HL2.out; have := H64.out; omega) ?_; intro v4 w4 o4 hs4 ht4 ho4
               have HS4 := Lib.hid hs4
               have HT4 := Lib.hid ht4
               have HO4 := Lib.hid ho4
               obtain ⟨A4, c4, rfl, _, _⟩ := hs4.form
               clear hs4 ht4 ho4
               go_frame)
            | (at_builtin; refine wpList_append_seg _ rfl _ _ 29 rfl 25 i0 _ 7 80 Tryd.underlying29 hi0 hz0 hz1 hz2 rfl (by decide) _ (L1.length + L2.length) (ncells L1 ++ ncells L2) o4 rfl (HS4.out.alloc _) ⟨w4.heap.size, 0, none⟩ 1 1 (opn (14 + (t1 : Int))).cells rfl rfl (news_nd w4 _) (by simp [opn, Nd.cells, Value.oneCell']) (by decide) (by have := HL1.out; have := HL2.out; have := H64.out; unfold maxLen; omega) (by have := HL1.out; have := HL2.out; have := H64.out; omega) ?_; intro v5 w5 o5 hs5 ht5 ho5
               have HS5 := Lib.hid hs5
               have HT5 := Lib.hid ht5
               have HO5 := Lib.hid ho5
               obtain ⟨A5, c5, rfl, _, _⟩ := hs5.form
               clear hs5 ht5 ho5
               go_frame))
          go_ret2
          have hb2 : Below w.heap.size w w2 := HBE1.out.trans (HBE2.out.mono HBE1.out.size)
          have hb4 : Below w.heap.size w w4 := HT4.out.below hb2 hb2.size (fun k hk e => by have := HOW1.out k e; omega)
          have ho4 : ∀ g, o4 = some g → w.heap.size ≤ g := fun g e => by
            rcases HO4.out with h | ⟨g', h, hg'⟩
            · exact HOW1.out g (by rw [← h]; exact e)
            · rw [h] at e; injection e with e; subst e; have := hb2.size; omega
          refine ⟨_, (L1 ++ L2) ++ [opn (14 + (t1 : Int))], a2, rfl, gn_app2 hb4 ho4 HS5.out ((((Turns.refl w4 (fun k => o4 = some k)).alloc _).trans HT5.out (fun _ _ e => e))) HO5.out, fun u v t => ((HPN1.out u v t).op2 (HPN2.out u v t) (14 + (t1 : Int)) (by omega) (by omega) (parts_or t1 ht2) (opK_or t1 ht2)).more (by have := HTB.out; omega), by have := HA1.out; have := HA2.out; have := HTB.out; omega⟩
      · have hr0 : (x : Int).tmod 7 = 5 := hr
        obtain ⟨i3, hi3, hi33⟩ := rem3 x
        obtain ⟨j3, hj3, hj33⟩ := rem3b x
        obtain ⟨q6, hq6, hq66⟩ := rem6b x
        have hii : (i3 : Int) < 3 := by omega
        have hjj : (j3 : Int) < 3 := by omega
        obtain ⟨nm, hnm⟩ : ∃ nm, vAt i3 = nm := ⟨_, rfl⟩
        obtain ⟨tm, htm⟩ : ∃ tm, tAt j3 = tm := ⟨_, rfl⟩
        have fA1 := nm_cell w i3 hi33
        have fA2 : ((w.alloc (.cells #[.string ⟨#[97]⟩, .string ⟨#[98]⟩, .string ⟨#[99]⟩] 9)).alloc (.cells #[.string ⟨#[117]⟩, .string ⟨#[118]⟩, .string ⟨#[105, 116, 39, 115]⟩] 9)).cell? ⟨w.heap.size, i3, none⟩ = some (.string (vAt i3)) := Lib.cell?_alloc_some _ fA1
        have fA3 : ((w.alloc (.cells #[.string ⟨#[97]⟩, .string ⟨#[98]⟩, .string ⟨#[99]⟩] 9)).alloc (.cells #[.string ⟨#[117]⟩, .string ⟨#[118]⟩, .string ⟨#[105, 116, 39, 115]⟩] 9)).cell? ⟨w.heap.size + 1, j3, none⟩ = some (.string (tAt j3)) := by have := tm_cell (w.alloc (.cells #[.string ⟨#[97]⟩, .string ⟨#[98]⟩, .string ⟨#[99]⟩] 9)) j3 hj33; simpa using this
        have fB1 := tm_cell w j3 hj33
        have fB2 : ((w.alloc (.cells #[.string ⟨#[117]⟩, .string ⟨#[118]⟩, .string ⟨#[105, 116, 39, 115]⟩] 9)).alloc (.cells #[.string ⟨#[97]⟩, .string ⟨#[98]⟩, .string ⟨#[99]⟩] 9)).cell? ⟨w.heap.size, j3, none⟩ = some (.string (tAt j3)) := Lib.cell?_alloc_some _ fB1
        have fB3 : ((w.alloc (.cells #[.string ⟨#[117]⟩, .string ⟨#[118]⟩, .string ⟨#[105, 116, 39, 115]⟩] 9)).alloc (.cells #[.string ⟨#[97]⟩, .string ⟨#[98]⟩, .string ⟨#[99]⟩] 9)).cell? ⟨w.heap.size + 1, i3, none⟩ = some (.string (vAt i3)) := by have := nm_cell (w.alloc (.cells #[.string ⟨#[117]⟩, .string ⟨#[118]⟩, .string ⟨#[105, 116, 39, 115]⟩] 9)) i3 hi33; simpa using this
        rw [hnm] at fA1 fA2 fB3
        rw [htm] at fA3 fB1 fB2
        have HNM := Lib.hid hnm
        have HTM := Lib.hid htm
        clear hr hnm htm
        go_upto_region 8 with fail
        go_region
        all_goals
          go_wp2
          go_ret2
          have hpl : ∀ u v t, PL typesL (scN u v t) 3 3 [⟨2, 0, 0, ⟨#[]⟩, false, nm, ss⟩, ⟨1, 2, 0, tm, false, ⟨#[]⟩, ⟨#[]⟩⟩, opn (7 + (q6 : Int))] := fun u v t => by
            have h1 := pn_fieldS i3 hi33 u v t
            have h2 := pn_text (tAt j3) (tAt_size j3) u v t
            rw [HNM.out] at h1
            rw [HTM.out] at h2
            exact h1.op2 h2 (7 + (q6 : Int)) (by omega) (by omega) (parts_cmp q6 hq66) (opK_cmp2 q6 hq66)
          exact ⟨_, [⟨2, 0, 0, ⟨#[]⟩, false, nm, ss⟩, ⟨1, 2, 0, tm, false, ⟨#[]⟩, ⟨#[]⟩⟩, opn (7 + (q6 : Int))], a + 1, rfl, gn_rows (n := 3) (row_at (by simp) _ _).drew rfl (by decide) (by omega) (((((Below.refl _ w).alloc (Nat.le_refl _) _).alloc (by simp) _).alloc (by simp; omega) _).drew), fun u v t => (hpl u v t).more (by have := HB3.out; omega), by have := HB3.out; omega⟩
      · have hr0 : (x : Int).tmod 7 = 6 := hr
        obtain ⟨bb, hbb⟩ : ∃ bb, decide ((0 : Int) < bits .and .i64 ((x : Int) / 16) 1) = bb := ⟨_, rfl⟩
        clear hr
        go_wp2
        go_ret2
        exact ⟨_, _, a + 1, rfl, gn_row (nd := ⟨1, 3, 0, ⟨#[]⟩, bb, ⟨#[]⟩, ⟨#[]⟩⟩) (by rw [← hbb]; exact Row.made w _ _) (Nat.le_refl _) ((Below.refl _ w).alloc (Nat.le_refl _) _), fun u v t => (pn_truth bb u v t).more (by have := HB3.out; omega), by have := HB3.out; omega⟩
end Go.Proofs.YtlpkeinablekpaaDoor.Ty

/- The law TypingMade. -/
namespace Go.Proofs.YtlpkeinablekpaaDoor.Ty
open Go.RowKit Go.Proofs.YtlpkeinablekpaaDoor Go.Proofs.YtlpkeinablekpaaDoor.Sch
set_option linter.unusedVariables false
set_option maxRecDepth 100000
theorem truth_two (A : Option Addr) (n c : Nat) (f : Nat → Int) (ln : n ≤ c) (lc : c ≤ 9223372036854775807) (a : Nat) (w : World) (ha : a + tb 2 ≤ 100000) (hlb : ∃ B, Lies w B A n (fun k => .int .i64 (f k)) ∧ B ≤ w.heap.size) :
    Calls Tryd.prog 13 #[.slice A n c, .int .i64 a, .int .i64 (2 : Nat)] w (MadePost w 3 (tb 2) a (tb 2)) := by
  refine truth_leaf A n c f ln lc a 2 (by decide) w ha hlb (Lib.hid fun d hd a w ha hlb => ?_)
  obtain rfl : d = 1 := by omega
  refine truth_leaf A n c f ln lc a 1 (by decide) w ha hlb (Lib.hid fun d hd a w ha hlb => ?_)
  obtain rfl : d = 0 := by omega
  exact truth_leaf A n c f ln lc a 0 (by decide) w ha hlb (Lib.hid fun d hd => by omega)
theorem Gn.ns {w w' : World} {v : Value} {L : List Nd} (h : Gn w w' v L) : Ns w' w'.heap.size v L := by
  obtain ⟨ob, hs, _⟩ := h.ex
  obtain ⟨A, c, rfl, _⟩ := hs.form
  exact ns_seg hs rfl
end Go.Proofs.YtlpkeinablekpaaDoor.Ty

