/- A map in memory, as the list of its keys and things; keys that are texts (written by gen_omo). -/
import Derived.Test.YtnibmfijkbfaeaaOmN
import Derived.Test.YtnibmfijkbfaeaaOmO
namespace Go.Proofs.Ytnibmfijkbfaeaa.Om
open Go.RowKit Go.Proofs.Ytnibmfijkbfaeaa
set_option linter.unusedVariables false
set_option linter.unusedSimpArgs false
set_option maxRecDepth 100000
open Key (lt)

/-- A map lies in block b: its keys and things, rising. -/
def MLS (w : World) (b : Nat) (L : List (ByteArray × Int)) : Prop := ∃ t p, MmS w b t p ∧ t.toL = L ∧ Up L
theorem MLS.below {w w' : World} {b : Nat} {L : List (ByteArray × Int)} (h : MLS w b L) (hb : Below w.heap.size w w') : MLS w' b L := by
  obtain ⟨t, p, h1, h2⟩ := h
  exact ⟨t, p, h1.below hb, h2⟩
theorem MLS.lt {w : World} {b : Nat} {L : List (ByteArray × Int)} (h : MLS w b L) : b < w.heap.size := by
  obtain ⟨t, p, h1, _⟩ := h
  exact h1.row.lt
theorem MLS.new {w : World} {b : Nat} (hr : Row w b 52 #[.pointer none]) : MLS w b [] := ⟨.leaf, _, ⟨hr, rfl⟩, rfl, List.Pairwise.nil⟩
theorem mput_s (b : Nat) (k : ByteArray) (v : Int) (L : List (ByteArray × Int)) (w : World) (h : MLS w b L) (hs : L.length ≤ 1000000) :
    Calls Try.prog 18 #[.pointer (some ⟨b, 0, none⟩), .string k, .int .i64 v] w fun e w' => e = .returned (.bool (!(get k L).isSome)) ∧ MLS w' b (put k v L) ∧ Turns w w' (fun j => j = b) := by
  obtain ⟨t, p, hm, rfl, hu⟩ := h
  refine (put_s b k v t p w hm hu (by rw [← Tr.len]; exact hs)).mono ?_
  rintro e w' ⟨rfl, p', hm', ht⟩
  exact ⟨by rw [find_toL k t hu], ⟨_, p', hm', wth_toL k v t hu, put_up hu⟩, ht⟩
theorem mget_s (b : Nat) (k : ByteArray) (L : List (ByteArray × Int)) (w : World) (h : MLS w b L) :
    Calls Try.prog 20 #[.pointer (some ⟨b, 0, none⟩), .string k] w fun e w' => e = .returned (.tuple #[.int .i64 ((get k L).getD 0), .bool (get k L).isSome]) ∧ ∃ n, w' = w.drewN n := by
  obtain ⟨t, p, hm, rfl, hu⟩ := h
  rw [← find_toL k t hu]
  exact get_s (fun _ => True) k _ p t w (.of hm.row) hm.tm
theorem mlen_s (b : Nat) (L : List (ByteArray × Int)) (w : World) (h : MLS w b L) :
    Calls Try.prog 21 #[.pointer (some ⟨b, 0, none⟩)] w fun e w' => e = .returned (.int .i64 (L.length : Nat)) ∧ w = w' := by
  obtain ⟨t, p, hm, rfl, hu⟩ := h
  rw [Tr.len]
  exact len_s (fun _ => True) _ p t w (.of hm.row) hm.tm
theorem mkeys_s (b : Nat) (L : List (ByteArray × Int)) (w : World) (h : MLS w b L) (hs : L.length ≤ 65536) :
    Calls Try.prog 19 #[.pointer (some ⟨b, 0, none⟩)] w fun e w' => ∃ v ob, e = .returned v ∧ Seg w' 9 1 v (L.map Prod.fst).length (valsS (L.map Prod.fst)) ob ∧ Below w.heap.size w w' := by
  obtain ⟨t, p, hm, rfl, hu⟩ := h
  obtain ⟨h1, h2⟩ := Tm.tmP hm.tm
  refine keys_s (fun j => blks 76 (fun k : ByteArray => .string k) w t p j ∨ j = b) _ p t w (fun j hj => hj.elim (h2 j) (fun e => by subst e; exact ⟨_, _, hm.row⟩)) (.inl ⟨b, rfl, .inr rfl, hm.row⟩) (h1.more (fun _ => .inl)) (by rw [← Tr.len]; exact hs)

def sA : ByteArray := ⟨#[97]⟩
def sB : ByteArray := ⟨#[98]⟩
theorem ab : lt sA sB := by
  show Op.bytesLess sA.toList sB.toList = true
  rw [ByteArray.toList_eq, ByteArray.toList_eq]
  decide
theorem ba : ¬ lt sB sA := fun h => Key.irr sA (Key.tr ab h)
theorem aw1 : get sB ([] : List (ByteArray × Int)) = none := rfl
theorem aw2 : put sB 2 ([] : List (ByteArray × Int)) = [(sB, 2)] := rfl
theorem aw3 : get sA [(sB, (2 : Int))] = none := by simp only [get]; rw [if_pos (.inl ab)]
theorem aw4 : put sA 1 [(sB, (2 : Int))] = [(sA, 1), (sB, 2)] := by simp only [put]; rw [if_pos ab]
theorem aw5 : get sB [(sA, (1 : Int)), (sB, 2)] = some 2 := by simp only [get]; rw [if_pos (.inr ab), if_neg (fun e => e.elim (Key.irr _) (Key.irr _))]
theorem aw6 : put sB 3 [(sA, (1 : Int)), (sB, 2)] = [(sA, 1), (sB, 3)] := by simp only [put]; rw [if_neg ba, if_pos ab, if_neg (Key.irr _), if_neg (Key.irr _)]
theorem aw7 : get sB [(sA, (1 : Int)), (sB, 3)] = some 3 := by simp only [get]; rw [if_pos (.inr ab), if_neg (fun e => e.elim (Key.irr _) (Key.irr _))]
set_option maxHeartbeats 1000000 in
theorem awake_any (w : World) : Calls Try.prog 6 #[] w fun e w' => e = .returned (.bool true) ∧ Below w.heap.size w w' := by
  have HM : Hid (MLS (w.alloc (.cells #[.pointer none] 52)) w.heap.size []) := Lib.hid (MLS.new (Row.made w _ _))
  have HT : Hid (Turns (w.alloc (.cells #[.pointer none] 52)) (w.alloc (.cells #[.pointer none] 52)) (fun j => j = w.heap.size)) := Lib.hid (Turns.refl _ _)
  go_enter Try.func6, Try.ntmps6
  go_upto_region 2 with fail
  obtain ⟨W0, hW0⟩ : ∃ W0, w.alloc (.cells #[.pointer none] 52) = W0 := ⟨_, rfl⟩
  have HB0 : Hid (Below w.heap.size w W0) := Lib.hid (by rw [← hW0]; exact (Below.refl _ w).alloc (Nat.le_refl _) _)
  rw [hW0] at HM HT ⊢
  clear hW0
  have H1 := Lib.hid (mput_s w.heap.size sB 2 [] W0 HM.out (by simp))
  rw [aw1, aw2] at H1
  go_wp2_with fail
  refine H1.out.mono ?_
  rintro e W1 ⟨rfl, hm1, ht1⟩
  have H2 := Lib.hid (mput_s w.heap.size sA 1 _ W1 hm1 (by simp))
  rw [aw3, aw4] at H2
  have HT1 := Lib.hid ht1
  clear hm1 ht1
  go_wp2_with fail
  refine H2.out.mono ?_
  rintro e W2 ⟨rfl, hm2, ht2⟩
  have H3 := Lib.hid (mput_s w.heap.size sB 3 _ W2 hm2 (by simp))
  rw [aw5, aw6] at H3
  have HT2 := Lib.hid ht2
  clear hm2 ht2
  go_wp2_with fail
  refine H3.out.mono ?_
  rintro e W3 ⟨rfl, hm3, ht3⟩
  have HT3 := Lib.hid ht3
  have HM3 := Lib.hid hm3
  have H4 := Lib.hid (mget_s w.heap.size sB _ W3 hm3)
  rw [aw7] at H4
  clear hm3 ht3
  go_wp2_with fail
  refine H4.out.mono ?_
  rintro e W4 ⟨rfl, n4, h4⟩
  have hb4 : Below W3.heap.size W3 W4 := by rw [h4]; exact ⟨rfl, rfl, rfl, Nat.le_refl _, fun _ _ => rfl⟩
  have HB4 := Lib.hid hb4
  have H5 := Lib.hid (mkeys_s w.heap.size _ W4 (HM3.out.below hb4) (by simp))
  clear hb4 h4
  go_wp2_with fail
  refine H5.out.mono ?_
  rintro e W5 ⟨v5, ob5, rfl, hs5, hb5⟩
  obtain ⟨g, o, cap, rfl, _, _, _, hcl, _⟩ := hs5.shape (by simp)
  have k0 : W5.cell? ⟨g, o, none⟩ = some (.string sA) := by
    have h := hcl 0 (.string sA) rfl
    simpa using h
  have HB5 := Lib.hid hb5
  clear hs5 hb5 hcl
  have hlen : ([(sA, (1 : Int)), (sB, 3)].map Prod.fst).length = 2 := rfl
  rw [hlen]
  have hA : sA = ⟨#[97]⟩ := rfl
  rw [hA] at k0
  clear hlen hA
  go_wp2
  go_ret
  refine ⟨rfl, ?_⟩
  have b1 := HT1.out.below HB0.out HB0.out.size (fun j hj e => by omega)
  have b2 := HT2.out.below b1 b1.size (fun j hj e => by omega)
  have b3 := HT3.out.below b2 b2.size (fun j hj e => by omega)
  exact (b3.trans (HB4.out.mono b3.size)).trans (HB5.out.mono (b3.trans (HB4.out.mono b3.size)).size)
end Go.Proofs.Ytnibmfijkbfaeaa.Om
