/- A map in memory, as the list of its keys and things; keys that are numbers (written by gen_omo). -/
import Derived.Test.YtnibmfijkbfaeaaOmM
namespace Go.Proofs.Ytnibmfijkbfaeaa.Om
open Go.RowKit Go.Proofs.Ytnibmfijkbfaeaa
set_option linter.unusedVariables false
set_option linter.unusedSimpArgs false
set_option maxRecDepth 100000
open Key (lt)

/-- A map lies in block b: its keys and things, rising. -/
def MLI (w : World) (b : Nat) (L : List (Int × Int)) : Prop := ∃ t p, MmI w b t p ∧ t.toL = L ∧ Up L
theorem MLI.below {w w' : World} {b : Nat} {L : List (Int × Int)} (h : MLI w b L) (hb : Below w.heap.size w w') : MLI w' b L := by
  obtain ⟨t, p, h1, h2⟩ := h
  exact ⟨t, p, h1.below hb, h2⟩
theorem MLI.lt {w : World} {b : Nat} {L : List (Int × Int)} (h : MLI w b L) : b < w.heap.size := by
  obtain ⟨t, p, h1, _⟩ := h
  exact h1.row.lt
theorem MLI.new {w : World} {b : Nat} (hr : Row w b 26 #[.pointer none]) : MLI w b [] := ⟨.leaf, _, ⟨hr, rfl⟩, rfl, List.Pairwise.nil⟩
theorem mput_i (b : Nat) (k : Int) (v : Int) (L : List (Int × Int)) (w : World) (h : MLI w b L) (hs : L.length ≤ 1000000) :
    Calls Try.prog 7 #[.pointer (some ⟨b, 0, none⟩), .int .i64 k, .int .i64 v] w fun e w' => e = .returned (.bool (!(get k L).isSome)) ∧ MLI w' b (put k v L) ∧ Turns w w' (fun j => j = b) := by
  obtain ⟨t, p, hm, rfl, hu⟩ := h
  refine (put_i b k v t p w hm hu (by rw [← Tr.len]; exact hs)).mono ?_
  rintro e w' ⟨rfl, p', hm', ht⟩
  exact ⟨by rw [find_toL k t hu], ⟨_, p', hm', wth_toL k v t hu, put_up hu⟩, ht⟩
theorem mget_i (b : Nat) (k : Int) (L : List (Int × Int)) (w : World) (h : MLI w b L) :
    Calls Try.prog 9 #[.pointer (some ⟨b, 0, none⟩), .int .i64 k] w fun e w' => e = .returned (.tuple #[.int .i64 ((get k L).getD 0), .bool (get k L).isSome]) ∧ ∃ n, w' = w.drewN n := by
  obtain ⟨t, p, hm, rfl, hu⟩ := h
  rw [← find_toL k t hu]
  exact get_i (fun _ => True) k _ p t w (.of hm.row) hm.tm
theorem mlen_i (b : Nat) (L : List (Int × Int)) (w : World) (h : MLI w b L) :
    Calls Try.prog 11 #[.pointer (some ⟨b, 0, none⟩)] w fun e w' => e = .returned (.int .i64 (L.length : Nat)) ∧ w = w' := by
  obtain ⟨t, p, hm, rfl, hu⟩ := h
  rw [Tr.len]
  exact len_i (fun _ => True) _ p t w (.of hm.row) hm.tm
theorem mkeys_i (b : Nat) (L : List (Int × Int)) (w : World) (h : MLI w b L) (hs : L.length ≤ 65536) :
    Calls Try.prog 10 #[.pointer (some ⟨b, 0, none⟩)] w fun e w' => ∃ v ob, e = .returned v ∧ Seg w' 3 1 v (L.map Prod.fst).length (valsI (L.map Prod.fst)) ob ∧ Below w.heap.size w w' := by
  obtain ⟨t, p, hm, rfl, hu⟩ := h
  obtain ⟨h1, h2⟩ := Tm.tmP hm.tm
  refine keys_i (fun j => blks 72 (fun k : Int => .int .i64 k) w t p j ∨ j = b) _ p t w (fun j hj => hj.elim (h2 j) (fun e => by subst e; exact ⟨_, _, hm.row⟩)) (.inl ⟨b, rfl, .inr rfl, hm.row⟩) (h1.more (fun _ => .inl)) (by rw [← Tr.len]; exact hs)

theorem mdrop_i (b : Nat) (k : Int) (L : List (Int × Int)) (w : World) (h : MLI w b L) (hs : L.length ≤ 1000000) :
    Calls Try.prog 8 #[.pointer (some ⟨b, 0, none⟩), .int .i64 k] w fun e w' => e = .returned (.bool (get k L).isSome) ∧ MLI w' b (del k L) ∧ Turns w w' (fun j => j = b) := by
  obtain ⟨t, p, hm, rfl, hu⟩ := h
  refine (drop_i b k t p w hm hu (by rw [← Tr.len]; exact hs)).mono ?_
  rintro e w' ⟨rfl, t', p', e2, hm', ht⟩
  exact ⟨by rw [find_toL k t hu], ⟨t', p', hm', e2, del_up hu⟩, ht⟩
theorem mblw_i (b : Nat) (k : Int) (L : List (Int × Int)) (w : World) (h : MLI w b L) (hs : L.length ≤ 1000000) :
    Calls Try.prog 12 #[.pointer (some ⟨b, 0, none⟩), .int .i64 k] w fun e w' => e = .returned (.int .i64 ((L.filter fun x => decide (lt x.1 k)).length : Nat)) ∧ w = w' := by
  obtain ⟨t, p, hm, rfl, hu⟩ := h
  rw [← blw_toL k t hu]
  exact mbelow_i (fun _ => True) k _ p t w (.of hm.row) hm.tm (by rw [← Tr.len]; exact hs)
/-- What First and Last tell. -/
def topL_i (o : Option (Int × Int)) : Array Value := match o with
  | none => #[.int .i64 0, .int .i64 0, .bool false]
  | some (a, b) => #[.int .i64 a, .int .i64 b, .bool true]
theorem mfirst_i (b : Nat) (L : List (Int × Int)) (w : World) (h : MLI w b L) :
    Calls Try.prog 14 #[.pointer (some ⟨b, 0, none⟩)] w fun e w' => e = .returned (.tuple (topL_i L.head?)) ∧ ∃ n, w' = w.drewN n := by
  obtain ⟨t, p, hm, rfl, hu⟩ := h
  have e : topL_i t.toL.head? = tops_i (fstT t) := by
    rw [← fst_toL, ← fstT_top]; rfl
  rw [e]
  exact mFirst_i (fun _ => True) _ p t w (.of hm.row) hm.tm
theorem mlast_i (b : Nat) (L : List (Int × Int)) (w : World) (h : MLI w b L) :
    Calls Try.prog 15 #[.pointer (some ⟨b, 0, none⟩)] w fun e w' => e = .returned (.tuple (topL_i L.getLast?)) ∧ ∃ n, w' = w.drewN n := by
  obtain ⟨t, p, hm, rfl, hu⟩ := h
  have e : topL_i t.toL.getLast? = tops_i (lstT t) := by
    rw [← lst_toL, ← lstT_top]; rfl
  rw [e]
  exact mLast_i (fun _ => True) _ p t w (.of hm.row) hm.tm
end Go.Proofs.Ytnibmfijkbfaeaa.Om
