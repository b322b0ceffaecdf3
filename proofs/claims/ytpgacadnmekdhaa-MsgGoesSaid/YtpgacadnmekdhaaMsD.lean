/- The law's messages, made of such as come in. -/
import Derived.Test.YtpgacadnmekdhaaMsC
namespace Go.Proofs.Ytpgacadnmekdhaa.Ms
open Go.RowKit Go.Proofs.Ytpgacadnmekdhaa Go.Proofs.Ytpgacadnmekdhaa.Ev
set_option linter.unusedVariables false
set_option maxRecDepth 100000
/-- A message that came in. -/
structure MI where
  kind : Int
  e : EI
  T : Int
def MLies (w : World) (B : Nat) (A : Option Addr) (n : Nat) (f : Nat → MI) : Prop :=
  ∀ k, k < n → ∃ g o, A = some ⟨g, o, none⟩ ∧ g < B ∧ w.cell? ⟨g, o + k * 12, none⟩ = some (.int .i64 (f k).kind) ∧ w.cell? ⟨g, o + k * 12 + 2, none⟩ = some (.string (f k).e.ty) ∧ w.cell? ⟨g, o + k * 12 + 3, none⟩ = some (.string (f k).e.key) ∧ w.cell? ⟨g, o + k * 12 + 4, none⟩ = some (.int .i64 (f k).e.t) ∧ w.cell? ⟨g, o + k * 12 + 5, none⟩ = some (.int .i64 (f k).e.q) ∧ w.cell? ⟨g, o + k * 12 + 6, none⟩ = some (.slice (f k).e.va (f k).e.vn (f k).e.vc) ∧ w.cell? ⟨g, o + k * 12 + 7, none⟩ = some (.int .i64 (f k).T) ∧
    EIOk w B (f k).e ∧ (-9223372036854775808 ≤ (f k).kind ∧ (f k).kind ≤ 9223372036854775807) ∧ (-9223372036854775808 ≤ (f k).T ∧ (f k).T ≤ 9223372036854775807)
theorem MLies.below {w w' : World} {B : Nat} {A : Option Addr} {n : Nat} {f : Nat → MI} (h : MLies w B A n f) (hb : Below B w w') : MLies w' B A n f := fun k hk => by
  obtain ⟨g, o, e, hg, h0, h2, h3, h4, h5, h6, h7, he, r⟩ := h k hk
  exact ⟨g, o, e, hg, (hb.cell (p := ⟨g, _, none⟩) hg).trans h0, (hb.cell (p := ⟨g, _, none⟩) hg).trans h2, (hb.cell (p := ⟨g, _, none⟩) hg).trans h3, (hb.cell (p := ⟨g, _, none⟩) hg).trans h4, (hb.cell (p := ⟨g, _, none⟩) hg).trans h5, (hb.cell (p := ⟨g, _, none⟩) hg).trans h6, (hb.cell (p := ⟨g, _, none⟩) hg).trans h7, he.below hb, r⟩
theorem MLies.mono {w : World} {B B' : Nat} {A : Option Addr} {n : Nat} {f : Nat → MI} (h : MLies w B A n f) (hB : B ≤ B') : MLies w B' A n f := fun k hk => by
  obtain ⟨g, o, e, hg, h0, h2, h3, h4, h5, h6, h7, he, r⟩ := h k hk
  exact ⟨g, o, e, by omega, h0, h2, h3, h4, h5, h6, h7, he.mono hB, r⟩
/-- A message of the law's. -/
structure MgOk (w : World) (m : Mg) : Prop where
  q : m.q = 0
  T : 0 ≤ m.T ∧ m.T ≤ 7
  id : m.id = { data := #[] }
  el : m.eA = none ∧ m.en = 0 ∧ m.ec = 0 ∧ m.win = 0 ∧ m.cap = 0
  sz : m.key.size ≤ 6
  kb : 1 ≤ m.kind ∧ m.kind ≤ 4
  vs : (m.vA = none ∧ m.vc = 0 ∧ m.vs = []) ∨ ∃ b, m.vA = some ⟨b, 0, none⟩ ∧ m.vc = m.vs.length ∧ (0 < m.vs.length ∧ m.vs.length ≤ 3) ∧ Row w b 94 (vcells m.vs).toArray
section
variable {w w' : World} {m : Mg}
theorem row_ne {b b' : Nat} {t t' : TypeId} {c c' : Array Value} (h : Row w b t c) (g : Row w b' t' c') (hn : t ≠ t') : b ≠ b' := by
  intro e
  subst e
  unfold Row at h g
  rw [h] at g
  injection g with g
  injection g with _ g
  exact hn g
theorem seg_row {e : TypeId} {size n : Nat} {v : Value} {xs : List Value} {g : Nat} (h : Seg w e size v n xs (some g)) : ∃ c, Row w g e c := by
  obtain ⟨_, A, cap, _, _, _, ⟨_, h2, _⟩ | ⟨g', o, cur, _, h2, h3, _⟩⟩ := h
  · cases h2
  · cases h2; exact ⟨_, h3⟩
theorem MgOk.turns {S : Nat → Prop} (h : MgOk w m) (g : Turns w w' S) (hs : ∀ b, S b → ∃ t c, t ≠ 94 ∧ Row w b t c) : MgOk w' m :=
  ⟨h.q, h.T, h.id, h.el, h.sz, h.kb, h.vs.imp_right fun ⟨b, a1, a2, a3, a4⟩ => ⟨b, a1, a2, a3, a4.turns g (fun hS => by
    obtain ⟨t, c, hn, hr⟩ := hs b hS
    exact row_ne a4 hr (fun e => hn e.symm) rfl)⟩⟩
theorem MgOk.call (h : MgOk w m) (g : Below w.heap.size w w') : MgOk w' m := h.turns (Turns.of_below g) (fun _ x => x.elim)
theorem MgOk.drewN (h : MgOk w m) (n : Nat) : MgOk (w.drewN n) m := ⟨h.q, h.T, h.id, h.el, h.sz, h.kb, h.vs⟩
theorem MgOk.put (h : MgOk w m) {b : Nat} {t : TypeId} {c : Array Value} (hr : Row w b t c) (hn : t ≠ 94) (i : Nat) (u : Value) : MgOk (w.setCell ⟨b, i, none⟩ u) m :=
  h.turns (Turns.of_grown (grown_set w b i u)) (fun k hk => by cases hk; exact ⟨t, c, hn, hr⟩)
theorem MgOk.lst (h : MgOk w m) : VS w m.vA m.vc m.vs := by
  rcases h.vs with ⟨h1, h2, h3⟩ | ⟨b, h1, h2, h3, h4⟩
  · rw [h1, h2, h3]; exact VS.nil w none 0 (by omega)
  · rw [h1, h2]; exact VS.of_row h4 (by omega)
end
theorem seg_empty (w : World) (e : TypeId) (size : Nat) (A : Option Addr) : Seg w e size (.slice A 0 0) 0 [] none := ⟨by simp, _, 0, rfl, Nat.le_refl _, by unfold maxLen; omega, .inl ⟨rfl, rfl, fun _ => trivial⟩⟩
def mcells (ms : List Mg) : List Value := ms.flatMap Mg.cells
/-- What holds between two rounds. -/
structure Near (w0 w : World) (v : Value) (ob : Option Nat) (f : Nat → MI) (ms : List Mg) : Prop where
  be : Below w0.heap.size w0 w
  seg : Seg w 85 12 v ms.length (mcells ms) ob
  ge : ∀ k, ob = some k → w0.heap.size ≤ k
  ok : ∀ (i : Nat) (m : Mg), ms[i]? = some m → MgOk w m ∧ m.kind = (f i).kind % 4 + 1 ∧ m.ticket = (i : Int) + 1
theorem event_ex (x : EI) (w : World) (h : EIOk w w.heap.size x) :
    Calls Try.prog 100 #[.agg #[.string x.ty, .string x.key, .int .i64 x.t, .int .i64 x.q, .slice x.va x.vn x.vc]] w fun e w' => ∃ (ty key : ByteArray) (t : Int) (vb : Nat) (vs : List VV) (n : Nat), e = .returned (.agg #[.string ty, .string key, .int .i64 t, .int .i64 0, .slice (some ⟨vb, 0, none⟩) n n]) ∧ n = vs.length ∧ (0 < n ∧ n ≤ 3) ∧ Row w' vb 94 (vcells vs).toArray ∧ Below w.heap.size w w' :=
  (event_any x w h).mono fun e w' ⟨vb, he, ho, hb⟩ => ⟨_, _, _, vb, _, _, he, rfl, ⟨Nat.lt_of_lt_of_le (by omega) ho.ln.1, ho.ln.2⟩, ho.row, hb⟩
def mg0 (kind : Int) (k : Nat) : Mg := ⟨kind % 4 + 1, (k : Int) + 1, { data := #[] }, { data := #[] }, 0, 0, none, 0, [], 0, { data := #[] }, none, 0, 0, 0, 0⟩
theorem mid_ev {wr w2 : World} {kind : Int} {k vb : Nat} {vs : List VV} (hb : Below wr.heap.size wr w2) (hr : Row w2 wr.heap.size 85 (mg0 kind k).cells.toArray) (hv : Row w2 vb 94 (vcells vs).toArray) (ty key : ByteArray) (t q : Int) (n : Nat) :
    Below wr.heap.size wr (((((w2.setCell ⟨wr.heap.size, 2, none⟩ (.string ty)).setCell ⟨wr.heap.size, 3, none⟩ (.string key)).setCell ⟨wr.heap.size, 4, none⟩ (.int .i64 t)).setCell ⟨wr.heap.size, 5, none⟩ (.int .i64 q)).setCell ⟨wr.heap.size, 6, none⟩ (.slice (some ⟨vb, 0, none⟩) n n)) ∧
      Row (((((w2.setCell ⟨wr.heap.size, 2, none⟩ (.string ty)).setCell ⟨wr.heap.size, 3, none⟩ (.string key)).setCell ⟨wr.heap.size, 4, none⟩ (.int .i64 t)).setCell ⟨wr.heap.size, 5, none⟩ (.int .i64 q)).setCell ⟨wr.heap.size, 6, none⟩ (.slice (some ⟨vb, 0, none⟩) n n)) wr.heap.size 85 #[.int .i64 (kind % 4 + 1), .int .i64 ((k : Int) + 1), .string ty, .string key, .int .i64 t, .int .i64 q, .slice (some ⟨vb, 0, none⟩) n n, .int .i64 0, .string { data := #[] }, .slice none 0 0, .int .i64 0, .int .i64 0] ∧
      Row (((((w2.setCell ⟨wr.heap.size, 2, none⟩ (.string ty)).setCell ⟨wr.heap.size, 3, none⟩ (.string key)).setCell ⟨wr.heap.size, 4, none⟩ (.int .i64 t)).setCell ⟨wr.heap.size, 5, none⟩ (.int .i64 q)).setCell ⟨wr.heap.size, 6, none⟩ (.slice (some ⟨vb, 0, none⟩) n n)) vb 94 (vcells vs).toArray := by
  have hne : vb ≠ wr.heap.size := row_ne hv hr (by decide)
  exact ⟨((((hb.setCell (p := ⟨wr.heap.size, 2, none⟩) (Nat.le_refl _) _).setCell (p := ⟨wr.heap.size, 3, none⟩) (Nat.le_refl _) _).setCell (p := ⟨wr.heap.size, 4, none⟩) (Nat.le_refl _) _).setCell (p := ⟨wr.heap.size, 5, none⟩) (Nat.le_refl _) _).setCell (p := ⟨wr.heap.size, 6, none⟩) (Nat.le_refl _) _,
    ((((hr.put 2 _).put 3 _).put 4 _).put 5 _).put 6 _, ((((hv.past hne _).past hne _).past hne _).past hne _).past hne _⟩
/-- A message that is being made, at b5. -/
structure Mid (wr wx : World) (b5 : Nat) (kind : Int) (k : Nat) (m : Mg) : Prop where
  be : Below wr.heap.size wr wx
  row : Row wx b5 85 m.cells.toArray
  ge : wr.heap.size ≤ b5
  ok : MgOk wx m
  kd : m.kind = kind % 4 + 1
  tk : m.ticket = (k : Int) + 1
theorem mid_start (wr : World) (kind : Int) (k : Nat) : Mid wr (wr.alloc (.cells (mg0 kind k).cells.toArray 85)) wr.heap.size kind k (mg0 kind k) :=
  ⟨(Below.refl _ _).alloc (Nat.le_refl _) _, Row.made _ _ _, Nat.le_refl _, ⟨rfl, by show (0 : Int) ≤ 0 ∧ (0 : Int) ≤ 7; omega, rfl, ⟨rfl, rfl, rfl, rfl, rfl⟩, by show (0 : Nat) ≤ 6; omega, by show 1 ≤ kind % 4 + 1 ∧ kind % 4 + 1 ≤ 4; omega, .inl ⟨rfl, rfl, rfl⟩⟩, rfl, rfl⟩
theorem near_more {w wr wc w3 : World} {v v2 : Value} {ob ob2 : Option Nat} {f : Nat → MI} {ms : List Mg} {m : Mg} {kind : Int} {k b5 : Nat} (hN : Near w wr v ob f ms) (hm : Mid wr wc b5 kind k m) (hk : ms.length = k) (hkd : (f k).kind = kind) (o : Obj)
    (hs2 : Seg w3 85 12 v2 (k + 1) (mcells ms ++ m.cells) ob2) (ht2 : Turns (wc.alloc o) w3 (fun j => ob = some j)) (ho2 : ob2 = ob ∨ ∃ g, ob2 = some g ∧ (wc.alloc o).heap.size ≤ g) : Near w w3 v2 ob2 f (ms ++ [m]) := by
  have hsa : Seg (wc.alloc o) 85 12 v ms.length (mcells ms) ob := (hN.seg.turns (Turns.of_below hm.be) (fun _ _ h => h)).alloc o
  have hS : ∀ b, ob = some b → ∃ t c, t ≠ 94 ∧ Row (wc.alloc o) b t c := fun b hb => by
    subst hb
    obtain ⟨c, hr⟩ := seg_row hsa
    exact ⟨_, c, by decide, hr⟩
  have h1 := hN.be.size
  have h2 := hm.be.size
  have hba : Below wr.heap.size wr (wc.alloc o) := hm.be.alloc h2 o
  refine ⟨?_, ?_, ?_, ?_⟩
  · exact ht2.below (hN.be.trans (hba.mono h1)) (by have := hba.size; omega) (fun j hj hjo => by have := hN.ge j hjo; omega)
  · have : mcells (ms ++ [m]) = mcells ms ++ m.cells := by simp [mcells]
    rw [this, List.length_append, hk]
    exact hs2
  · intro j hj
    rcases ho2 with rfl | ⟨g, rfl, hg⟩
    · exact hN.ge j hj
    · cases hj
      have := hba.size
      omega
  · intro i m' hi
    rw [List.getElem?_append] at hi
    split at hi
    · obtain ⟨a, b, c⟩ := hN.ok i m' hi
      exact ⟨(a.call hba).turns ht2 hS, b, c⟩
    · rename_i hge
      have hik : i = ms.length := by
        have := (List.getElem?_eq_some_iff.1 hi).1
        simp at this
        omega
      subst hik
      simp at hi
      subst hi
      refine ⟨(hm.ok.call ((Below.refl _ _).alloc (Nat.le_refl _) o)).turns ht2 hS, ?_, ?_⟩
      · rw [hm.kd, hk, hkd]
      · rw [hm.tk, hk]
theorem msg_info : (Try.prog.info? 85).map (fun i => (i.zero, i.size, i.bytes)) = some (some (.agg #[.int .i64 0, .int .i64 0, .string { data := #[] }, .string { data := #[] }, .int .i64 0, .int .i64 0, .slice none 0 0, .int .i64 0, .string { data := #[] }, .slice none 0 0, .int .i64 0, .int .i64 0]), 12, 152) := by kernel_rfl
theorem news_of (w : World) (xs : List Value) (t : TypeId) : ∀ j u, xs[j]? = some u → (w.alloc (.cells xs.toArray t)).cell? ((⟨w.heap.size, 0, none⟩ : Addr).add j) = some u := fun j u h => by
  rw [Addr.add_lit, Nat.zero_add, (Row.made w t xs.toArray).cell]
  simpa using h
def NearEnd (w : World) (n : Nat) (f : Nat → MI) (e : Ending) (w' : World) : Prop := ∃ v ob ms, e = .returned v ∧ Near w w' v ob f ms ∧ ms.length = min n 20
set_option maxHeartbeats 4000000 in
theorem near_any (A : Option Addr) (n c : Nat) (f : Nat → MI) (w : World) (hn : n ≤ c) (hc : c ≤ 9223372036854775807) (h : MLies w w.heap.size A n f) :
    Calls Try.prog 48 #[.slice A n c] w (NearEnd w n f) := by
  have H := Lib.hid h
  clear h
  go_enter Try.func48, Try.ntmps48
  go_wp2
  go_loopw [3, 4] (fun v i wr => ∃ (k : Nat) (ob : Option Nat) (ms : List Mg), k ≤ n ∧ k ≤ 20 ∧ i = .int .i64 k ∧ Hid (Near w wr v ob f ms ∧ ms.length = k)) (fun _ i _ => n - (intOf i).toNat)
  case atStart => exact ⟨0, none, [], by omega, by omega, rfl, Lib.hid ⟨⟨by go_grown, seg_empty _ _ _ _, (fun _ h => by cases h), fun i m h => by simp at h⟩, rfl⟩⟩
  case round =>
    obtain ⟨k, ob, ms, hkn, hk20, rfl, hN⟩ := hrel
    by_cases hlt : k < n ∧ k < 20
    · obtain ⟨h1, h2⟩ := hlt
      have e20 : decide ((k : Int) < 20) = true := by simp; omega
      obtain ⟨g, o, rfl, hg, m0, m2, m3, m4, m5, m6, m7, heo, ⟨kb1, kb2⟩, ⟨tb1, tb2⟩⟩ := H.out k h1
      have hbe := hN.out.1.be
      have c0 := (hbe.cell (p := ⟨g, o + k * 12, none⟩) hg).trans m0
      have c2 := (hbe.cell (p := ⟨g, o + k * 12 + 2, none⟩) hg).trans m2
      have c3 := (hbe.cell (p := ⟨g, o + k * 12 + 3, none⟩) hg).trans m3
      have c4 := (hbe.cell (p := ⟨g, o + k * 12 + 4, none⟩) hg).trans m4
      have c5 := (hbe.cell (p := ⟨g, o + k * 12 + 5, none⟩) hg).trans m5
      have c6 := (hbe.cell (p := ⟨g, o + k * 12 + 6, none⟩) hg).trans m6
      have c7 := (hbe.cell (p := ⟨g, o + k * 12 + 7, none⟩) hg).trans m7
      have hgr : g < wr.heap.size := Nat.lt_of_lt_of_le hg hbe.size
      have HE := Lib.hid ((heo.below hbe).mono hbe.size)
      have a3 := and3 (f k).kind
      have a7 := and7 (f k).T
      clear m0 m2 m3 m4 m5 m6 m7 heo hbe
      obtain ⟨x, hx⟩ : ∃ x, f k = x := ⟨_, rfl⟩
      rw [hx] at c0 c2 c3 c4 c5 c6 c7 HE a3 a7 kb1 kb2 tb1 tb2
      have HX := Lib.hid hx
      clear hx
      go_upto_if 29 with fail
      have HM := Lib.hid (mid_start wr x.kind k)
      generalize hW : wr.alloc (.cells #[.int .i64 (x.kind % 4 + 1), .int .i64 ((k : Int) + 1), .string { data := #[] }, .string { data := #[] }, .int .i64 0, .int .i64 0, .slice none 0 0, .int .i64 0, .string { data := #[] }, .slice none 0 0, .int .i64 0, .int .i64 0] 85) = W
      have hm : Mid wr W wr.heap.size x.kind k (mg0 x.kind k) := by rw [← hW]; exact HM.out
      clear HM hW
      have HM := Lib.hid hm
      have d2 := (hm.be.cell (p := ⟨g, o + k * 12 + 2, none⟩) hgr).trans c2
      have d3 := (hm.be.cell (p := ⟨g, o + k * 12 + 3, none⟩) hgr).trans c3
      have d4 := (hm.be.cell (p := ⟨g, o + k * 12 + 4, none⟩) hgr).trans c4
      have d5 := (hm.be.cell (p := ⟨g, o + k * 12 + 5, none⟩) hgr).trans c5
      have d6 := (hm.be.cell (p := ⟨g, o + k * 12 + 6, none⟩) hgr).trans c6
      have d7 := (hm.be.cell (p := ⟨g, o + k * 12 + 7, none⟩) hgr).trans c7
      have hzW : wr.heap.size ≤ W.heap.size := hm.be.size
      clear c0 c2 c4 c5 c6 c7 hm
      go_cut [] (fun wx => Hid (∃ m, Mid wr wx wr.heap.size x.kind k m))
      case first =>
        by_cases hk1 : x.kind % 4 = 0
        · have e1 : (x.kind % 4 + 1 == 1) = true := by simp; omega
          clear hk1
          go_wp2_with fail
          refine (event_ex x.e _ ((HE.out.below HM.out.be).mono hzW)).mono ?_
          rintro e w2 ⟨ty', key', t', vb, vs, vn', rfl, hvn, hvl, hrow, hb2⟩
          have R2 := Lib.hid (HM.out.row.below hb2 HM.out.row.lt)
          have HB2 := Lib.hid (HM.out.be.trans (hb2.mono hzW))
          have HEV := Lib.hid hrow
          have HVN := Lib.hid hvn
          have f3 := (hb2.cell (p := ⟨g, o + k * 12 + 3, none⟩) (show g < _ by omega)).trans d3
          have hw2 : wr.heap.size < w2.heap.size := R2.out.lt
          have s2 := R2.out.is 2 (v := .string { data := #[] }) rfl
          have s3 := R2.out.is 3 (v := .string { data := #[] }) rfl
          have s4 := R2.out.is 4 (v := .int .i64 0) rfl
          have s5 := R2.out.is 5 (v := .int .i64 0) rfl
          have s6 := R2.out.is 6 (v := .slice none 0 0) rfl
          have z2 := R2.out.free 2
          have z3 := R2.out.free 3
          have z4 := R2.out.free 4
          have z5 := R2.out.free 5
          have z6 := R2.out.free 6
          clear hb2 hrow hvn d2 d3 d4 d5 d6 d7 hzW
          go_upto_region 8 with fail
          have HP := Lib.hid (mid_ev HB2.out R2.out HEV.out ty' key' t' 0 vn')
          have f4 : (((((w2.setCell ⟨wr.heap.size, 2, none⟩ (.string ty')).setCell ⟨wr.heap.size, 3, none⟩ (.string key')).setCell ⟨wr.heap.size, 4, none⟩ (.int .i64 t')).setCell ⟨wr.heap.size, 5, none⟩ (.int .i64 0)).setCell ⟨wr.heap.size, 6, none⟩ (.slice (some ⟨vb, 0, none⟩) vn' vn')).cell? ⟨g, o + k * 12 + 3, none⟩ = some (.string x.e.key) := by
            iterate 5 (rw [World.cell?_setCell_other _ _ _ _ (by first | (simp; done) | (simp; omega))])
            exact f3
          generalize ((((w2.setCell ⟨wr.heap.size, 2, none⟩ (.string ty')).setCell ⟨wr.heap.size, 3, none⟩ (.string key')).setCell ⟨wr.heap.size, 4, none⟩ (.int .i64 t')).setCell ⟨wr.heap.size, 5, none⟩ (.int .i64 0)).setCell ⟨wr.heap.size, 6, none⟩ (.slice (some ⟨vb, 0, none⟩) vn' vn') = W3 at HP f4 ⊢
          clear s2 s3 s4 s5 s6 z2 z3 z4 z5 z6 f3
          have q3 := HP.out.2.1.is 3 (v := .string key') rfl
          have z3 := HP.out.2.1.free 3
          obtain ⟨⟨_, _⟩, ⟨_, ks⟩, _⟩ := HE.out
          obtain ⟨kx, hkx⟩ : ∃ y, x.e.key = y := ⟨_, rfl⟩
          rw [hkx] at f4 ks
          obtain ⟨km, hkm⟩ : ∃ m : Nat, (kx.size ≤ 5 ∧ m = kx.size) ∨ (5 < kx.size ∧ m = 5) := by
            rcases Nat.lt_or_ge 5 kx.size with h | h
            · exact ⟨5, .inr ⟨h, rfl⟩⟩
            · exact ⟨kx.size, .inl ⟨h, rfl⟩⟩
          have hmin : (if (5 : Int) < (kx.size : Int) then (5 : Int) else (kx.size : Int)) = (km : Int) := by split <;> omega
          have hmin' : (if 5 < kx.size then (5 : Int) else (kx.size : Int)) = (km : Int) := by split <;> omega
          have hkl : km ≤ kx.size := by omega
          have hk5 : km ≤ 5 := by omega
          clear hkm hkx
          go_region
          all_goals
            go_wp2_with fail
            go_meet
            obtain rfl := HVN.out
            have hks : (kx.extract 0 km ++ ({ data := #[107] } : ByteArray)).size ≤ 6 := by
              rw [ByteArray.size_append, ByteArray.size_extract]
              have : ({ data := #[107] } : ByteArray).size = 1 := rfl
              omega
            have hne : vb ≠ wr.heap.size := row_ne HP.out.2.2 HP.out.2.1 (by decide)
            generalize kx.extract 0 km ++ ({ data := #[107] } : ByteArray) = ky at hks ⊢
            exact Lib.hid ⟨⟨x.kind % 4 + 1, (k : Int) + 1, ty', ky, t', 0, some ⟨vb, 0, none⟩, vs.length, vs, 0, { data := #[] }, none, 0, 0, 0, 0⟩, below_drewN (HP.out.1.setCell (p := ⟨wr.heap.size, 3, none⟩) (Nat.le_refl _) _) 1, Row.drew (HP.out.2.1.put 3 (.string ky)), Nat.le_refl _, ⟨rfl, by dsimp only; omega, rfl, ⟨rfl, rfl, rfl, rfl, rfl⟩, hks, by dsimp only; omega, .inr ⟨vb, rfl, rfl, hvl, Row.drew (HP.out.2.2.past hne _)⟩⟩, rfl, rfl⟩
        · have e1 : (x.kind % 4 + 1 == 1) = false := by simp; omega
          clear hk1
          have s7 := HM.out.row.is 7 (v := .int .i64 0) rfl
          have z7 := HM.out.row.free 7
          go_wp2
          go_meet
          have hmm := HM.out
          exact Lib.hid ⟨{ mg0 x.kind k with T := x.T % 8 }, hmm.be.setCell (p := ⟨wr.heap.size, 7, none⟩) (Nat.le_refl _) _, hmm.row.put 7 _, Nat.le_refl _, ⟨rfl, by dsimp only; omega, rfl, ⟨rfl, rfl, rfl, rfl, rfl⟩, hmm.ok.sz, hmm.ok.kb, .inl ⟨rfl, rfl, rfl⟩⟩, rfl, rfl⟩
      case rest =>
        obtain ⟨m, hm⟩ := hcut.out
        have HM4 := Lib.hid hm
        obtain ⟨mk, mt, mty, mkey, mt', mq, mA, mc, mvs, mT, mid, meA, men, mec, mw, mcap⟩ := m
        have s0 := hm.row.is 0 (v := .int .i64 mk) rfl
        have s1 := hm.row.is 1 (v := .int .i64 mt) rfl
        have s2 := hm.row.is 2 (v := .string mty) rfl
        have s3 := hm.row.is 3 (v := .string mkey) rfl
        have s4 := hm.row.is 4 (v := .int .i64 mt') rfl
        have s5 := hm.row.is 5 (v := .int .i64 mq) rfl
        have s6 := hm.row.is 6 (v := .slice mA mvs.length mc) rfl
        have s7 := hm.row.is 7 (v := .int .i64 mT) rfl
        have s8 := hm.row.is 8 (v := .string mid) rfl
        have s9 := hm.row.is 9 (v := .slice meA men mec) rfl
        have s10 := hm.row.is 10 (v := .int .i64 mw) rfl
        have s11 := hm.row.is 11 (v := .int .i64 mcap) rfl
        have HN := Lib.hid hN.out
        have HS := Lib.hid (hN.out.1.seg.turns (Turns.of_below hm.be) (fun _ _ h => h))
        have hml := hN.out.2
        have HML := Lib.hid hml
        rw [hml] at HS
        clear hm hN hcut HM d2 d3 d4 d5 d6 d7 hzW hml W
        obtain ⟨i0, hi0, hz0, hz1, hz2⟩ := info_parts msg_info
        go_wp2_with (at_builtin; go_loud (refine wpList_append_seg _ rfl _ _ 86 rfl 85 i0 _ 12 152 Try.underlying86 hi0 hz0 hz1 hz2 rfl (by decide) _ k _ _ rfl (HS.out.alloc _) ⟨wc.heap.size, 0, none⟩ 1 1 [.int .i64 mk, .int .i64 mt, .string mty, .string mkey, .int .i64 mt', .int .i64 mq, .slice mA mvs.length mc, .int .i64 mT, .string mid, .slice meA men mec, .int .i64 mw, .int .i64 mcap] rfl rfl (news_of _ _ _) (by simp [Value.oneCell']) (by decide) (by unfold maxLen; omega) (by omega) ?_; intro v2 w3 ob2 hs2 ht2 ho2))
        have HF := Lib.hid (near_more HN.out.1 HM4.out HML.out (by rw [HX.out]) _ hs2 ht2 ho2)
        go_roundw
        case rel => exact ⟨k + 1, ob2, ms ++ [_], by omega, by omega, by go_num, Lib.hid ⟨HF.out, by simp [HML.out]⟩⟩
        case measure => simp [intOf]; omega
    · have HN := Lib.hid hN.out
      have hmn : k = min n 20 := by omega
      have HMN := Lib.hid hmn
      clear hN hmn
      by_cases h1 : k < n
      · have e20 : decide ((k : Int) < 20) = false := by simp; omega
        clear hlt
        go_wp2
        go_ret
        exact ⟨_, ob, ms, rfl, HN.out.1, HN.out.2.trans HMN.out⟩
      · have e20 : ¬ (k : Int) < (n : Int) := by omega
        clear hlt h1
        go_wp2
        go_ret
        exact ⟨_, ob, ms, rfl, HN.out.1, HN.out.2.trans HMN.out⟩
end Go.Proofs.Ytpgacadnmekdhaa.Ms
