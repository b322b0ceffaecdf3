/- One event more, in the law's run. -/
import Derived.Test.YtaimbkikiokenaaRaF
namespace Go.Proofs.Ytaimbkikiokenaa.Rn
open Go.RowKit Go.Proofs.Ytaimbkikiokenaa Go.Proofs.Ytaimbkikiokenaa.Ev Go.Proofs.Ytaimbkikiokenaa.Pa Go.Proofs.Ytaimbkikiokenaa.Pq
set_option linter.unusedVariables false
theorem LP.withs {w w5 w6 : World} {qb g o N c k : Nat} {win cap : Int} {E : Nat → ElV} {v : Value} {xs : List EM} {rb : Nat} {vm : Value} {ms : List Pr} {mo : Option Nat} {S : RS} {x : EM} {st0 mx f1 : Int} {pp pe pp' pe' : Option Addr} {ys : List (List Value)} {var : ByteArray}
    (h : LP w w5 qb g o N c win cap E v xs rb vm ms mo S) (hW : Wth w5.drew w6 pp' pe' (S.ps.map Pr.cells) ys k x.q mx var x.ty x.key x.t x.vs) (hF : WthF w5.drew w6 pp pe pp' pe' mx)
    (hch : ChQ 2 w5 w5.heap.size (fun b => mo ≠ some b ∧ b ≠ rb) pp (S.ps.map Pr.cells)) (hcy : ChQ 6 w5 w5.heap.size (fun b => mo ≠ some b ∧ b ≠ rb) pe ys) (h7 : ys.length ≤ S.ps.length)
    (hrw : Row w5 rb 52 #[.int .i64 st0, .pointer pp, .pointer pe, .int .i64 S.f, .int .i64 S.lt, .int .i64 S.lq, .int .i64 0, .bool false]) (hf1 : (if (S.ps.map Pr.cells).length = 0 then x.t else S.f) = f1) :
    LP w (((((((((w6.setCell ⟨rb, 0, none⟩ (.int .i64 9)).setCell ⟨rb, 1, none⟩ (.pointer pp')).setCell ⟨rb, 2, none⟩ (.pointer pe')).setCell ⟨rb, 3, none⟩ (.int .i64 f1)).setCell ⟨rb, 4, none⟩ (.int .i64 x.t)).setCell ⟨rb, 5, none⟩ (.int .i64 x.q)).setCell ⟨rb, 6, none⟩ (.int .i64 0)).setCell ⟨rb, 7, none⟩ (.bool false))) qb g o N c win cap E v xs rb vm ms mo (S.step k x) := by
  have hr6 : Row w6 rb 52 _ := hrw.drew.below hW.be hrw.drew.lt
  have h6 := (h.call (Below.refl _ _).drew).call hW.be
  have T := turns8' w6 rb (.int .i64 9) (.pointer pp') (.pointer pe') (.int .i64 f1) (.int .i64 x.t) (.int .i64 x.q) (.int .i64 0) (.bool false)
  have hp := put8' hr6 (.int .i64 9) (.pointer pp') (.pointer pe') (.int .i64 f1) (.int .i64 x.t) (.int .i64 x.q) (.int .i64 0) (.bool false)
  rw [← hf1] at T hp ⊢
  generalize ((((((((w6.setCell ⟨rb, 0, none⟩ (.int .i64 9)).setCell ⟨rb, 1, none⟩ (.pointer pp')).setCell ⟨rb, 2, none⟩ (.pointer pe')).setCell ⟨rb, 3, none⟩ (.int .i64 (if (S.ps.map Pr.cells).length = 0 then x.t else S.f))).setCell ⟨rb, 4, none⟩ (.int .i64 x.t)).setCell ⟨rb, 5, none⟩ (.int .i64 x.q)).setCell ⟨rb, 6, none⟩ (.int .i64 0)).setCell ⟨rb, 7, none⟩ (.bool false)) = W7 at T hp ⊢
  have hn : RSq W7 rb mo (S.step k x) := RSq.next (W := w5.drew) (st := 0) hW hF (fun b e => h.sg.lt b e) hrw.lt (hch.below (Below.refl _ _).drew (Nat.le_refl _)) (hcy.below (Below.refl _ _).drew (Nat.le_refl _)) h7 T hp
  exact h6.step hr6 T hn
end Go.Proofs.Ytaimbkikiokenaa.Rn
