/- both VotesFors. -/
import Derived.Test.YtecgjdgfjgcmdaaQS3
import Derived.Test.YtecgjdgfjgcmdaaQS5
namespace Go.Proofs.Ytecgjdgfjgcmdaa
open Go.RowKit Go.Maps
theorem Led.jret_at {w w2 : World} (c : Int) {v : Value} {g : Nat} {rs : List Int} (rb : Nat) (hr : w.heap.size ≤ rb) (hE : Ext w w2) (hO : Led.IOwn w2 v g rs) (hg : rb < g) :
    Led.JRet w c rs (.returned (Led.jr c v)) ((w2.setCell ⟨rb, 0, none⟩ (.int .i64 c)).setCell ⟨rb, 1, none⟩ v) :=
  ⟨v, g, rfl, by omega, hO.upd' (((Upd.refl rb w2).setAt _ _).setAt _ _) (fun _ => by omega), (hE.setCell (p := ⟨rb, 0, none⟩) hr _).setCell (p := ⟨rb, 1, none⟩) hr _⟩
theorem Led.jret_no {w w2 : World} (c : Int) (rb : Nat) (hr : w.heap.size ≤ rb) (hE : Ext w w2) :
    Led.JRet w c [] (.returned (Led.jr c (.slice none 0 0))) ((w2.setCell ⟨rb, 0, none⟩ (.int .i64 c)).setCell ⟨rb, 1, none⟩ (.slice none 0 0)) :=
  Led.jret_at (g := rb + 1) c rb hr hE ⟨none, 0, rfl, Nat.le_refl _, by unfold maxLen; omega, fun h => by simp at h⟩ (by omega)
theorem Msg.fOk_in' {f : Int} (h : Msg.fOk f = true) : 1 ≤ f ∧ f ≤ 2 := by unfold Msg.fOk at h; simpa using h

end Go.Proofs.Ytecgjdgfjgcmdaa
