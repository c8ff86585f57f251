/- the specification's text of a message: what its walk wants. -/
import Derived.Test.YtpncnfodgfldlaaDoorLxTX3
namespace Go.Proofs.YtpncnfodgfldlaaDoor
open Go.RowKit
theorem join_snoc (ws : List (List UInt8)) (x : List UInt8) (h : 0 < ws.length) : Lib.join (ws ++ [x]) [32] = Lib.join ws [32] ++ [32] ++ x := by
  cases ws with
  | nil => simp at h
  | cons a r =>
    rw [List.cons_append, Lib.join_cons, Lib.join_cons]
    simp [Lib.joinTail, List.append_assoc]
theorem row6 {cur : World} {wx : World} (he : Ext (cur.alloc (.cells #[.string ⟨#[]⟩, .string ⟨#[112, 114, 111, 112, 111, 115, 101]⟩, .string ⟨#[112, 114, 101, 112, 97, 114, 101]⟩, .string ⟨#[99, 111, 109, 109, 105, 116]⟩, .string ⟨#[99, 104, 97, 110, 103, 101]⟩, .string ⟨#[110, 101, 119]⟩] 9)) wx) : wx.cell? ⟨cur.heap.size, 1, none⟩ = some (.string ⟨#[112, 114, 111, 112, 111, 115, 101]⟩) ∧ wx.cell? ⟨cur.heap.size, 2, none⟩ = some (.string ⟨#[112, 114, 101, 112, 97, 114, 101]⟩) ∧ wx.cell? ⟨cur.heap.size, 3, none⟩ = some (.string ⟨#[99, 111, 109, 109, 105, 116]⟩) ∧ wx.cell? ⟨cur.heap.size, 4, none⟩ = some (.string ⟨#[99, 104, 97, 110, 103, 101]⟩) ∧ wx.cell? ⟨cur.heap.size, 5, none⟩ = some (.string ⟨#[110, 101, 119]⟩) := by
  have hc := fun k => (Ext.cell he).1 cur.heap.size k (by simp)
  exact ⟨(hc 1).trans (by simp), (hc 2).trans (by simp), (hc 3).trans (by simp), (hc 4).trans (by simp), (hc 5).trans (by simp)⟩
theorem Msg.head_join (m : Ms) : Lib.join (Msg.headW m) [32] = Msg.kindW m.kind ++ [32] ++ Lib.itoa m.view ++ [32] ++ Lib.itoa m.from_ := by
  unfold Msg.headW; rw [Lib.join_cons]; simp [Lib.joinTail]
end Go.Proofs.YtpncnfodgfldlaaDoor
