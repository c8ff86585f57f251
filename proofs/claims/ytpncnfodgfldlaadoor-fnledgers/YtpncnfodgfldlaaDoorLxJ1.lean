/- texts: sums of them, words joined. -/
import Derived.Test.YtpncnfodgfldlaaDoorLxP0
import Derived.Laws.AppendOwnNone
import Derived.Lib.ItoaLen
import Derived.Deep.RegionHeld3
namespace Go.Proofs.YtpncnfodgfldlaaDoor
open Go.RowKit
theorem mkB_size (l : List UInt8) : (mkB l).size = l.length := by rw [← len_eq, mkB_list]
theorem cat_data (a b : ByteArray) : (a ++ b).data.toList = a.data.toList ++ b.data.toList := by simp [ByteArray.data_append]
theorem itoa_len (n : Int) (h0 : -1 ≤ n) (h1 : n ≤ 99999) : (Lib.itoa n).length ≤ 21 := Lib.itoa_length_le n (by omega) (by omega)
theorem add_run (a b : ByteArray) (n m : Nat) (ha : a.size ≤ n) (hb : b.size ≤ m) (h : n + m ≤ 100000) : ∃ c : ByteArray, c.data.toList = a.data.toList ++ b.data.toList ∧ c.size ≤ n + m ∧ ∀ W : World, (Op.stringOp .add a b).run Tryd.prog W = .ok (.string c) W :=
  ⟨a ++ b, cat_data a b, by rw [ByteArray.size_append]; omega, fun W => run_string_add W a b (by omega) (by omega)⟩
/-- A text's result in a box of its own, that may be written. -/
def TBoxAt (w : World) (b : Nat) (c : Int) (s : ByteArray) : Prop := b < w.heap.size ∧ w.cell? ⟨b, 0, none⟩ = some (.int .i64 c) ∧ w.cell? ⟨b, 1, none⟩ = some (.string s) ∧ w.frozen? ⟨b, 0, none⟩ = false ∧ w.frozen? ⟨b, 1, none⟩ = false
theorem TBoxAt.ext {w w' : World} {b : Nat} {c : Int} {s : ByteArray} (h : TBoxAt w b c s) (he : Ext w w') : TBoxAt w' b c s := by
  obtain ⟨hb, c0, c1, f0, f1⟩ := h
  obtain ⟨hc, hf⟩ := Ext.cell he
  exact ⟨Nat.lt_of_lt_of_le hb he.size, (hc _ _ hb).trans c0, (hc _ _ hb).trans c1, (hf _ _ hb).trans f0, (hf _ _ hb).trans f1⟩
theorem tbox_new (w : World) (c : Int) (s : ByteArray) (t : TypeId) : TBoxAt (w.alloc (.cells #[.int .i64 c, .string s] t)) w.heap.size c s := ⟨by simp, by simp, by simp, by simp, by simp⟩
end Go.Proofs.YtpncnfodgfldlaaDoor
