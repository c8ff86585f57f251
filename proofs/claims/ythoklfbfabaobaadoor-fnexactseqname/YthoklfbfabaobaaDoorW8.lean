/- impl.SeqName and the specification's: what they answer. -/
import Derived.Test.YthoklfbfabaobaaDoorW7
namespace Go.Proofs.YthoklfbfabaobaaDoor
open Go.RowKit

def dig (d : Int) : ByteArray := mkB [UInt8.ofNat (48 + d.toNat)]

set_option maxHeartbeats 1000000 in
theorem formatInt_digit (d : Int) (w : World) (h0 : 0 ≤ d) (h9 : d ≤ 9) :
    Calls Tryd.prog 49 #[.int .i64 d, .int .i64 10] w fun e w' => e = .returned (.string (dig d)) ∧ w' = w := by
  have hd : d = 0 ∨ d = 1 ∨ d = 2 ∨ d = 3 ∨ d = 4 ∨ d = 5 ∨ d = 6 ∨ d = 7 ∨ d = 8 ∨ d = 9 := by omega
  clear h0 h9
  rcases hd with rfl | rfl | rfl | rfl | rfl | rfl | rfl | rfl | rfl | rfl
  all_goals
    go_enter Tryd.func49, Tryd.ntmps49
    go_wp2
    go_ret
    exact ⟨rfl, rfl⟩

theorem conv_one (w : World) (n : Int) :
    (convert 22 9 (.slice (some ⟨w.heap.size, 0, none⟩) 1 1)).run Tryd.prog (w.alloc (.cells #[.int .u8 n] 5)) = .ok (.string (mkB [UInt8.ofNat n.toNat])) (w.alloc (.cells #[.int .u8 n] 5)) := by
  rw [run_convert_bytes_string _ _ _ 5 _ _ _ Tryd.underlying22 Tryd.underlying5 Tryd.underlying9]
  rw [run_bytesToString _ _ 1 1 [n] (by simp [loadCells, loadCellsFrom, Addr.add])]
  rfl

set_option maxHeartbeats 1000000 in
set_option maxRecDepth 100000 in
theorem l1Digits_digit (d : Int) (w : World) (h0 : 0 ≤ d) (h9 : d ≤ 9) :
    Calls Tryd.prog 57 #[.int .i64 d] w fun e w' => e = .returned (.string (dig d)) ∧ Ext w w' := by
  have hcv := conv_one
  have hd : d = 0 ∨ d = 1 ∨ d = 2 ∨ d = 3 ∨ d = 4 ∨ d = 5 ∨ d = 6 ∨ d = 7 ∨ d = 8 ∨ d = 9 := by omega
  clear h0 h9
  rcases hd with rfl | rfl | rfl | rfl | rfl | rfl | rfl | rfl | rfl | rfl
  all_goals
    go_enter Tryd.func57, Tryd.ntmps57
    go_wp2
    go_ret
    exact ⟨rfl, (Ext.refl _).alloc _⟩

theorem dig_size (d : Int) : (dig d).size = 1 := by
  show (mkB _).size = 1
  rw [← len_eq, mkB_list]; rfl

theorem seq_list (s : ByteArray) (n : Int) (h0 : 0 ≤ n) : (s ++ dig (n / 10) ++ dig (n % 10)).data.toList = Pth.seqd s.data.toList n.toNat := by
  have e1 : (n / 10).toNat = n.toNat / 10 := by omega
  have e2 : (n % 10).toNat = n.toNat % 10 := by omega
  unfold Pth.seqd dig
  rw [e1, e2]
  simp [ByteArray.data_append, mkB]

set_option maxHeartbeats 1000000 in
theorem l1Seq_any (s : ByteArray) (n : Int) (w : World) (hs : s.size ≤ 1048576) (h0 : 0 ≤ n) (h9 : n ≤ 99) :
    Calls Tryd.prog 48 #[.string s, .int .i64 n] w fun e w' => e = .returned (.string (s ++ dig (n / 10) ++ dig (n % 10))) ∧ Ext w w' := by
  have z1 := dig_size (n / 10)
  have z2 := dig_size (n % 10)
  go_enter Tryd.func48, Tryd.ntmps48
  go_wp2_with fail
  refine (l1Digits_digit (n / 10) _ (by omega) (by omega)).mono ?_
  rintro e w1 ⟨rfl, hb⟩
  have HB : Hid (Ext w w1) := hb
  clear hb
  go_wp2_with fail
  refine (l1Digits_digit (n % 10) _ (by omega) (by omega)).mono ?_
  rintro e w2 ⟨rfl, hb⟩
  go_wp2
  go_ret
  exact ⟨rfl, HB.out.trans hb⟩
end Go.Proofs.YthoklfbfabaobaaDoor
