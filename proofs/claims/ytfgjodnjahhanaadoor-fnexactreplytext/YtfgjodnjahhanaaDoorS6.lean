/- the specification's digits: l1Digits at a digit, l1Seq: what they answer. -/
import Derived.Test.YtfgjodnjahhanaaDoorS1
import Derived.Test.YtfgjodnjahhanaaDoorConv
namespace Go.Proofs.YtfgjodnjahhanaaDoor
open Go.RowKit

def dig (d : Int) : ByteArray := mkB [UInt8.ofNat (48 + d.toNat)]

set_option maxHeartbeats 1000000 in
set_option maxRecDepth 100000 in
theorem l1Digits_digit (d : Int) (w : World) (h0 : 0 ≤ d) (h9 : d ≤ 9) :
    Calls Tryd.prog 31 #[.int .i64 d] w fun e w' => e = .returned (.string (dig d)) ∧ Ext w w' := by
  have hcv := conv_one
  have hd : d = 0 ∨ d = 1 ∨ d = 2 ∨ d = 3 ∨ d = 4 ∨ d = 5 ∨ d = 6 ∨ d = 7 ∨ d = 8 ∨ d = 9 := by omega
  clear h0 h9
  rcases hd with rfl | rfl | rfl | rfl | rfl | rfl | rfl | rfl | rfl | rfl
  all_goals
    go_enter Tryd.func31, Tryd.ntmps31
    go_wp2
    go_ret
    exact ⟨rfl, (Ext.refl _).alloc _⟩

theorem dig_size (d : Int) : (dig d).size = 1 := by
  show (mkB _).size = 1
  rw [← len_eq, mkB_list]; rfl

theorem seq_list (s : ByteArray) (n : Int) (h0 : 0 ≤ n) : (s ++ dig (n / 10) ++ dig (n % 10)).data.toList = Pth.seqd s.data.toList n.toNat := by
  have e1 : (n / 10).toNat = n.toNat / 10 := by omega
  have e2 : (n % 10).toNat = n.toNat % 10 := by omega
  unfold Pth.seqd dig
  rw [e1, e2]
  simp [ByteArray.data_append, mkB]

end Go.Proofs.YtfgjodnjahhanaaDoor
