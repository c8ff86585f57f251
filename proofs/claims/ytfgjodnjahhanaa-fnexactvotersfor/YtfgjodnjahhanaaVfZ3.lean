/- the laws' marks: markText, markZnodeS, heldZnodeS: what they write and read back. -/
import Derived.Test.YtfgjodnjahhanaaVfZ1
import Derived.Test.YtfgjodnjahhanaaVfConv
namespace Go.Proofs.Ytfgjodnjahhanaa
open Go.RowKit
def dgsF : Nat → Nat → List UInt8 → List UInt8
  | 0, _, acc => acc
  | f + 1, n, acc => if n = 0 then acc else dgsF f (n / 10) ((48 + UInt8.ofNat (n % 10)) :: acc)
/-- The text of a mark. -/
def mtext (k : Nat) : ByteArray := if k = 0 then ⟨#[109, 48]⟩ else (⟨#[109]⟩ : ByteArray) ++ mkB (dgsF k k [])

theorem dgsF_zero (f : Nat) (acc : List UInt8) : dgsF f 0 acc = acc := by cases f <;> simp [dgsF]
theorem cat_mkB (x : UInt8) (s : ByteArray) : mkB [x] ++ s = mkB (x :: s.data.toList) := by
  apply ba_eq; simp [mkB, ByteArray.data_append]

set_option maxHeartbeats 1000000 in
set_option maxRecDepth 100000 in
theorem markText_any (k : Nat) (w : World) (hk : k ≤ 16777216) :
    Calls Try.prog 33 #[.int .i64 k] w fun e w' => e = .returned (.string (mtext k)) ∧ Ext w w' := by
  have hcv := conv_one
  by_cases h0 : k = 0
  · subst h0
    go_enter Try.func33, Try.ntmps33
    go_wp2
    go_ret
    exact ⟨rfl, Ext.refl _⟩
  · have HT : Hid (mtext k = (⟨#[109]⟩ : ByteArray) ++ mkB (dgsF k k [])) := by show _ = _; unfold mtext; rw [if_neg h0]
    go_enter Try.func33, Try.ntmps33
    go_wp2
    go_loopw [0, 3] (fun kv ov wr => ∃ (n f : Nat) (s : ByteArray), kv = .int .i64 n ∧ ov = .string s ∧ n ≤ f ∧ n ≤ k ∧ s.size + n ≤ k ∧ Hid (dgsF f n s.data.toList = dgsF k k []) ∧ Hid (Ext w wr)) (fun kv _ _ => (intOf kv).toNat)
    case atStart => exact ⟨k, k, ⟨#[]⟩, rfl, rfl, Nat.le_refl _, Nat.le_refl _, by show 0 + k ≤ k; omega, rfl, Ext.refl _⟩
    case round =>
      obtain ⟨n, f, s, rfl, rfl, hnf, hnk, hsn, HD, HE⟩ := hrel
      by_cases hn : 0 < n
      · obtain ⟨f', rfl⟩ : ∃ f', f = f' + 1 := ⟨f - 1, by omega⟩
        have HD2 : Hid (dgsF f' (n / 10) (mkB [48 + UInt8.ofNat (n % 10)] ++ s).data.toList = dgsF k k []) := by
          show _ = _
          rw [← HD.out, cat_mkB, mkB_list]
          conv => rhs; rw [dgsF]
          rw [if_neg (by omega)]
        have hz : (mkB [48 + UInt8.ofNat (n % 10)]).size = 1 := by rw [← len_eq, mkB_list]; rfl
        have hm0 : 0 ≤ (n : Int) % 10 := by omega
        have hm1 : (n : Int) % 10 ≤ 9 := by omega
        go_wp2
        exact ⟨⟨n / 10, f', _, by go_num, rfl, by omega, by omega, by rw [ByteArray.size_append, hz]; omega, HD2, HE.out.alloc _⟩, by simp [intOf]; omega⟩
      · have hn0 : n = 0 := by omega
        subst hn0
        go_wp2
        go_ret
        refine ⟨?_, HE.out⟩
        rw [HT.out, ← HD.out, dgsF_zero, ← eq_mkB rfl]
        rfl

/-- The mark that begins with k. -/
def mz (k : Nat) : Zn := ⟨mtext k, (k + 1 : Nat), (k + 2 : Nat), (k + 3 : Nat), (k + 4 : Nat)⟩
def marks (k n : Nat) : List Zn := (List.range n).map fun i => mz (k + 5 * i)
end Go.Proofs.Ytfgjodnjahhanaa
