/- the specification's l5Kind. -/
import Derived.Test.YtdjnkchaapcjpaaGreatDoorY1
namespace Go.Proofs.YtdjnkchaapcjpaaGreatDoor
open Go.RowKit
theorem Opr.kindW_none {l : List UInt8} (h : ∀ k : Int, 1 ≤ k → k ≤ 8 → l ≠ Opr.word k) : Opr.kindW l = 0 := by
  unfold Opr.kindW
  rw [if_neg (h 1 (by decide) (by decide)), if_neg (h 2 (by decide) (by decide)), if_neg (h 3 (by decide) (by decide)), if_neg (h 4 (by decide) (by decide)), if_neg (h 5 (by decide) (by decide)), if_neg (h 6 (by decide) (by decide)), if_neg (h 7 (by decide) (by decide)), if_neg (h 8 (by decide) (by decide))]
set_option maxHeartbeats 4000000 in
set_option maxRecDepth 100000 in
theorem l5Kind_any (s : ByteArray) (w : World) : Calls Tryz.prog 119 #[.string s] w fun e w' => e = .returned (.int .i64 (Opr.kindW s.data.toList)) ∧ Ext w w' := by
  have HE : Hid (Ext w (w.alloc (Obj.cells #[.string ⟨#[111, 112, 101, 110]⟩, .string ⟨#[99, 108, 111, 115, 101]⟩, .string ⟨#[99, 114, 101, 97, 116, 101]⟩, .string ⟨#[100, 101, 108, 101, 116, 101]⟩, .string ⟨#[115, 101, 116]⟩, .string ⟨#[103, 101, 116]⟩, .string ⟨#[107, 105, 100, 115]⟩, .string ⟨#[99, 104, 101, 99, 107]⟩] 9))) := (Ext.refl _).alloc _
  go_enter Tryz.func119, Tryz.ntmps119
  go_wp2
  go_loopw [4] (fun i wr => ∃ k : Nat, k ≤ 8 ∧ i = .int .i64 k ∧ (∀ j : Int, 1 ≤ j → j ≤ k → s.data.toList ≠ Opr.word j) ∧ wr = w.alloc (Obj.cells #[.string ⟨#[111, 112, 101, 110]⟩, .string ⟨#[99, 108, 111, 115, 101]⟩, .string ⟨#[99, 114, 101, 97, 116, 101]⟩, .string ⟨#[100, 101, 108, 101, 116, 101]⟩, .string ⟨#[115, 101, 116]⟩, .string ⟨#[103, 101, 116]⟩, .string ⟨#[107, 105, 100, 115]⟩, .string ⟨#[99, 104, 101, 99, 107]⟩] 9))
    (fun i _ => 8 - (intOf i).toNat)
  case atStart => exact ⟨0, by omega, rfl, fun j h1 h2 => by omega, rfl⟩
  case round =>
    obtain ⟨k, hk, rfl, hn, rfl⟩ := hrel
    have hks : k = 0 ∨ k = 1 ∨ k = 2 ∨ k = 3 ∨ k = 4 ∨ k = 5 ∨ k = 6 ∨ k = 7 ∨ k = 8 := by omega
    rcases hks with rfl | rfl | rfl | rfl | rfl | rfl | rfl | rfl | rfl
    · by_cases hw : s.data.toList = Opr.word 1
      · have hq : (([111, 112, 101, 110] : List UInt8) == s.toList) = true := by rw [show ([111, 112, 101, 110] : List UInt8) = (⟨#[111, 112, 101, 110]⟩ : ByteArray).toList from by rw [Lib.toList_data], beq_val, hw]; decide
        have HK : Hid (Opr.kindW s.data.toList = 1) := by rw [hw]; exact Opr.kindW_word (by decide) (by decide)
        clear hw hn
        go_wp2
        go_ret
        exact ⟨by rw [HK.out]; rfl, HE.out⟩
      · have hq : (([111, 112, 101, 110] : List UInt8) == s.toList) = false := by rw [show ([111, 112, 101, 110] : List UInt8) = (⟨#[111, 112, 101, 110]⟩ : ByteArray).toList from by rw [Lib.toList_data], beq_val, decide_eq_false_iff_not]; exact fun h => hw h.symm
        have HN : Hid (∀ j : Int, 1 ≤ j → j ≤ (1 : Nat) → s.data.toList ≠ Opr.word j) := fun j h1 h2 => by
          by_cases e : j = 1
          · rw [e]; exact hw
          · exact hn j h1 (by omega)
        clear hw hn
        go_wp2
        exact ⟨⟨1, by omega, rfl, HN.out, trivial⟩, by decide⟩
    · by_cases hw : s.data.toList = Opr.word 2
      · have hq : (([99, 108, 111, 115, 101] : List UInt8) == s.toList) = true := by rw [show ([99, 108, 111, 115, 101] : List UInt8) = (⟨#[99, 108, 111, 115, 101]⟩ : ByteArray).toList from by rw [Lib.toList_data], beq_val, hw]; decide
        have HK : Hid (Opr.kindW s.data.toList = 2) := by rw [hw]; exact Opr.kindW_word (by decide) (by decide)
        clear hw hn
        go_wp2
        go_ret
        exact ⟨by rw [HK.out]; rfl, HE.out⟩
      · have hq : (([99, 108, 111, 115, 101] : List UInt8) == s.toList) = false := by rw [show ([99, 108, 111, 115, 101] : List UInt8) = (⟨#[99, 108, 111, 115, 101]⟩ : ByteArray).toList from by rw [Lib.toList_data], beq_val, decide_eq_false_iff_not]; exact fun h => hw h.symm
        have HN : Hid (∀ j : Int, 1 ≤ j → j ≤ (2 : Nat) → s.data.toList ≠ Opr.word j) := fun j h1 h2 => by
          by_cases e : j = 2
          · rw [e]; exact hw
          · exact hn j h1 (by omega)
        clear hw hn
        go_wp2
        exact ⟨⟨2, by omega, rfl, HN.out, trivial⟩, by decide⟩
    · by_cases hw : s.data.toList = Opr.word 3
      · have hq : (([99, 114, 101, 97, 116, 101] : List UInt8) == s.toList) = true := by rw [show ([99, 114, 101, 97, 116, 101] : List UInt8) = (⟨#[99, 114, 101, 97, 116, 101]⟩ : ByteArray).toList from by rw [Lib.toList_data], beq_val, hw]; decide
        have HK : Hid (Opr.kindW s.data.toList = 3) := by rw [hw]; exact Opr.kindW_word (by decide) (by decide)
        clear hw hn
        go_wp2
        go_ret
        exact ⟨by rw [HK.out]; rfl, HE.out⟩
      · have hq : (([99, 114, 101, 97, 116, 101] : List UInt8) == s.toList) = false := by rw [show ([99, 114, 101, 97, 116, 101] : List UInt8) = (⟨#[99, 114, 101, 97, 116, 101]⟩ : ByteArray).toList from by rw [Lib.toList_data], beq_val, decide_eq_false_iff_not]; exact fun h => hw h.symm
        have HN : Hid (∀ j : Int, 1 ≤ j → j ≤ (3 : Nat) → s.data.toList ≠ Opr.word j) := fun j h1 h2 => by
          by_cases e : j = 3
          · rw [e]; exact hw
          · exact hn j h1 (by omega)
        clear hw hn
        go_wp2
        exact ⟨⟨3, by omega, rfl, HN.out, trivial⟩, by decide⟩
    · by_cases hw : s.data.toList = Opr.word 4
      · have hq : (([100, 101, 108, 101, 116, 101] : List UInt8) == s.toList) = true := by rw [show ([100, 101, 108, 101, 116, 101] : List UInt8) = (⟨#[100, 101, 108, 101, 116, 101]⟩ : ByteArray).toList from by rw [Lib.toList_data], beq_val, hw]; decide
        have HK : Hid (Opr.kindW s.data.toList = 4) := by rw [hw]; exact Opr.kindW_word (by decide) (by decide)
        clear hw hn
        go_wp2
        go_ret
        exact ⟨by rw [HK.out]; rfl, HE.out⟩
      · have hq : (([100, 101, 108, 101, 116, 101] : List UInt8) == s.toList) = false := by rw [show ([100, 101, 108, 101, 116, 101] : List UInt8) = (⟨#[100, 101, 108, 101, 116, 101]⟩ : ByteArray).toList from by rw [Lib.toList_data], beq_val, decide_eq_false_iff_not]; exact fun h => hw h.symm
        have HN : Hid (∀ j : Int, 1 ≤ j → j ≤ (4 : Nat) → s.data.toList ≠ Opr.word j) := fun j h1 h2 => by
          by_cases e : j = 4
          · rw [e]; exact hw
          · exact hn j h1 (by omega)
        clear hw hn
        go_wp2
        exact ⟨⟨4, by omega, rfl, HN.out, trivial⟩, by decide⟩
    · by_cases hw : s.data.toList = Opr.word 5
      · have hq : (([115, 101, 116] : List UInt8) == s.toList) = true := by rw [show ([115, 101, 116] : List UInt8) = (⟨#[115, 101, 116]⟩ : ByteArray).toList from by rw [Lib.toList_data], beq_val, hw]; decide
        have HK : Hid (Opr.kindW s.data.toList = 5) := by rw [hw]; exact Opr.kindW_word (by decide) (by decide)
        clear hw hn
        go_wp2
        go_ret
        exact ⟨by rw [HK.out]; rfl, HE.out⟩
      · have hq : (([115, 101, 116] : List UInt8) == s.toList) = false := by rw [show ([115, 101, 116] : List UInt8) = (⟨#[115, 101, 116]⟩ : ByteArray).toList from by rw [Lib.toList_data], beq_val, decide_eq_false_iff_not]; exact fun h => hw h.symm
        have HN : Hid (∀ j : Int, 1 ≤ j → j ≤ (5 : Nat) → s.data.toList ≠ Opr.word j) := fun j h1 h2 => by
          by_cases e : j = 5
          · rw [e]; exact hw
          · exact hn j h1 (by omega)
        clear hw hn
        go_wp2
        exact ⟨⟨5, by omega, rfl, HN.out, trivial⟩, by decide⟩
    · by_cases hw : s.data.toList = Opr.word 6
      · have hq : (([103, 101, 116] : List UInt8) == s.toList) = true := by rw [show ([103, 101, 116] : List UInt8) = (⟨#[103, 101, 116]⟩ : ByteArray).toList from by rw [Lib.toList_data], beq_val, hw]; decide
        have HK : Hid (Opr.kindW s.data.toList = 6) := by rw [hw]; exact Opr.kindW_word (by decide) (by decide)
        clear hw hn
        go_wp2
        go_ret
        exact ⟨by rw [HK.out]; rfl, HE.out⟩
      · have hq : (([103, 101, 116] : List UInt8) == s.toList) = false := by rw [show ([103, 101, 116] : List UInt8) = (⟨#[103, 101, 116]⟩ : ByteArray).toList from by rw [Lib.toList_data], beq_val, decide_eq_false_iff_not]; exact fun h => hw h.symm
        have HN : Hid (∀ j : Int, 1 ≤ j → j ≤ (6 : Nat) → s.data.toList ≠ Opr.word j) := fun j h1 h2 => by
          by_cases e : j = 6
          · rw [e]; exact hw
          · exact hn j h1 (by omega)
        clear hw hn
        go_wp2
        exact ⟨⟨6, by omega, rfl, HN.out, trivial⟩, by decide⟩
    · by_cases hw : s.data.toList = Opr.word 7
      · have hq : (([107, 105, 100, 115] : List UInt8) == s.toList) = true := by rw [show ([107, 105, 100, 115] : List UInt8) = (⟨#[107, 105, 100, 115]⟩ : ByteArray).toList from by rw [Lib.toList_data], beq_val, hw]; decide
        have HK : Hid (Opr.kindW s.data.toList = 7) := by rw [hw]; exact Opr.kindW_word (by decide) (by decide)
        clear hw hn
        go_wp2
        go_ret
        exact ⟨by rw [HK.out]; rfl, HE.out⟩
      · have hq : (([107, 105, 100, 115] : List UInt8) == s.toList) = false := by rw [show ([107, 105, 100, 115] : List UInt8) = (⟨#[107, 105, 100, 115]⟩ : ByteArray).toList from by rw [Lib.toList_data], beq_val, decide_eq_false_iff_not]; exact fun h => hw h.symm
        have HN : Hid (∀ j : Int, 1 ≤ j → j ≤ (7 : Nat) → s.data.toList ≠ Opr.word j) := fun j h1 h2 => by
          by_cases e : j = 7
          · rw [e]; exact hw
          · exact hn j h1 (by omega)
        clear hw hn
        go_wp2
        exact ⟨⟨7, by omega, rfl, HN.out, trivial⟩, by decide⟩
    · by_cases hw : s.data.toList = Opr.word 8
      · have hq : (([99, 104, 101, 99, 107] : List UInt8) == s.toList) = true := by rw [show ([99, 104, 101, 99, 107] : List UInt8) = (⟨#[99, 104, 101, 99, 107]⟩ : ByteArray).toList from by rw [Lib.toList_data], beq_val, hw]; decide
        have HK : Hid (Opr.kindW s.data.toList = 8) := by rw [hw]; exact Opr.kindW_word (by decide) (by decide)
        clear hw hn
        go_wp2
        go_ret
        exact ⟨by rw [HK.out]; rfl, HE.out⟩
      · have hq : (([99, 104, 101, 99, 107] : List UInt8) == s.toList) = false := by rw [show ([99, 104, 101, 99, 107] : List UInt8) = (⟨#[99, 104, 101, 99, 107]⟩ : ByteArray).toList from by rw [Lib.toList_data], beq_val, decide_eq_false_iff_not]; exact fun h => hw h.symm
        have HN : Hid (∀ j : Int, 1 ≤ j → j ≤ (8 : Nat) → s.data.toList ≠ Opr.word j) := fun j h1 h2 => by
          by_cases e : j = 8
          · rw [e]; exact hw
          · exact hn j h1 (by omega)
        clear hw hn
        go_wp2
        exact ⟨⟨8, by omega, rfl, HN.out, trivial⟩, by decide⟩
    · have HK : Hid (Opr.kindW s.data.toList = 0) := Opr.kindW_none hn
      clear hn
      go_wp2
      go_ret
      exact ⟨by rw [HK.out]; rfl, HE.out⟩
end Go.Proofs.YtdjnkchaapcjpaaGreatDoor
