/- what a text may be of: kindOfWord, readNumber, readVersion of the program. -/
import Derived.Test.YtdjnkchaapcjpaaGreatDoorX1
import Derived.Lib.SmallJoins
import Derived.Shelf.Strconv.ErrVarParseInt
namespace Go.Proofs.YtdjnkchaapcjpaaGreatDoor
open Go.RowKit
theorem Opr.kindW_none {l : List UInt8} (h : ∀ j : Int, 1 ≤ j → j ≤ 8 → l ≠ Opr.word j) : Opr.kindW l = 0 := by
  unfold Opr.kindW
  rw [if_neg (h 1 (by decide) (by decide)), if_neg (h 2 (by decide) (by decide)), if_neg (h 3 (by decide) (by decide)), if_neg (h 4 (by decide) (by decide)), if_neg (h 5 (by decide) (by decide)), if_neg (h 6 (by decide) (by decide)), if_neg (h 7 (by decide) (by decide)), if_neg (h 8 (by decide) (by decide))]
set_option maxHeartbeats 8000000 in
set_option maxRecDepth 100000 in
theorem kindOfWord_any (s : ByteArray) (w : World) : Calls Tryz.prog 124 #[.string s] w fun e w' => e = .returned (.int .i64 (Opr.kindW s.data.toList)) ∧ Ext w w' := by
  obtain ⟨R, hR⟩ : ∃ R, R = Opr.kindW s.data.toList := ⟨_, rfl⟩
  have HR : Hid (R = Opr.kindW s.data.toList) := hR
  rw [← hR]
  clear hR
  go_enter Tryz.func124, Tryz.ntmps124
  go_wp2
  go_loopw [3] (fun i wr => ∃ (k : Int), 1 ≤ k ∧ k ≤ 9 ∧ i = .int .i64 k ∧ Hid (∀ j : Int, 1 ≤ j → j < k → s.data.toList ≠ Opr.word j) ∧ Hid (Ext w wr)) (fun i _ => (9 - intOf i).toNat)
  case atStart => exact ⟨1, by decide, by decide, rfl, fun j h1 h2 => by omega, Ext.refl _⟩
  case round =>
    obtain ⟨k, hk1, hk9, rfl, HA, HE⟩ := hrel
    have hk : k = 1 ∨ k = 2 ∨ k = 3 ∨ k = 4 ∨ k = 5 ∨ k = 6 ∨ k = 7 ∨ k = 8 ∨ k = 9 := by omega
    clear hk1 hk9
    rcases hk with rfl | rfl | rfl | rfl | rfl | rfl | rfl | rfl | rfl
    · have HD : Hid (∀ wx : World, Calls Tryz.prog 69 #[oagg ⟨1, ⟨#[]⟩, 0, 0, false, false⟩] wx fun e w' => e = .returned (.iface 184 (.agg #[])) ∧ Ext wx w') := deedOf_1 ⟨#[]⟩ 0 0 false false
      have hm : ∀ W : World, Sem.run Tryz.prog (method 443 184 (.agg #[]) "loop.example/g00369/impl.word") W = .ok (253, .agg #[]) W := fun W => by kernel_rfl
      have HW0 : Hid (∀ wx : World, Calls Tryz.prog 253 #[.agg #[]] wx fun e w' => e = .returned (.string (mkB (Opr.word 1))) ∧ Ext wx w') := word_1 
      obtain ⟨wd, hwd⟩ : ∃ wd, wd = mkB (Opr.word 1) := ⟨_, rfl⟩
      have HW : Hid (∀ wx : World, Calls Tryz.prog 253 #[.agg #[]] wx fun e w' => e = .returned (.string wd) ∧ Ext wx w') := by rw [hwd]; exact HW0.out
      have hwl : wd.data.toList = Opr.word 1 := by rw [hwd, mkB_list]
      clear HW0 hwd
      unfold oagg at HD
      by_cases he : s.data.toList = Opr.word 1
      · have hc : (wd.toList == s.toList) = true := by rw [beq_val, hwl, he]; simp
        have HF : Hid (R = 1) := HR.out.trans (by rw [he]; exact Opr.kindW_word (by decide) (by decide))
        clear he hwl
        go_wp2_with fail
        refine (HD.out _).mono ?_
        rintro e w2 ⟨rfl, hb⟩
        have HE2 : Hid (Ext w w2) := HE.out.trans hb
        clear hb
        go_wp2_with fail
        refine (HW.out _).mono ?_
        rintro e w3 ⟨rfl, hb⟩
        have HE3 : Hid (Ext w w3) := HE2.out.trans hb
        clear hb
        go_wp2
        go_ret
        exact ⟨ret_int HF.out.symm, HE3.out⟩
      · have hc : (wd.toList == s.toList) = false := by rw [beq_val, hwl]; simpa using fun h => he h.symm
        have HA2 : Hid (∀ j : Int, 1 ≤ j → j < 2 → s.data.toList ≠ Opr.word j) := fun j h1 h2 => by
          by_cases hj : j = 1
          · subst hj; exact he
          · exact HA.out j h1 (by omega)
        clear he hwl
        go_wp2_with fail
        refine (HD.out _).mono ?_
        rintro e w2 ⟨rfl, hb⟩
        have HE2 : Hid (Ext w w2) := HE.out.trans hb
        clear hb
        go_wp2_with fail
        refine (HW.out _).mono ?_
        rintro e w3 ⟨rfl, hb⟩
        have HE3 : Hid (Ext w w3) := HE2.out.trans hb
        clear hb
        go_wp2
        exact ⟨⟨2, by decide, by decide, by go_num, HA2, HE3⟩, by simp [intOf]⟩
    · have HD : Hid (∀ wx : World, Calls Tryz.prog 69 #[oagg ⟨2, ⟨#[]⟩, 0, 0, false, false⟩] wx fun e w' => e = .returned (.iface 185 (.agg #[])) ∧ Ext wx w') := deedOf_2 ⟨#[]⟩ 0 0 false false
      have hm : ∀ W : World, Sem.run Tryz.prog (method 443 185 (.agg #[]) "loop.example/g00369/impl.word") W = .ok (254, .agg #[]) W := fun W => by kernel_rfl
      have HW0 : Hid (∀ wx : World, Calls Tryz.prog 254 #[.agg #[]] wx fun e w' => e = .returned (.string (mkB (Opr.word 2))) ∧ Ext wx w') := word_2 
      obtain ⟨wd, hwd⟩ : ∃ wd, wd = mkB (Opr.word 2) := ⟨_, rfl⟩
      have HW : Hid (∀ wx : World, Calls Tryz.prog 254 #[.agg #[]] wx fun e w' => e = .returned (.string wd) ∧ Ext wx w') := by rw [hwd]; exact HW0.out
      have hwl : wd.data.toList = Opr.word 2 := by rw [hwd, mkB_list]
      clear HW0 hwd
      unfold oagg at HD
      by_cases he : s.data.toList = Opr.word 2
      · have hc : (wd.toList == s.toList) = true := by rw [beq_val, hwl, he]; simp
        have HF : Hid (R = 2) := HR.out.trans (by rw [he]; exact Opr.kindW_word (by decide) (by decide))
        clear he hwl
        go_wp2_with fail
        refine (HD.out _).mono ?_
        rintro e w2 ⟨rfl, hb⟩
        have HE2 : Hid (Ext w w2) := HE.out.trans hb
        clear hb
        go_wp2_with fail
        refine (HW.out _).mono ?_
        rintro e w3 ⟨rfl, hb⟩
        have HE3 : Hid (Ext w w3) := HE2.out.trans hb
        clear hb
        go_wp2
        go_ret
        exact ⟨ret_int HF.out.symm, HE3.out⟩
      · have hc : (wd.toList == s.toList) = false := by rw [beq_val, hwl]; simpa using fun h => he h.symm
        have HA2 : Hid (∀ j : Int, 1 ≤ j → j < 3 → s.data.toList ≠ Opr.word j) := fun j h1 h2 => by
          by_cases hj : j = 2
          · subst hj; exact he
          · exact HA.out j h1 (by omega)
        clear he hwl
        go_wp2_with fail
        refine (HD.out _).mono ?_
        rintro e w2 ⟨rfl, hb⟩
        have HE2 : Hid (Ext w w2) := HE.out.trans hb
        clear hb
        go_wp2_with fail
        refine (HW.out _).mono ?_
        rintro e w3 ⟨rfl, hb⟩
        have HE3 : Hid (Ext w w3) := HE2.out.trans hb
        clear hb
        go_wp2
        exact ⟨⟨3, by decide, by decide, by go_num, HA2, HE3⟩, by simp [intOf]⟩
    · have HD : Hid (∀ wx : World, Calls Tryz.prog 69 #[oagg ⟨3, ⟨#[]⟩, 0, 0, false, false⟩] wx fun e w' => e = .returned (.iface 187 (.agg #[.string ⟨#[]⟩, .int .i64 0, .bool false, .bool false])) ∧ Ext wx w') := deedOf_3 ⟨#[]⟩ 0 0 false false
      have hm : ∀ W : World, Sem.run Tryz.prog (method 443 187 (.agg #[.string ⟨#[]⟩, .int .i64 0, .bool false, .bool false]) "loop.example/g00369/impl.word") W = .ok (255, .agg #[.string ⟨#[]⟩, .int .i64 0, .bool false, .bool false]) W := fun W => by kernel_rfl
      have HW0 : Hid (∀ wx : World, Calls Tryz.prog 255 #[.agg #[.string ⟨#[]⟩, .int .i64 0, .bool false, .bool false]] wx fun e w' => e = .returned (.string (mkB (Opr.word 3))) ∧ Ext wx w') := word_3 ⟨#[]⟩ 0 false false
      obtain ⟨wd, hwd⟩ : ∃ wd, wd = mkB (Opr.word 3) := ⟨_, rfl⟩
      have HW : Hid (∀ wx : World, Calls Tryz.prog 255 #[.agg #[.string ⟨#[]⟩, .int .i64 0, .bool false, .bool false]] wx fun e w' => e = .returned (.string wd) ∧ Ext wx w') := by rw [hwd]; exact HW0.out
      have hwl : wd.data.toList = Opr.word 3 := by rw [hwd, mkB_list]
      clear HW0 hwd
      unfold oagg at HD
      by_cases he : s.data.toList = Opr.word 3
      · have hc : (wd.toList == s.toList) = true := by rw [beq_val, hwl, he]; simp
        have HF : Hid (R = 3) := HR.out.trans (by rw [he]; exact Opr.kindW_word (by decide) (by decide))
        clear he hwl
        go_wp2_with fail
        refine (HD.out _).mono ?_
        rintro e w2 ⟨rfl, hb⟩
        have HE2 : Hid (Ext w w2) := HE.out.trans hb
        clear hb
        go_wp2_with fail
        refine (HW.out _).mono ?_
        rintro e w3 ⟨rfl, hb⟩
        have HE3 : Hid (Ext w w3) := HE2.out.trans hb
        clear hb
        go_wp2
        go_ret
        exact ⟨ret_int HF.out.symm, HE3.out⟩
      · have hc : (wd.toList == s.toList) = false := by rw [beq_val, hwl]; simpa using fun h => he h.symm
        have HA2 : Hid (∀ j : Int, 1 ≤ j → j < 4 → s.data.toList ≠ Opr.word j) := fun j h1 h2 => by
          by_cases hj : j = 3
          · subst hj; exact he
          · exact HA.out j h1 (by omega)
        clear he hwl
        go_wp2_with fail
        refine (HD.out _).mono ?_
        rintro e w2 ⟨rfl, hb⟩
        have HE2 : Hid (Ext w w2) := HE.out.trans hb
        clear hb
        go_wp2_with fail
        refine (HW.out _).mono ?_
        rintro e w3 ⟨rfl, hb⟩
        have HE3 : Hid (Ext w w3) := HE2.out.trans hb
        clear hb
        go_wp2
        exact ⟨⟨4, by decide, by decide, by go_num, HA2, HE3⟩, by simp [intOf]⟩
    · have HD : Hid (∀ wx : World, Calls Tryz.prog 69 #[oagg ⟨4, ⟨#[]⟩, 0, 0, false, false⟩] wx fun e w' => e = .returned (.iface 189 (.agg #[.string ⟨#[]⟩, .int .i64 0])) ∧ Ext wx w') := deedOf_4 ⟨#[]⟩ 0 0 false false
      have hm : ∀ W : World, Sem.run Tryz.prog (method 443 189 (.agg #[.string ⟨#[]⟩, .int .i64 0]) "loop.example/g00369/impl.word") W = .ok (256, .agg #[.string ⟨#[]⟩, .int .i64 0]) W := fun W => by kernel_rfl
      have HW0 : Hid (∀ wx : World, Calls Tryz.prog 256 #[.agg #[.string ⟨#[]⟩, .int .i64 0]] wx fun e w' => e = .returned (.string (mkB (Opr.word 4))) ∧ Ext wx w') := word_4 ⟨#[]⟩ 0
      obtain ⟨wd, hwd⟩ : ∃ wd, wd = mkB (Opr.word 4) := ⟨_, rfl⟩
      have HW : Hid (∀ wx : World, Calls Tryz.prog 256 #[.agg #[.string ⟨#[]⟩, .int .i64 0]] wx fun e w' => e = .returned (.string wd) ∧ Ext wx w') := by rw [hwd]; exact HW0.out
      have hwl : wd.data.toList = Opr.word 4 := by rw [hwd, mkB_list]
      clear HW0 hwd
      unfold oagg at HD
      by_cases he : s.data.toList = Opr.word 4
      · have hc : (wd.toList == s.toList) = true := by rw [beq_val, hwl, he]; simp
        have HF : Hid (R = 4) := HR.out.trans (by rw [he]; exact Opr.kindW_word (by decide) (by decide))
        clear he hwl
        go_wp2_with fail
        refine (HD.out _).mono ?_
        rintro e w2 ⟨rfl, hb⟩
        have HE2 : Hid (Ext w w2) := HE.out.trans hb
        clear hb
        go_wp2_with fail
        refine (HW.out _).mono ?_
        rintro e w3 ⟨rfl, hb⟩
        have HE3 : Hid (Ext w w3) := HE2.out.trans hb
        clear hb
        go_wp2
        go_ret
        exact ⟨ret_int HF.out.symm, HE3.out⟩
      · have hc : (wd.toList == s.toList) = false := by rw [beq_val, hwl]; simpa using fun h => he h.symm
        have HA2 : Hid (∀ j : Int, 1 ≤ j → j < 5 → s.data.toList ≠ Opr.word j) := fun j h1 h2 => by
          by_cases hj : j = 4
          · subst hj; exact he
          · exact HA.out j h1 (by omega)
        clear he hwl
        go_wp2_with fail
        refine (HD.out _).mono ?_
        rintro e w2 ⟨rfl, hb⟩
        have HE2 : Hid (Ext w w2) := HE.out.trans hb
        clear hb
        go_wp2_with fail
        refine (HW.out _).mono ?_
        rintro e w3 ⟨rfl, hb⟩
        have HE3 : Hid (Ext w w3) := HE2.out.trans hb
        clear hb
        go_wp2
        exact ⟨⟨5, by decide, by decide, by go_num, HA2, HE3⟩, by simp [intOf]⟩
    · have HD : Hid (∀ wx : World, Calls Tryz.prog 69 #[oagg ⟨5, ⟨#[]⟩, 0, 0, false, false⟩] wx fun e w' => e = .returned (.iface 191 (.agg #[.string ⟨#[]⟩, .int .i64 0, .int .i64 0])) ∧ Ext wx w') := deedOf_5 ⟨#[]⟩ 0 0 false false
      have hm : ∀ W : World, Sem.run Tryz.prog (method 443 191 (.agg #[.string ⟨#[]⟩, .int .i64 0, .int .i64 0]) "loop.example/g00369/impl.word") W = .ok (257, .agg #[.string ⟨#[]⟩, .int .i64 0, .int .i64 0]) W := fun W => by kernel_rfl
      have HW0 : Hid (∀ wx : World, Calls Tryz.prog 257 #[.agg #[.string ⟨#[]⟩, .int .i64 0, .int .i64 0]] wx fun e w' => e = .returned (.string (mkB (Opr.word 5))) ∧ Ext wx w') := word_5 ⟨#[]⟩ 0 0
      obtain ⟨wd, hwd⟩ : ∃ wd, wd = mkB (Opr.word 5) := ⟨_, rfl⟩
      have HW : Hid (∀ wx : World, Calls Tryz.prog 257 #[.agg #[.string ⟨#[]⟩, .int .i64 0, .int .i64 0]] wx fun e w' => e = .returned (.string wd) ∧ Ext wx w') := by rw [hwd]; exact HW0.out
      have hwl : wd.data.toList = Opr.word 5 := by rw [hwd, mkB_list]
      clear HW0 hwd
      unfold oagg at HD
      by_cases he : s.data.toList = Opr.word 5
      · have hc : (wd.toList == s.toList) = true := by rw [beq_val, hwl, he]; simp
        have HF : Hid (R = 5) := HR.out.trans (by rw [he]; exact Opr.kindW_word (by decide) (by decide))
        clear he hwl
        go_wp2_with fail
        refine (HD.out _).mono ?_
        rintro e w2 ⟨rfl, hb⟩
        have HE2 : Hid (Ext w w2) := HE.out.trans hb
        clear hb
        go_wp2_with fail
        refine (HW.out _).mono ?_
        rintro e w3 ⟨rfl, hb⟩
        have HE3 : Hid (Ext w w3) := HE2.out.trans hb
        clear hb
        go_wp2
        go_ret
        exact ⟨ret_int HF.out.symm, HE3.out⟩
      · have hc : (wd.toList == s.toList) = false := by rw [beq_val, hwl]; simpa using fun h => he h.symm
        have HA2 : Hid (∀ j : Int, 1 ≤ j → j < 6 → s.data.toList ≠ Opr.word j) := fun j h1 h2 => by
          by_cases hj : j = 5
          · subst hj; exact he
          · exact HA.out j h1 (by omega)
        clear he hwl
        go_wp2_with fail
        refine (HD.out _).mono ?_
        rintro e w2 ⟨rfl, hb⟩
        have HE2 : Hid (Ext w w2) := HE.out.trans hb
        clear hb
        go_wp2_with fail
        refine (HW.out _).mono ?_
        rintro e w3 ⟨rfl, hb⟩
        have HE3 : Hid (Ext w w3) := HE2.out.trans hb
        clear hb
        go_wp2
        exact ⟨⟨6, by decide, by decide, by go_num, HA2, HE3⟩, by simp [intOf]⟩
    · have HD : Hid (∀ wx : World, Calls Tryz.prog 69 #[oagg ⟨6, ⟨#[]⟩, 0, 0, false, false⟩] wx fun e w' => e = .returned (.iface 193 (.agg #[.string ⟨#[]⟩])) ∧ Ext wx w') := deedOf_6 ⟨#[]⟩ 0 0 false false
      have hm : ∀ W : World, Sem.run Tryz.prog (method 443 193 (.agg #[.string ⟨#[]⟩]) "loop.example/g00369/impl.word") W = .ok (258, .agg #[.string ⟨#[]⟩]) W := fun W => by kernel_rfl
      have HW0 : Hid (∀ wx : World, Calls Tryz.prog 258 #[.agg #[.string ⟨#[]⟩]] wx fun e w' => e = .returned (.string (mkB (Opr.word 6))) ∧ Ext wx w') := word_6 ⟨#[]⟩
      obtain ⟨wd, hwd⟩ : ∃ wd, wd = mkB (Opr.word 6) := ⟨_, rfl⟩
      have HW : Hid (∀ wx : World, Calls Tryz.prog 258 #[.agg #[.string ⟨#[]⟩]] wx fun e w' => e = .returned (.string wd) ∧ Ext wx w') := by rw [hwd]; exact HW0.out
      have hwl : wd.data.toList = Opr.word 6 := by rw [hwd, mkB_list]
      clear HW0 hwd
      unfold oagg at HD
      by_cases he : s.data.toList = Opr.word 6
      · have hc : (wd.toList == s.toList) = true := by rw [beq_val, hwl, he]; simp
        have HF : Hid (R = 6) := HR.out.trans (by rw [he]; exact Opr.kindW_word (by decide) (by decide))
        clear he hwl
        go_wp2_with fail
        refine (HD.out _).mono ?_
        rintro e w2 ⟨rfl, hb⟩
        have HE2 : Hid (Ext w w2) := HE.out.trans hb
        clear hb
        go_wp2_with fail
        refine (HW.out _).mono ?_
        rintro e w3 ⟨rfl, hb⟩
        have HE3 : Hid (Ext w w3) := HE2.out.trans hb
        clear hb
        go_wp2
        go_ret
        exact ⟨ret_int HF.out.symm, HE3.out⟩
      · have hc : (wd.toList == s.toList) = false := by rw [beq_val, hwl]; simpa using fun h => he h.symm
        have HA2 : Hid (∀ j : Int, 1 ≤ j → j < 7 → s.data.toList ≠ Opr.word j) := fun j h1 h2 => by
          by_cases hj : j = 6
          · subst hj; exact he
          · exact HA.out j h1 (by omega)
        clear he hwl
        go_wp2_with fail
        refine (HD.out _).mono ?_
        rintro e w2 ⟨rfl, hb⟩
        have HE2 : Hid (Ext w w2) := HE.out.trans hb
        clear hb
        go_wp2_with fail
        refine (HW.out _).mono ?_
        rintro e w3 ⟨rfl, hb⟩
        have HE3 : Hid (Ext w w3) := HE2.out.trans hb
        clear hb
        go_wp2
        exact ⟨⟨7, by decide, by decide, by go_num, HA2, HE3⟩, by simp [intOf]⟩
    · have HD : Hid (∀ wx : World, Calls Tryz.prog 69 #[oagg ⟨7, ⟨#[]⟩, 0, 0, false, false⟩] wx fun e w' => e = .returned (.iface 194 (.agg #[.string ⟨#[]⟩])) ∧ Ext wx w') := deedOf_7 ⟨#[]⟩ 0 0 false false
      have hm : ∀ W : World, Sem.run Tryz.prog (method 443 194 (.agg #[.string ⟨#[]⟩]) "loop.example/g00369/impl.word") W = .ok (259, .agg #[.string ⟨#[]⟩]) W := fun W => by kernel_rfl
      have HW0 : Hid (∀ wx : World, Calls Tryz.prog 259 #[.agg #[.string ⟨#[]⟩]] wx fun e w' => e = .returned (.string (mkB (Opr.word 7))) ∧ Ext wx w') := word_7 ⟨#[]⟩
      obtain ⟨wd, hwd⟩ : ∃ wd, wd = mkB (Opr.word 7) := ⟨_, rfl⟩
      have HW : Hid (∀ wx : World, Calls Tryz.prog 259 #[.agg #[.string ⟨#[]⟩]] wx fun e w' => e = .returned (.string wd) ∧ Ext wx w') := by rw [hwd]; exact HW0.out
      have hwl : wd.data.toList = Opr.word 7 := by rw [hwd, mkB_list]
      clear HW0 hwd
      unfold oagg at HD
      by_cases he : s.data.toList = Opr.word 7
      · have hc : (wd.toList == s.toList) = true := by rw [beq_val, hwl, he]; simp
        have HF : Hid (R = 7) := HR.out.trans (by rw [he]; exact Opr.kindW_word (by decide) (by decide))
        clear he hwl
        go_wp2_with fail
        refine (HD.out _).mono ?_
        rintro e w2 ⟨rfl, hb⟩
        have HE2 : Hid (Ext w w2) := HE.out.trans hb
        clear hb
        go_wp2_with fail
        refine (HW.out _).mono ?_
        rintro e w3 ⟨rfl, hb⟩
        have HE3 : Hid (Ext w w3) := HE2.out.trans hb
        clear hb
        go_wp2
        go_ret
        exact ⟨ret_int HF.out.symm, HE3.out⟩
      · have hc : (wd.toList == s.toList) = false := by rw [beq_val, hwl]; simpa using fun h => he h.symm
        have HA2 : Hid (∀ j : Int, 1 ≤ j → j < 8 → s.data.toList ≠ Opr.word j) := fun j h1 h2 => by
          by_cases hj : j = 7
          · subst hj; exact he
          · exact HA.out j h1 (by omega)
        clear he hwl
        go_wp2_with fail
        refine (HD.out _).mono ?_
        rintro e w2 ⟨rfl, hb⟩
        have HE2 : Hid (Ext w w2) := HE.out.trans hb
        clear hb
        go_wp2_with fail
        refine (HW.out _).mono ?_
        rintro e w3 ⟨rfl, hb⟩
        have HE3 : Hid (Ext w w3) := HE2.out.trans hb
        clear hb
        go_wp2
        exact ⟨⟨8, by decide, by decide, by go_num, HA2, HE3⟩, by simp [intOf]⟩
    · have HD : Hid (∀ wx : World, Calls Tryz.prog 69 #[oagg ⟨8, ⟨#[]⟩, 0, 0, false, false⟩] wx fun e w' => e = .returned (.iface 195 (.agg #[.string ⟨#[]⟩, .int .i64 0])) ∧ Ext wx w') := deedOf_8 ⟨#[]⟩ 0 0 false false
      have hm : ∀ W : World, Sem.run Tryz.prog (method 443 195 (.agg #[.string ⟨#[]⟩, .int .i64 0]) "loop.example/g00369/impl.word") W = .ok (260, .agg #[.string ⟨#[]⟩, .int .i64 0]) W := fun W => by kernel_rfl
      have HW0 : Hid (∀ wx : World, Calls Tryz.prog 260 #[.agg #[.string ⟨#[]⟩, .int .i64 0]] wx fun e w' => e = .returned (.string (mkB (Opr.word 8))) ∧ Ext wx w') := word_8 ⟨#[]⟩ 0
      obtain ⟨wd, hwd⟩ : ∃ wd, wd = mkB (Opr.word 8) := ⟨_, rfl⟩
      have HW : Hid (∀ wx : World, Calls Tryz.prog 260 #[.agg #[.string ⟨#[]⟩, .int .i64 0]] wx fun e w' => e = .returned (.string wd) ∧ Ext wx w') := by rw [hwd]; exact HW0.out
      have hwl : wd.data.toList = Opr.word 8 := by rw [hwd, mkB_list]
      clear HW0 hwd
      unfold oagg at HD
      by_cases he : s.data.toList = Opr.word 8
      · have hc : (wd.toList == s.toList) = true := by rw [beq_val, hwl, he]; simp
        have HF : Hid (R = 8) := HR.out.trans (by rw [he]; exact Opr.kindW_word (by decide) (by decide))
        clear he hwl
        go_wp2_with fail
        refine (HD.out _).mono ?_
        rintro e w2 ⟨rfl, hb⟩
        have HE2 : Hid (Ext w w2) := HE.out.trans hb
        clear hb
        go_wp2_with fail
        refine (HW.out _).mono ?_
        rintro e w3 ⟨rfl, hb⟩
        have HE3 : Hid (Ext w w3) := HE2.out.trans hb
        clear hb
        go_wp2
        go_ret
        exact ⟨ret_int HF.out.symm, HE3.out⟩
      · have hc : (wd.toList == s.toList) = false := by rw [beq_val, hwl]; simpa using fun h => he h.symm
        have HA2 : Hid (∀ j : Int, 1 ≤ j → j < 9 → s.data.toList ≠ Opr.word j) := fun j h1 h2 => by
          by_cases hj : j = 8
          · subst hj; exact he
          · exact HA.out j h1 (by omega)
        clear he hwl
        go_wp2_with fail
        refine (HD.out _).mono ?_
        rintro e w2 ⟨rfl, hb⟩
        have HE2 : Hid (Ext w w2) := HE.out.trans hb
        clear hb
        go_wp2_with fail
        refine (HW.out _).mono ?_
        rintro e w3 ⟨rfl, hb⟩
        have HE3 : Hid (Ext w w3) := HE2.out.trans hb
        clear hb
        go_wp2
        exact ⟨⟨9, by decide, by decide, by go_num, HA2, HE3⟩, by simp [intOf]⟩
    · have HF : Hid (R = 0) := HR.out.trans (Opr.kindW_none (fun j h1 h2 => HA.out j h1 (by omega)))
      go_wp2
      go_ret
      exact ⟨ret_int HF.out.symm, HE.out⟩
/-- The library's two errors lie as they lie. -/
def Es (w : World) : Prop := (∃ tp p, w.var? Tryz.prog "strconv.ErrSyntax" = some #[.iface tp p]) ∧ ∃ tp p, w.var? Tryz.prog "strconv.ErrRange" = some #[.iface tp p]
theorem gSyn : Tryz.prog.globalNamed "strconv.ErrSyntax" = some 3 := by kernel_rfl
theorem gRan : Tryz.prog.globalNamed "strconv.ErrRange" = some 4 := by kernel_rfl
theorem varExt {w w' : World} {n : String} {g : Nat} {cs : Array Value} (hg : Tryz.prog.globalNamed n = some g) (h : w.var? Tryz.prog n = some cs) (he : Ext w w') (h0 : ∃ v, cs[0]? = some v) : w'.var? Tryz.prog n = some cs := by
  obtain ⟨v, hv⟩ := h0
  have hc := World.var?_cell hg h 0
  have hlt : g < w.heap.size := World.block_lt_of_cell? w ⟨g, 0, none⟩ (by rw [hc]; exact hv)
  unfold World.var? at h ⊢
  rw [hg] at h ⊢
  simp only [Option.bind_some] at h ⊢
  rw [he.block g hlt]
  exact h
theorem Es.ext {w w' : World} (h : Es w) (he : Ext w w') : Es w' := by
  obtain ⟨⟨tp, p, h1⟩, tq, q, h2⟩ := h
  exact ⟨⟨tp, p, varExt gSyn h1 he ⟨_, rfl⟩⟩, tq, q, varExt gRan h2 he ⟨_, rfl⟩⟩
theorem parseInt_any (s : ByteArray) (w : World) (hs : s.size ≤ 1048576) (h : Es w) : Calls Tryz.prog 172 #[.string s, .int .i64 10, .int .i64 64] w fun e w' => ∃ (n : Int) (u : Value), e = .returned (.tuple #[.int .i64 n, u]) ∧ (∀ m : Int, 0 ≤ m → m ≤ 99999 → s.data.toList = Lib.itoa m → n = m) ∧ Ext w w' := by
  obtain ⟨⟨tp, p, h1⟩, tq, q, h2⟩ := h
  cases hp : Lib.parseIntB 64 s.data.toList with
  | ok v =>
    refine (strconv_ParseInt_10_at64_ok s (by omega) v hp w).mono ?_
    rintro e w' ⟨he, hw⟩
    refine ⟨v, _, he, fun m h0 h1 hm => ?_, ?_⟩
    · rw [hm, Opr.parse_itoa h0 h1] at hp; injection hp with hp; exact hp.symm
    · rcases hw with rfl | ⟨t, rfl⟩
      · exact Ext.refl _
      · exact Joins.below_bytesWorld _ w _ _ (Nat.le_refl _)
  | «syntax» =>
    refine (strconv_ParseInt_10_at64_syntax_var s (by omega) hp tp p w h1).mono ?_
    rintro e w' ⟨N, he, -, -, hb⟩
    exact ⟨_, _, he, (fun m h0 h1 hm => by rw [hm, Opr.parse_itoa h0 h1] at hp; cases hp), hb⟩
  | range =>
    refine (strconv_ParseInt_10_at64_range_var s (by omega) hp tq q w h2).mono ?_
    rintro e w' ⟨N, he, -, -, hb⟩
    exact ⟨_, _, he, (fun m h0 h1 hm => by rw [hm, Opr.parse_itoa h0 h1] at hp; cases hp), hb⟩
set_option maxHeartbeats 1000000 in
theorem readNumber_any (s : ByteArray) (w : World) (hs : s.size ≤ 1048576) (h : Es w) : Calls Tryz.prog 125 #[.string s] w fun e w' => ∃ n : Int, e = .returned (.int .i64 n) ∧ (∀ m : Int, 0 ≤ m → m ≤ 99999 → s.data.toList = Lib.itoa m → n = m) ∧ Ext w w' := by
  have HP : Hid (∀ wx : World, Ext w wx → Calls Tryz.prog 172 #[.string s, .int .i64 10, .int .i64 64] wx fun e w' => ∃ (n : Int) (u : Value), e = .returned (.tuple #[.int .i64 n, u]) ∧ (∀ m : Int, 0 ≤ m → m ≤ 99999 → s.data.toList = Lib.itoa m → n = m) ∧ Ext wx w') := fun wx he => parseInt_any s wx hs (h.ext he)
  clear h
  go_enter Tryz.func125, Tryz.ntmps125
  go_wp2_with fail
  refine (HP.out _ (Ext.refl _)).mono ?_
  rintro e w1 ⟨n, u, rfl, hn, hb⟩
  have HN : Hid _ := hn
  have HB : Hid (Ext w w1) := hb
  clear hb hn
  go_wp2
  go_ret
  exact ⟨n, rfl, HN.out, HB.out⟩
set_option maxHeartbeats 1000000 in
theorem readVersion_any (s : ByteArray) (w : World) (hs : s.size ≤ 1048576) (h : Es w) : Calls Tryz.prog 127 #[.string s] w fun e w' => ∃ n : Int, e = .returned (.int .i64 n) ∧ (∀ m : Int, -1 ≤ m → m ≤ 999 → s.data.toList = Opr.verT m → n = m) ∧ Ext w w' := by
  have HP : Hid (∀ wx : World, Ext w wx → Calls Tryz.prog 125 #[.string s] wx fun e w' => ∃ n : Int, e = .returned (.int .i64 n) ∧ (∀ m : Int, 0 ≤ m → m ≤ 99999 → s.data.toList = Lib.itoa m → n = m) ∧ Ext wx w') := fun wx he => readNumber_any s wx hs (h.ext he)
  clear h
  by_cases ha : s.data.toList = [97, 110, 121]
  · have hc : (s.toList == [97, 110, 121]) = true := by rw [Lib.toList_data]; simpa using ha
    have HQ : Hid (∀ m : Int, -1 ≤ m → m ≤ 999 → s.data.toList = Opr.verT m → (-1 : Int) = m) := by
      intro m h0 h1 hm
      unfold Opr.verT at hm
      split at hm
      · omega
      · rw [ha] at hm
        obtain ⟨q, rfl⟩ : ∃ q : Nat, m = (q : Int) := ⟨m.toNat, by omega⟩
        rw [Lib.itoa_nonneg] at hm
        have := Opr.dec_range q 97 (by rw [← hm]; decide)
        exact absurd this.2 (by decide)
    clear ha
    go_enter Tryz.func127, Tryz.ntmps127
    go_wp2
    go_ret
    exact ⟨-1, rfl, HQ.out, Ext.refl _⟩
  · have hc : (s.toList == [97, 110, 121]) = false := by rw [Lib.toList_data]; simpa using ha
    have HA : Hid (¬ s.data.toList = [97, 110, 121]) := ha
    clear ha
    go_enter Tryz.func127, Tryz.ntmps127
    go_wp2_with fail
    refine (HP.out _ (Ext.refl _)).mono ?_
    rintro e w1 ⟨n, rfl, hn, hb⟩
    have HN : Hid _ := hn
    have HB : Hid (Ext w w1) := hb
    clear hb hn
    go_wp2
    go_ret
    refine ⟨n, rfl, fun m h0 h1 hm => ?_, HB.out⟩
    unfold Opr.verT at hm
    split at hm
    · exact absurd hm HA.out
    · exact HN.out m (by omega) (by omega) hm
end Go.Proofs.YtdjnkchaapcjpaaGreatDoor
