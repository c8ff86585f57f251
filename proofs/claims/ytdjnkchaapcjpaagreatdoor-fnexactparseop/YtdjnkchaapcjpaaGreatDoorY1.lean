/- the specification's l1Cut at a blank. -/
import Derived.Test.YtdjnkchaapcjpaaGreatDoorS2
import Derived.Test.YtdjnkchaapcjpaaGreatDoorX1
namespace Go.Proofs.YtdjnkchaapcjpaaGreatDoor
open Go.RowKit
def Opr.cutB : List UInt8 → List UInt8 → List (List UInt8)
  | cur, [] => [cur]
  | cur, c :: r => if c = 32 then cur :: cutB [] r else cutB (cur ++ [c]) r
theorem Opr.cutB_sl (cur r : List UInt8) : Opr.cutB cur ((32 : UInt8) :: r) = cur :: Opr.cutB [] r := by rw [Opr.cutB, if_pos rfl]
theorem Opr.cutB_ne (cur : List UInt8) (c : UInt8) (r : List UInt8) (h : ¬ c = 32) : Opr.cutB cur (c :: r) = Opr.cutB (cur ++ [c]) r := by rw [Opr.cutB, if_neg h]
theorem Opr.cutB_length (l : List UInt8) : ∀ cur, (Opr.cutB cur l).length = l.count 32 + 1 := by
  induction l with
  | nil => intro cur; simp [Opr.cutB]
  | cons c r ih =>
    intro cur
    by_cases h : c = 32
    · subst h; rw [Opr.cutB_sl]; simp [ih]
    · have h2 : ¬ (c == 32) = true := by simpa using h
      rw [Opr.cutB_ne _ _ _ h, ih, List.count_cons, if_neg h2]
theorem Opr.cutB_none : ∀ (x cur : List UInt8), (32 : UInt8) ∉ x → Opr.cutB cur x = [cur ++ x]
  | [], cur, _ => by simp [Opr.cutB]
  | c :: r, cur, h => by
    rw [Opr.cutB_ne _ _ _ (fun e => h (by rw [e]; exact List.mem_cons_self)), Opr.cutB_none r _ (fun e => h (List.mem_cons_of_mem _ e))]; simp
theorem Opr.cutB_at (t : List UInt8) : ∀ (x cur : List UInt8), (32 : UInt8) ∉ x → Opr.cutB cur (x ++ 32 :: t) = (cur ++ x) :: Opr.cutB [] t
  | [], cur, _ => by simp [Opr.cutB_sl]
  | c :: r, cur, h => by
    rw [List.cons_append, Opr.cutB_ne _ _ _ (fun e => h (by rw [e]; exact List.mem_cons_self)), Opr.cutB_at t r _ (fun e => h (List.mem_cons_of_mem _ e))]; simp
theorem Opr.cutB_join : ∀ ws : List (List UInt8), ws ≠ [] → (∀ x ∈ ws, (32 : UInt8) ∉ x) → Opr.cutB [] (Lib.join ws [32]) = ws
  | [], h, _ => absurd rfl h
  | [x], _, h => by rw [Lib.join_one, Opr.cutB_none x [] (h x List.mem_cons_self)]; rfl
  | x :: y :: t, _, h => by
    rw [join_two, Opr.cutB_at _ x [] (h x List.mem_cons_self), Opr.cutB_join (y :: t) (by simp) (fun z hz => h z (List.mem_cons_of_mem _ hz))]; rfl
/-- Of an operation's text the pieces are its words. -/
theorem Opr.cut_text {z : Opn} (hf : Opr.fault z = 0) {l : List UInt8} (hs : l = Opr.text z) : Opr.cutB [] l = Opr.words z := by
  rw [hs]; exact Opr.cutB_join _ (Opr.words_ne z) (Opr.words_blank hf)
/-- Where the pieces stand behind a round. -/
def CutBl (l : List UInt8) (ps : List ByteArray) (f k : Nat) : Prop :=
  f ≤ k ∧ ps.length ≤ k ∧ ps.map (·.data.toList) ++ (if k ≤ l.length then Opr.cutB ((l.drop f).take (k - f)) (l.drop k) else []) = Opr.cutB [] l
theorem cutBl_start (l : List UInt8) : CutBl l [] 0 0 := ⟨by omega, by simp, by simp⟩
theorem cutBl_on (s : ByteArray) (ps : List ByteArray) (f k : Nat) (h : k < s.size) (hne : ¬ s[k] = 32) (hc : CutBl s.data.toList ps f k) : CutBl s.data.toList ps f (k + 1) := by
  obtain ⟨a, b, c⟩ := hc
  refine ⟨by omega, by omega, ?_⟩
  rw [← c, if_pos (by rw [len_eq]; omega), if_pos (by rw [len_eq]; omega), drop_at s k h, Opr.cutB_ne _ _ _ hne]
  congr 2
  have e : k + 1 - f = (k - f) + 1 := by omega
  rw [e, List.take_succ_eq_append_getElem (by simp; omega)]
  congr 1
  simp only [List.getElem_drop]
  congr 1
  have : f + (k - f) = k := by omega
  simp only [this]
  rfl
theorem cutBl_piece (s : ByteArray) (ps : List ByteArray) (f k : Nat) (h : k < s.size) (h32 : s[k] = 32) (hc : CutBl s.data.toList ps f k) : CutBl s.data.toList (ps ++ [s.extract f k]) (k + 1) (k + 1) := by
  obtain ⟨a, b, c⟩ := hc
  refine ⟨by omega, by simp; omega, ?_⟩
  rw [← c, if_pos (by rw [len_eq]; omega), if_pos (by rw [len_eq]; omega), drop_at s k h, h32, Opr.cutB_sl, Nat.sub_self]
  simp
theorem cutBl_last (s : ByteArray) (ps : List ByteArray) (f : Nat) (hc : CutBl s.data.toList ps f s.size) : CutBl s.data.toList (ps ++ [s.extract f s.size]) (s.size + 1) (s.size + 1) := by
  obtain ⟨a, b, c⟩ := hc
  refine ⟨by omega, by simp; omega, ?_⟩
  rw [← c, if_neg (by rw [len_eq]; omega), if_pos (by rw [len_eq]; omega), List.drop_of_length_le (i := s.size) (by rw [len_eq]; omega), Opr.cutB]
  simp
theorem cutBl_end (s : ByteArray) (ps : List ByteArray) (f : Nat) (hc : CutBl s.data.toList ps f (s.size + 1)) : ps.map (·.data.toList) = Opr.cutB [] s.data.toList := by
  obtain ⟨a, b, c⟩ := hc
  rw [← c, if_neg (by rw [len_eq]; omega)]
  simp
set_option maxHeartbeats 2000000 in
set_option maxRecDepth 100000 in
theorem l1CutB_any (s : ByteArray) (w : World) (hs : s.size ≤ 1048576) :
    Calls Tryz.prog 118 #[.string s, .int .u8 32] w fun e w' => ∃ v ps, e = .returned v ∧ Txts w' v ps ∧ ps.map (·.data.toList) = Opr.cutB [] s.data.toList ∧ Ext w w' := by
  have hi9 : (Tryz.prog.info? 9).map (fun i => (i.zero, i.size, i.bytes)) = some (some (.string ByteArray.empty), 1, 16) := by kernel_rfl
  obtain ⟨i0, hi, hx⟩ := Option.map_eq_some_iff.1 hi9
  simp only [Prod.mk.injEq] at hx
  obtain ⟨hz0, hz1, hz2⟩ := hx
  clear hi9
  go_enter Tryz.func118, Tryz.ntmps118
  go_wp2
  go_loopw [5, 6, 7] (fun v fr i wr => ∃ (k f : Nat) (ps : List ByteArray), k ≤ s.size + 1 ∧ i = .int .i64 k ∧ fr = .int .i64 f ∧ Hid (wr.ownsRow w.heap.size 9 1 v ps.length (ps.map Value.string)) ∧ CutBl s.data.toList ps f k ∧ Hid (Below w.heap.size w wr))
    (fun _ _ i _ => s.size + 1 - (intOf i).toNat)
  case atStart =>
    refine ⟨0, 0, [], by omega, rfl, rfl, ?_, cutBl_start _, (Below.refl _ _).alloc (Nat.le_refl _) _⟩
    exact World.ownsRow_made w #[] 0 (Nat.le_refl _) (by unfold maxLen; omega) rfl
  case round =>
    obtain ⟨k, f, ps, hk, rfl, rfl, HO, hc, HB⟩ := hrel
    have hfk : f ≤ k := hc.1
    have hpk : ps.length ≤ k := hc.2.1
    by_cases h1 : k ≤ s.size
    · by_cases h2 : k = s.size
      · subst h2
        have hle : ps.length ≤ 1048576 := by omega
        go_wp2_with (at_builtin; go_must (refine wpList_append_own _ rfl _ _ 115 rfl w.heap.size 9 i0 (.string ByteArray.empty) 1 16 Tryz.underlying115 hi hz0 hz1 hz2 rfl (by decide) _ _ _ rfl (HO.out.alloc _) ⟨wr.heap.size, 0, none⟩ 1 1 [.string (s.extract f s.size)] rfl rfl (cell_one_new _ _ _) (fun x hx => by simp at hx; subst hx; rfl) (by unfold maxLen; omega) (by omega) (by have := HB.out.size; simp; omega) ?_; intro v' w3 hown' hgrow3 hnil3))
        refine ⟨⟨s.size + 1, s.size + 1, ps ++ [s.extract f s.size], by omega, by go_num, by go_num, ?_, cutBl_last s ps f hc, (HB.out.alloc HB.out.size _).grown hgrow3 (by have := HB.out.size; simp; omega) (fun q hq => (HO.out.lt q hq).1)⟩, by simp [intOf]⟩
        show w3.ownsRow _ _ _ _ _ _
        rw [List.map_append, List.length_append]
        exact hown'
      · have h3 : k < s.size := by omega
        have e1 : ((k : Int) == (s.size : Int)) = false := by simp; omega
        by_cases h4 : s[k] = 32
        · have hle : ps.length ≤ 1048576 := by omega
          go_wp2_with (at_builtin; go_must (refine wpList_append_own _ rfl _ _ 115 rfl w.heap.size 9 i0 (.string ByteArray.empty) 1 16 Tryz.underlying115 hi hz0 hz1 hz2 rfl (by decide) _ _ _ rfl (HO.out.alloc _) ⟨wr.heap.size, 0, none⟩ 1 1 [.string (s.extract f k)] rfl rfl (cell_one_new _ _ _) (fun x hx => by simp at hx; subst hx; rfl) (by unfold maxLen; omega) (by omega) (by have := HB.out.size; simp; omega) ?_; intro v' w3 hown' hgrow3 hnil3))
          refine ⟨⟨k + 1, k + 1, ps ++ [s.extract f k], by omega, by go_num, by go_num, ?_, cutBl_piece s ps f k h3 h4 hc, (HB.out.alloc HB.out.size _).grown hgrow3 (by have := HB.out.size; simp; omega) (fun q hq => (HO.out.lt q hq).1)⟩, by simp [intOf]; omega⟩
          show w3.ownsRow _ _ _ _ _ _
          rw [List.map_append, List.length_append]
          exact hown'
        · have e4 : ((s[k].toNat : Int) == 32) = false := by
            rw [beq_eq_false_iff_ne]; intro x; apply h4; apply UInt8.toNat_inj.1; show s[k].toNat = 32; omega
          go_wp2
          exact ⟨⟨k + 1, f, ps, by omega, by go_num, rfl, HO, cutBl_on s ps f k h3 h4 hc, HB⟩, by simp [intOf]; omega⟩
    · have h2 : k = s.size + 1 := by omega
      subst h2
      have HE : Hid (ps.map (·.data.toList) = Opr.cutB [] s.data.toList) := cutBl_end s ps f hc
      go_wp2
      go_ret
      refine ⟨_, ps, rfl, txts_of_owns HO.out ?_, HE.out, HB.out⟩
      intro e
      have h3 := Opr.cutB_length s.data.toList []
      rw [← HE.out, e] at h3
      simp at h3

end Go.Proofs.YtdjnkchaapcjpaaGreatDoor
