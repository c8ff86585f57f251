/- W5, I2, I3, in one text. -/
import Derived.Test.YtilinjjimiiplaaGreatDoorKqJ12
import Derived.Test.YtilinjjimiiplaaGreatDoorKqJ8
import Derived.Test.YtilinjjimiiplaaGreatDoorKqJ9
namespace Go.Proofs.YtilinjjimiiplaaGreatDoor
open Go.RowKit
set_option maxHeartbeats 2000000 in
theorem parentOf_any (s : ByteArray) (w : World) (hg : Gd w) :
    Calls Tryz.prog 86 #[.string s] w fun e w' => e = .returned (tr (Pth.parentV s.data.toList)) ∧ Ext w w' := by
  have HG : Hid (Gd w) := hg
  clear hg
  rcases Pth.fault_cases s.data.toList with ⟨hm, hf⟩ | ⟨hm, hr, hf⟩ | ⟨hm, hf, n, la, hr⟩
  · rw [parentV_bad hf (by decide)]
    clear hf
    go_enter Tryz.func86, Tryz.ntmps86
    go_wp2_with fail
    refine (rp_many s _ hm).mono ?_
    rintro e w1 ⟨rfl, hb⟩
    have hz : w.heap.size + 1 ≤ w1.heap.size := by have := hb.size; simpa using this
    have HB : Hid (Ext (w.alloc (.cells #[.int .i64 0, .string ByteArray.empty] 119)) w1) := hb
    clear hb
    unfold rpMany
    go_wp2_with fail
    refine (code_err 2 _ (by exact ((HG.out.alloc _).ext HB.out).alloc _)).mono ?_
    rintro e w2 ⟨rfl, hb⟩
    have HB2 : Hid (Ext (w.alloc (.cells #[.int .i64 0, .string ByteArray.empty] 119)) w2) := (HB.out.alloc _).trans hb
    clear hb
    obtain ⟨hc, hf⟩ := Ext.cell HB2.out
    go_wp2
    exact bodyPost_ret (v := tr (2, [])) (by simp [results, Tryz.results86, go_sem, tr, hc, mkB]) rfl ⟨rfl, ((((Ext.refl w).alloc _).trans HB2.out).setCell (Nat.le_refl _) _).setCell (Nat.le_refl _) _⟩
  · rw [parentV_bad hf (by decide)]
    clear hf
    go_enter Tryz.func86, Tryz.ntmps86
    go_wp2_with fail
    refine (rp_none s _ hm hr).mono ?_
    rintro e w1 ⟨rfl, hb⟩
    have hz : w.heap.size + 1 ≤ w1.heap.size := by have := hb.size; simpa using this
    have HB : Hid (Ext (w.alloc (.cells #[.int .i64 0, .string ByteArray.empty] 119)) w1) := hb
    clear hb
    unfold rpText
    go_wp2_with fail
    refine (code_err 5 _ (by exact ((HG.out.alloc _).ext HB.out).alloc _)).mono ?_
    rintro e w2 ⟨rfl, hb⟩
    have HB2 : Hid (Ext (w.alloc (.cells #[.int .i64 0, .string ByteArray.empty] 119)) w2) := (HB.out.alloc _).trans hb
    clear hb
    obtain ⟨hc, hf⟩ := Ext.cell HB2.out
    go_wp2
    exact bodyPost_ret (v := tr (5, [])) (by simp [results, Tryz.results86, go_sem, tr, hc, mkB]) rfl ⟨rfl, ((((Ext.refl w).alloc _).trans HB2.out).setCell (Nat.le_refl _) _).setCell (Nat.le_refl _) _⟩
  · rcases Pth.rd_top _ _ _ hr with ⟨h1, h2, _⟩ | ⟨h1, h2, h3, h4, h6, h5⟩
    · have hv : Pth.parentV s.data.toList = (4, []) := by
        unfold Pth.parentV
        rw [hf, if_neg (by decide), if_pos h1]
      rw [hv]
      subst h2
      clear hv hf h1
      go_enter Tryz.func86, Tryz.ntmps86
      go_wp2_with fail
      refine (rp_some s _ 0 la hm hr).mono ?_
      rintro e w1 ⟨rfl, hb⟩
      have hz : w.heap.size + 1 ≤ w1.heap.size := by have := hb.size; simpa using this
      have HB : Hid (Ext (w.alloc (.cells #[.int .i64 0, .string ByteArray.empty] 119)) w1) := hb
      clear hb hr hm
      unfold rpShape
      obtain ⟨hc, hf⟩ := Ext.cell HB.out
      have hlt : w.heap.size < w1.heap.size := by omega
      have hal := alloc_cell
      have hfl := alloc_frozen
      go_wp2
      exact bodyPost_ret (v := tr (4, [])) (by simp [results, Tryz.results86, go_sem, tr, hc, mkB, hlt, hal]) rfl ⟨rfl, (((((Ext.refl w).alloc _).trans HB.out).setCell (Nat.le_refl _) _).setCell (Nat.le_refl _) _).alloc _⟩
    · by_cases h7 : n = 1
      · have hv : Pth.parentV s.data.toList = (0, [47]) := by
          unfold Pth.parentV
          rw [hf, if_neg (by decide), if_neg h1, if_pos (h6.1 h7)]
        rw [hv]
        subst h7
        clear hv hf h1 h2 h4 h5 h6
        go_enter Tryz.func86, Tryz.ntmps86
        go_wp2_with fail
        refine (rp_some s _ 1 la hm hr).mono ?_
        rintro e w1 ⟨rfl, hb⟩
        have hz : w.heap.size + 1 ≤ w1.heap.size := by have := hb.size; simpa using this
        have HB : Hid (Ext (w.alloc (.cells #[.int .i64 0, .string ByteArray.empty] 119)) w1) := hb
        clear hb hr hm
        unfold rpShape
        obtain ⟨hc, hf⟩ := Ext.cell HB.out
        have hlt : w.heap.size < w1.heap.size := by omega
        have hal := alloc_cell
        have hfl := alloc_frozen
        go_wp2
        exact bodyPost_ret (v := tr (0, [47])) (by simp [results, Tryz.results86, go_sem, tr, hc, mkB, hlt, hal]) rfl ⟨rfl, (((((Ext.refl w).alloc _).trans HB.out).setCell (Nat.le_refl _) _).setCell (Nat.le_refl _) _).alloc _⟩
      · have h8 : ¬ Pth.lastSl s.data.toList 0 0 = 0 := fun x => h7 (h6.2 x)
        have hv : Pth.parentV s.data.toList = (0, s.data.toList.take (la - 1)) := by
          unfold Pth.parentV
          rw [hf, if_neg (by decide), if_neg h1, if_neg h8, h4]
          simp
        have hx : s.extract 0 (la - 1) = mkB (s.data.toList.take (la - 1)) := eq_mkB (by
          rw [extract_list]; simp)
        rw [hv]
        have HX : Hid (s.extract 0 (la - 1) = mkB (s.data.toList.take (la - 1))) := hx
        have hla : la ≤ s.size := h5
        have hla1 : 1 ≤ la := by omega
        have hn : ((n : Int) == 0) = false := by simp; omega
        have hn1 : ((n : Int) == 1) = false := by simp; omega
        have h24 : s.size ≤ 24 := by
          unfold Pth.many at hm
          simp only [Bool.or_eq_false_iff, decide_eq_false_iff_not, len_eq] at hm
          omega
        have hxs : (s.extract 0 (la - 1)).size ≤ 1048576 := by simp [ByteArray.size_extract]; omega
        clear hv hf h1 h2 h4 h5 h6 h8 hx
        go_enter Tryz.func86, Tryz.ntmps86
        go_wp2_with fail
        refine (rp_some s _ n la hm hr).mono ?_
        rintro e w1 ⟨rfl, hb⟩
        have hz : w.heap.size + 1 ≤ w1.heap.size := by have := hb.size; simpa using this
        have HB : Hid (Ext (w.alloc (.cells #[.int .i64 0, .string ByteArray.empty] 119)) w1) := hb
        clear hb hr hm
        unfold rpShape
        obtain ⟨hc, hf⟩ := Ext.cell HB.out
        have hlt : w.heap.size < w1.heap.size := by omega
        have hal := alloc_cell
        have hfl := alloc_frozen
        go_wp2_with fail
        refine (clone_any (s.extract 0 (la - 1)) _ hxs).mono ?_
        rintro e w2 ⟨rfl, hb⟩
        have HB2 : Hid (Ext (w.alloc (.cells #[.int .i64 0, .string ByteArray.empty] 119)) w2) := (HB.out.alloc _).trans hb
        clear hb hc hf
        rw [HX.out]
        obtain ⟨hc, hf⟩ := Ext.cell HB2.out
        go_wp2
        exact bodyPost_ret (v := tr (0, s.data.toList.take (la - 1))) (by simp [results, Tryz.results86, go_sem, tr, hc]) rfl ⟨rfl, ((((Ext.refl w).alloc _).trans HB2.out).setCell (Nat.le_refl _) _).setCell (Nat.le_refl _) _⟩
end Go.Proofs.YtilinjjimiiplaaGreatDoor
namespace Go.Proofs.YtilinjjimiiplaaGreatDoor
open Go.RowKit
theorem fieldT_text (c : Int) (t : ByteArray) (w : World) : (Instr.field 119 (.agg #[.int .i64 c, .string t]) 1).run Tryz.prog w = .ok (.string t) w := by kernel_rfl
/-- The address of the node of path p, or nil. -/
def ptrV (b off : Nat) (zs : List Zn) (p : ByteArray) : Value := if Tre.has zs p = true then .pointer (some ⟨b, off + Tre.cut zs p.data.toList * 5, none⟩) else .pointer none
theorem ptrV_hit {b off : Nat} {zs : List Zn} {p : ByteArray} {k : Nat} (h : Tre.has zs p = true) (hk : Tre.cut zs p.data.toList = k) : ptrV b off zs p = .pointer (some ⟨b, off + k * 5, none⟩) := by unfold ptrV; rw [if_pos h, hk]
theorem ptrV_miss {b off : Nat} {zs : List Zn} {p : ByteArray} (h : Tre.has zs p = false) : ptrV b off zs p = .pointer none := by unfold ptrV; rw [if_neg (by rw [h]; simp)]
set_option maxHeartbeats 1000000 in
theorem findNode_any (b off cap : Nat) (zs : List Zn) (p : ByteArray) (w : World) (hS : NSlice w (.slice (some ⟨b, off, none⟩) zs.length cap) zs) (hU : Tre.Up zs) (hl : zs.length ≤ 1048576) :
    Calls Tryz.prog 72 #[.slice (some ⟨b, off, none⟩) zs.length cap, .string p] w fun e w' => e = .returned (ptrV b off zs p) ∧ Ext w w' := by
  have HL : Hid (∀ wx : World, Ext w wx → Calls Tryz.prog 17 #[.slice (some ⟨b, off, none⟩) zs.length cap, .string p] wx fun e w' => e = .returned (.tuple #[.int .i64 (Tre.cut zs p.data.toList : Nat), .bool (Tre.has zs p)]) ∧ Ext wx w') := fun wx h => placeOf_any _ zs p wx (hS.ext h) hU hl
  cases hh : Tre.has zs p with
  | true =>
    obtain ⟨z, -, hz, -⟩ := Tre.has_at hU hh
    have hk := (List.getElem?_eq_some_iff.1 hz).1
    rw [ptrV_hit hh rfl]
    rw [hh] at HL
    clear hz hU
    generalize Tre.cut zs p.data.toList = k at *
    go_enter Tryz.func72, Tryz.ntmps72
    go_wp2_with fail
    refine (HL.out _ (Ext.refl _)).mono ?_
    rintro e w2 ⟨rfl, hb⟩
    have HB : Hid (Ext w w2) := hb
    clear hb
    go_wp2
    go_ret
    exact ⟨rfl, HB.out⟩
  | false =>
    rw [ptrV_miss hh]
    rw [hh] at HL
    clear hU
    generalize Tre.cut zs p.data.toList = k at *
    go_enter Tryz.func72, Tryz.ntmps72
    go_wp2_with fail
    refine (HL.out _ (Ext.refl _)).mono ?_
    rintro e w2 ⟨rfl, hb⟩
    have HB : Hid (Ext w w2) := hb
    clear hb
    go_wp2
    go_ret
    exact ⟨rfl, HB.out⟩

namespace Tre
theorem parentV_ok {p : ByteArray} (h : Pth.faultI p.data.toList = 0) (ht : ¬ p.data.toList = [47]) : Pth.parentV p.data.toList = (0, (par p).data.toList) := by
  unfold Pth.parentV par; rw [h, if_neg (by simp), if_neg ht, mkB_list]
theorem mkB_data (p : ByteArray) : mkB p.data.toList = p := by unfold mkB; simp
end Tre
set_option maxHeartbeats 1000000 in
set_option maxRecDepth 100000 in
theorem findParent_any (b off cap : Nat) (zs : List Zn) (p : ByteArray) (w : World) (hg : Gd w) (hp : Pth.faultI p.data.toList = 0) (ht : ¬ p.data.toList = [47]) (hS : NSlice w (.slice (some ⟨b, off, none⟩) zs.length cap) zs) (hU : Tre.Up zs) (hl : zs.length ≤ 1048576) :
    Calls Tryz.prog 73 #[.slice (some ⟨b, off, none⟩) zs.length cap, .string p] w fun e w' => e = .returned (ptrV b off zs (Tre.par p)) ∧ Ext w w' := by
  have HL : Hid (∀ wx : World, Ext w wx → Calls Tryz.prog 72 #[.slice (some ⟨b, off, none⟩) zs.length cap, .string (Tre.par p)] wx fun e w' => e = .returned (ptrV b off zs (Tre.par p)) ∧ Ext wx w') := fun wx h => findNode_any b off cap zs (Tre.par p) wx (hS.ext h) hU hl
  have HP : Hid (Calls Tryz.prog 86 #[.string p] w fun e w' => e = .returned (tr (0, (Tre.par p).data.toList)) ∧ Ext w w') := by
    have := parentOf_any p w hg; rw [Tre.parentV_ok hp ht] at this; exact this
  unfold tr at HP
  simp only [Tre.mkB_data] at HP
  obtain ⟨q, hq⟩ : ∃ q, ptrV b off zs (Tre.par p) = .pointer q := by
    cases hh : Tre.has zs (Tre.par p) with
    | true => exact ⟨_, ptrV_hit hh rfl⟩
    | false => exact ⟨_, ptrV_miss hh⟩
  rw [hq] at HL ⊢
  clear hq
  generalize Tre.par p = pp at *
  have hft := fieldT_text
  go_enter Tryz.func73, Tryz.ntmps73
  go_wp2_with fail
  refine HP.out.mono ?_
  rintro e w2 ⟨rfl, hb⟩
  have HB : Hid (Ext w w2) := hb
  clear hb
  go_wp2_with fail
  refine (HL.out _ ?_).mono ?_
  · first | exact HB.out | exact HB.out.alloc _
  rintro e w3 ⟨rfl, hb⟩
  have HB3 : Hid (Ext w w3) := by first | exact HB.out.trans hb | exact (HB.out.alloc _).trans hb
  clear hb
  go_wp2
  go_ret
  exact ⟨rfl, HB3.out⟩
end Go.Proofs.YtilinjjimiiplaaGreatDoor
namespace Go.Proofs.YtilinjjimiiplaaGreatDoor
open Go.RowKit
set_option maxHeartbeats 1000000 in
set_option maxRecDepth 100000 in
theorem hasBounds_any (b o : Nat) (z : Zn) (w : World) (d1 : w.cell? ⟨b, o + 1, none⟩ = some (.int .i64 z.data)) (d2 : w.cell? ⟨b, o + 2, none⟩ = some (.int .i64 z.version)) (d3 : w.cell? ⟨b, o + 3, none⟩ = some (.int .i64 z.owner)) (d4 : w.cell? ⟨b, o + 4, none⟩ = some (.int .i64 z.next)) :
    Calls Tryz.prog 35 #[.pointer (some ⟨b, o, none⟩)] w fun e w' => e = .returned (.bool (Tre.okNums z)) ∧ Ext w w' := by
  have C1 : Hid (∀ wx, Calls Tryz.prog 61 #[.int .i64 z.data, .int .i64 9999] wx fun e w' => e = .returned (.bool (decide (0 ≤ z.data) && decide (z.data ≤ 9999))) ∧ w' = wx) := isUpTo_any z.data 9999
  have C2 : Hid (∀ wx, Calls Tryz.prog 61 #[.int .i64 z.version, .int .i64 999] wx fun e w' => e = .returned (.bool (decide (0 ≤ z.version) && decide (z.version ≤ 999))) ∧ w' = wx) := isUpTo_any z.version 999
  have C3 : Hid (∀ wx, Calls Tryz.prog 61 #[.int .i64 z.owner, .int .i64 9] wx fun e w' => e = .returned (.bool (decide (0 ≤ z.owner) && decide (z.owner ≤ 9))) ∧ w' = wx) := isUpTo_any z.owner 9
  have C4 : Hid (∀ wx, Calls Tryz.prog 61 #[.int .i64 z.next, .int .i64 100] wx fun e w' => e = .returned (.bool (decide (0 ≤ z.next) && decide (z.next ≤ 100))) ∧ w' = wx) := isUpTo_any z.next 100
  unfold Tre.okNums
  cases hb1 : (decide (0 ≤ z.data) && decide (z.data ≤ 9999)) with
  | false =>
    rw [hb1] at C1
    rw [Bool.false_and]
    clear hb1
    go_enter Tryz.func35, Tryz.ntmps35
    go_wp2_with fail
    refine (C1.out _).mono ?_
    rintro e w3 ⟨rfl, rfl⟩
    go_wp2
    go_ret
    exact ⟨rfl, Ext.refl _⟩
  | true =>
  rw [hb1] at C1
  cases hb2 : (decide (0 ≤ z.version) && decide (z.version ≤ 999)) with
  | false =>
    rw [hb2] at C2
    rw [Bool.false_and, Bool.and_false]
    clear hb1 hb2
    go_enter Tryz.func35, Tryz.ntmps35
    go_wp2_with fail
    refine (C1.out _).mono ?_
    rintro e w3 ⟨rfl, rfl⟩
    go_wp2_with fail
    refine (C2.out _).mono ?_
    rintro e w3 ⟨rfl, rfl⟩
    go_wp2
    go_ret
    exact ⟨rfl, Ext.refl _⟩
  | true =>
  rw [hb2] at C2
  cases hb3 : (decide (0 ≤ z.owner) && decide (z.owner ≤ 9)) with
  | false =>
    rw [hb3] at C3
    rw [Bool.false_and, Bool.and_false, Bool.and_false]
    clear hb1 hb2 hb3
    go_enter Tryz.func35, Tryz.ntmps35
    go_wp2_with fail
    refine (C1.out _).mono ?_
    rintro e w3 ⟨rfl, rfl⟩
    go_wp2_with fail
    refine (C2.out _).mono ?_
    rintro e w3 ⟨rfl, rfl⟩
    go_wp2_with fail
    refine (C3.out _).mono ?_
    rintro e w3 ⟨rfl, rfl⟩
    go_wp2
    go_ret
    exact ⟨rfl, Ext.refl _⟩
  | true =>
  rw [hb3] at C3
  rw [Bool.true_and, Bool.true_and, Bool.true_and]
  clear hb1 hb2 hb3
  generalize (decide (0 ≤ z.next) && decide (z.next ≤ 100)) = B at *
  go_enter Tryz.func35, Tryz.ntmps35
  go_wp2_with fail
  refine (C1.out _).mono ?_
  rintro e w3 ⟨rfl, rfl⟩
  go_wp2_with fail
  refine (C2.out _).mono ?_
  rintro e w3 ⟨rfl, rfl⟩
  go_wp2_with fail
  refine (C3.out _).mono ?_
  rintro e w3 ⟨rfl, rfl⟩
  go_wp2_with fail
  refine (C4.out _).mono ?_
  rintro e w3 ⟨rfl, rfl⟩
  go_wp2
  go_ret
  exact ⟨rfl, Ext.refl _⟩

set_option maxHeartbeats 2000000 in
set_option maxRecDepth 100000 in
theorem nodeFault_any (b off k : Nat) (zs : List Zn) (z : Zn) (ah : Option Addr) (w : World) (hg : Gd w) (hb : b < w.heap.size) (hN : NodesAt w b off zs) (hz : zs[k]? = some z) (ha : (k = 0 ∧ ah = none) ∨ ∃ m, k = m + 1 ∧ ah = some ⟨b, off + m * 5, none⟩) :
    Calls Tryz.prog 51 #[.pointer (some ⟨b, off + k * 5, none⟩), .pointer ah] w fun e w' => e = .returned (.int .i64 (Tre.nodeC zs k)) ∧ Ext w w' := by
  obtain ⟨R, hR⟩ : ∃ R, R = Tre.nodeC zs k := ⟨_, rfl⟩
  have HR : Hid (R = Tre.nodeC zs k) := hR
  rw [← hR]
  clear hR
  have HN : Hid (b < w.heap.size ∧ NodesAt w b off zs) := ⟨hb, hN⟩
  have HZ : Hid (zs[k]? = some z) := hz
  have HP := pathFault_any z.path w hg
  have HB := hasBounds_any b (off + k * 5) z
  obtain ⟨d0, d1, d2, d3, d4⟩ := hN k z hz
  obtain ⟨c, hc⟩ : ∃ c, c = Pth.faultI z.path.data.toList := ⟨_, rfl⟩
  have HC : Hid (c = Pth.faultI z.path.data.toList) := hc
  rw [← hc] at HP
  have HP1 : Hid (Calls Tryz.prog 34 #[.string z.path] w fun e w' => e = .returned (.int .i64 c) ∧ Ext w w') := HP
  have HB1 : Hid (∀ wx : World, Ext w wx → Calls Tryz.prog 35 #[.pointer (some ⟨b, off + k * 5, none⟩)] wx fun e w' => e = .returned (.bool (Tre.okNums z)) ∧ Ext wx w') := fun wx h => by
    obtain ⟨-, e1, e2, e3, e4⟩ := HN.out.2.ext HN.out.1 h k z HZ.out
    exact HB wx e1 e2 e3 e4
  have HD : Hid (∀ wx : World, Ext w wx → wx.cell? ⟨b, off + k * 5, none⟩ = some (.string z.path)) := fun wx h => (HN.out.2.ext HN.out.1 h k z HZ.out).1
  obtain ⟨o, ho⟩ : ∃ o, o = off + k * 5 := ⟨_, rfl⟩
  rw [← ho] at HD HB1 d0 ⊢
  clear ho
  clear hc hN hb hz HP HB d1 d2 d3 d4
  by_cases hc0 : c ≠ 0
  · have HF : Hid (R = c) := HR.out.trans (Tre.nodeC_path HZ.out HC.out hc0)
    go_enter Tryz.func51, Tryz.ntmps51
    go_wp2_with fail
    refine HP1.out.mono ?_
    rintro e w2 ⟨rfl, hb⟩
    have HE : Hid (Ext w w2) := hb
    clear hb
    go_wp2
    go_ret
    exact ⟨ret_int HF.out.symm, HE.out⟩
  have hc1 : c = 0 := by omega
  subst hc1
  clear hc0
  cases hn : Tre.okNums z with
  | false =>
    have HF : Hid (R = 3) := HR.out.trans (Tre.nodeC_nums HZ.out HC.out hn)
    rw [hn] at HB1
    clear hn
    go_enter Tryz.func51, Tryz.ntmps51
    go_wp2_with fail
    refine HP1.out.mono ?_
    rintro e w2 ⟨rfl, hb⟩
    have HE : Hid (Ext w w2) := hb
    clear hb
    go_wp2_with fail
    refine (HB1.out _ HE.out).mono ?_
    rintro e w3 ⟨rfl, hb⟩
    have HE3 : Hid (Ext w w3) := HE.out.trans hb
    clear hb
    go_wp2
    go_ret
    exact ⟨ret_int HF.out.symm, HE3.out⟩
  | true =>
    rw [hn] at HB1
    rcases ha with ⟨rfl, rfl⟩ | ⟨m, rfl, rfl⟩
    · have HF : Hid (R = 0) := HR.out.trans (Tre.nodeC_zero HZ.out HC.out hn)
      clear hn
      go_enter Tryz.func51, Tryz.ntmps51
      go_wp2_with fail
      refine HP1.out.mono ?_
      rintro e w2 ⟨rfl, hb⟩
      have HE : Hid (Ext w w2) := hb
      clear hb
      go_wp2_with fail
      refine (HB1.out _ HE.out).mono ?_
      rintro e w3 ⟨rfl, hb⟩
      have HE3 : Hid (Ext w w3) := HE.out.trans hb
      clear hb
      go_wp2
      go_region
      all_goals go_wp2
      go_ret
      exact ⟨ret_int HF.out.symm, HE3.out.drew⟩
    · obtain ⟨y, hy⟩ : ∃ y, zs[m]? = some y := ⟨_, List.getElem?_eq_getElem (by have := (List.getElem?_eq_some_iff.1 HZ.out).1; omega)⟩
      have HN2 := Tre.nodeC_succ HZ.out hy HC.out hn
      have HY : Hid (zs[m]? = some y) := hy
      have HU : Hid (Op.bytesLess z.path.toList y.path.toList = true ∨ (z.path.toList == y.path.toList) = true → R = 1) := by
        intro h; rw [HR.out, HN2, if_pos]; unfold Tre.notUp; rcases h with h | h <;> rw [h] <;> simp
      have HV0 : Hid (Op.bytesLess z.path.toList y.path.toList = false ∧ (z.path.toList == y.path.toList) = false → R = 0) := by
        intro h; rw [HR.out, HN2, if_neg]; unfold Tre.notUp; rw [h.1, h.2]; simp
      have HD2 : Hid (∀ wx : World, Ext w wx → wx.cell? ⟨b, off + m * 5, none⟩ = some (.string y.path)) := fun wx h => (HN.out.2.ext HN.out.1 h m y HY.out).1
      generalize off + m * 5 = o2 at *
      clear hn hy HN2
      go_enter Tryz.func51, Tryz.ntmps51
      go_wp2_with fail
      refine HP1.out.mono ?_
      rintro e w2 ⟨rfl, hb⟩
      have HE : Hid (Ext w w2) := hb
      clear hb
      go_wp2_with fail
      refine (HB1.out _ HE.out).mono ?_
      rintro e w3 ⟨rfl, hb⟩
      have HE3 : Hid (Ext w w3) := HE.out.trans hb
      clear hb d0
      have d0 := HD.out _ HE3.out
      have e0 := HD2.out _ HE3.out
      go_wp2
      go_region
      all_goals go_wp2
      · go_ret
        exact ⟨ret_int (HU.out (by assumption)).symm, HE3.out.drew⟩
      · go_ret
        exact ⟨ret_int (HV0.out (by assumption)).symm, HE3.out.drew⟩
end Go.Proofs.YtilinjjimiiplaaGreatDoor
