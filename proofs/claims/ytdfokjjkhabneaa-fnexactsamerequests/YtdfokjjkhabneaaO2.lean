/- SameRequests: the specification's and the program's (with slices.Equal at operations). -/
import Derived.Test.YtdfokjjkhabneaaO1
namespace Go.Proofs.Ytdfokjjkhabneaa
open Go.RowKit
namespace Opr
def same (zs ys : List Opn) : Bool := decide (zs = ys)
theorem op_eq {z y : Opn} (h0 : z.kind = y.kind) (h1 : z.path.toList = y.path.toList) (h2 : z.data = y.data) (h3 : z.version = y.version) (h4 : z.seq = y.seq) (h5 : z.own = y.own) : z = y := by
  cases z; cases y
  simp only at h0 h1 h2 h3 h4 h5
  rw [Lib.toList_data, Lib.toList_data] at h1
  rw [ba_eq h1, h0, h2, h3, h4, h5]
theorem same_len {zs ys : List Opn} (h : ¬ zs.length = ys.length) : same zs ys = false := by
  unfold same; rw [decide_eq_false_iff_not]; intro e; exact h (by rw [e])
theorem same_ne {zs ys : List Opn} {k : Nat} {z y : Opn} (hz : zs[k]? = some z) (hy : ys[k]? = some y) (h : ¬ z = y) : same zs ys = false := by
  unfold same; rw [decide_eq_false_iff_not]; intro e; subst e; rw [hz] at hy; cases hy; exact h rfl
theorem same_all {zs ys : List Opn} (hl : zs.length = ys.length) (h : ∀ j, j < zs.length → zs[j]? = ys[j]?) : same zs ys = true := by
  unfold same; rw [decide_eq_true_iff]
  apply List.ext_getElem?
  intro j
  by_cases hj : j < zs.length
  · exact h j hj
  · rw [List.getElem?_eq_none (by omega), List.getElem?_eq_none (by omega)]
def sameR (r q : Rq) : Bool := decide (r.client = q.client) && (decide (r.number = q.number) && (decide (r.time = q.time) && same r.ops q.ops))
theorem sameR_0 {r q : Rq} (h : ¬ r.client = q.client) : sameR r q = false := by unfold sameR; simp [h]
theorem sameR_1 {r q : Rq} (h : ¬ r.number = q.number) : sameR r q = false := by unfold sameR; simp [h]
theorem sameR_2 {r q : Rq} (h : ¬ r.time = q.time) : sameR r q = false := by unfold sameR; simp [h]
theorem sameR_3 {r q : Rq} (h : same r.ops q.ops = false) : sameR r q = false := by unfold sameR; simp [h]
theorem sameR_4 {r q : Rq} (h0 : r.client = q.client) (h1 : r.number = q.number) (h2 : r.time = q.time) (b : Bool) (h : same r.ops q.ops = b) : sameR r q = b := by unfold sameR; simp [h0, h1, h2, h]
end Opr

set_option maxHeartbeats 2000000 in
set_option maxRecDepth 100000 in
theorem opsEqual_any (v v' : Value) (zs ys : List Opn) (w : World) (hS : OSlice w v zs) (hS' : OSlice w v' ys) :
    Calls Try.prog 11 #[v, v'] w fun e w' => e = .returned (.bool (Opr.same zs ys)) ∧ Ext w w' := by
  obtain ⟨a, cap, rfl, hlc, hcm, hx⟩ := hS
  obtain ⟨a', cap', rfl, hlc', hcm', hx'⟩ := hS'
  have HX : Hid (0 < zs.length → ∃ b off, a = some ⟨b, off, none⟩ ∧ b < w.heap.size ∧ OpsAt w b off zs) := hx
  have HX' : Hid (0 < ys.length → ∃ b off, a' = some ⟨b, off, none⟩ ∧ b < w.heap.size ∧ OpsAt w b off ys) := hx'
  clear hx hx'
  unfold maxLen at hcm hcm'
  by_cases hl : zs.length = ys.length
  · have e0 : ((zs.length : Int) != (ys.length : Int)) = false := by rw [hl]; simp
    have HL : Hid (zs.length = ys.length) := hl
    go_enter Try.func11, Try.ntmps11
    go_wp2
    go_loopw [13] (fun i wr => ∃ (k : Nat), k ≤ zs.length ∧ i = .int .i64 k ∧ Hid (∀ j, j < k → zs[j]? = ys[j]?) ∧ Hid (Ext w wr)) (fun i _ => zs.length - (intOf i).toNat)
    case atStart => exact ⟨0, Nat.zero_le _, rfl, fun j h => by omega, Ext.refl _⟩
    case round =>
      obtain ⟨k, hk, rfl, HA, HE⟩ := hrel
      by_cases hlt : k < zs.length
      · obtain ⟨z, hzk⟩ : ∃ z, zs[k]? = some z := ⟨_, List.getElem?_eq_getElem hlt⟩
        obtain ⟨y, hyk⟩ : ∃ y, ys[k]? = some y := ⟨_, List.getElem?_eq_getElem (by omega)⟩
        obtain ⟨b, off, rfl, hb, hN⟩ := HX.out (by omega)
        obtain ⟨b', off', rfl, hb', hN'⟩ := HX'.out (by omega)
        obtain ⟨d0, d1, d2, d3, d4, d5⟩ := hN.ext hb HE.out k z hzk
        obtain ⟨e0, e1, e2, e3, e4, e5⟩ := hN'.ext hb' HE.out k y hyk
        have hky : k < ys.length := by omega
        have HZ : Hid (zs[k]? = some z ∧ ys[k]? = some y) := ⟨hzk, hyk⟩
        clear hzk hyk hN hN'
        by_cases g0 : z.kind = y.kind
        · by_cases g1 : z.path.toList = y.path.toList
          · by_cases g2 : z.data = y.data
            · by_cases g3 : z.version = y.version
              · by_cases g4 : z.seq = y.seq
                · by_cases g5 : z.own = y.own
                  · have HA2 : Hid (∀ j, j < k + 1 → zs[j]? = ys[j]?) := by
                      intro j hj
                      by_cases hjk : j = k
                      · subst hjk; rw [HZ.out.1, HZ.out.2, Opr.op_eq g0 g1 g2 g3 g4 g5]
                      · exact HA.out j (by omega)
                    go_wp2
                    go_region
                    all_goals
                      go_wp2
                      exact ⟨⟨k + 1, by omega, by go_num, HA2, HE.out.drew⟩, by simp [intOf]; omega⟩
                  · have HF : Hid (Opr.same zs ys = false) := Opr.same_ne HZ.out.1 HZ.out.2 (by rintro rfl; exact g5 rfl)
                    have gx : (z.own != y.own) = true := by simpa using g5
                    have gy : (z.own == y.own) = false := by simpa using g5
                    go_wp2
                    go_region
                    all_goals
                      go_wp2
                      go_ret
                      exact ⟨ret_bool HF.out.symm, HE.out.drew⟩
                · have HF : Hid (Opr.same zs ys = false) := Opr.same_ne HZ.out.1 HZ.out.2 (by rintro rfl; exact g4 rfl)
                  have gx : (z.seq != y.seq) = true := by simpa using g4
                  have gy : (z.seq == y.seq) = false := by simpa using g4
                  go_wp2
                  go_region
                  all_goals
                    go_wp2
                    go_ret
                    exact ⟨ret_bool HF.out.symm, HE.out.drew⟩
              · have HF : Hid (Opr.same zs ys = false) := Opr.same_ne HZ.out.1 HZ.out.2 (by rintro rfl; exact g3 rfl)
                go_wp2
                go_region
                all_goals
                  go_wp2
                  go_ret
                  exact ⟨ret_bool HF.out.symm, HE.out.drew⟩
            · have HF : Hid (Opr.same zs ys = false) := Opr.same_ne HZ.out.1 HZ.out.2 (by rintro rfl; exact g2 rfl)
              go_wp2
              go_region
              all_goals
                go_wp2
                go_ret
                exact ⟨ret_bool HF.out.symm, HE.out.drew⟩
          · have HF : Hid (Opr.same zs ys = false) := Opr.same_ne HZ.out.1 HZ.out.2 (by rintro rfl; exact g1 rfl)
            go_wp2
            go_region
            all_goals
              go_wp2
              go_ret
              exact ⟨ret_bool HF.out.symm, HE.out.drew⟩
        · have HF : Hid (Opr.same zs ys = false) := Opr.same_ne HZ.out.1 HZ.out.2 (by rintro rfl; exact g0 rfl)
          go_wp2
          go_region
          all_goals
            go_wp2
            go_ret
            exact ⟨ret_bool HF.out.symm, HE.out.drew⟩
      · have HF : Hid (Opr.same zs ys = true) := Opr.same_all HL.out (fun j hj => HA.out j (by omega))
        go_wp2
        go_ret
        exact ⟨ret_bool HF.out.symm, HE.out⟩
  · have e0 : ((zs.length : Int) != (ys.length : Int)) = true := by simp; omega
    have HF : Hid (Opr.same zs ys = false) := Opr.same_len hl
    clear hl
    go_enter Try.func11, Try.ntmps11
    go_wp2
    go_ret
    exact ⟨ret_bool HF.out.symm, Ext.refl _⟩

set_option maxHeartbeats 2000000 in
set_option maxRecDepth 100000 in
theorem implSameRequests_any (r q : Rq) (v v' : Value) (w : World) (hS : OSlice w v r.ops) (hS' : OSlice w v' q.ops) :
    Calls Try.prog 7 #[ragg r v, ragg q v'] w fun e w' => e = .returned (.bool (Opr.sameR r q)) ∧ Ext w w' := by
  have HC : Hid (∀ wx : World, Ext w wx → Calls Try.prog 11 #[v, v'] wx fun e w' => e = .returned (.bool (Opr.same r.ops q.ops)) ∧ Ext wx w') := fun wx he => opsEqual_any v v' r.ops q.ops wx (hS.ext he) (hS'.ext he)
  obtain ⟨a, cap, rfl, -, -, -⟩ := hS
  obtain ⟨a', cap', rfl, -, -, -⟩ := hS'
  generalize hR : Opr.sameR r q = R
  have HR : Hid (Opr.sameR r q = R) := hR
  clear hR
  unfold ragg
  by_cases g0 : r.client = q.client
  · by_cases g1 : r.number = q.number
    · by_cases g2 : r.time = q.time
      · have HQ := Opr.sameR_4 g0 g1 g2 _ rfl
        generalize hb : Opr.same r.ops q.ops = b at *
        have HF : Hid (R = b) := HR.out.symm.trans HQ
        clear HQ hb
        go_enter Try.func7, Try.ntmps7
        go_wp2_with fail
        refine (HC.out _ (((Ext.refl _).alloc _).alloc _)).mono ?_
        rintro e w1 ⟨rfl, hb⟩
        have HB : Hid (Ext w w1) := (((Ext.refl _).alloc _).alloc _).trans hb
        clear hb
        go_wp2
        go_ret
        exact ⟨ret_bool HF.out.symm, HB.out⟩
      · have HF : Hid (R = false) := HR.out.symm.trans (Opr.sameR_2 g2)
        go_enter Try.func7, Try.ntmps7
        go_wp2
        go_ret
        exact ⟨ret_bool HF.out.symm, ((Ext.refl _).alloc _).alloc _⟩
    · have HF : Hid (R = false) := HR.out.symm.trans (Opr.sameR_1 g1)
      go_enter Try.func7, Try.ntmps7
      go_wp2
      go_ret
      exact ⟨ret_bool HF.out.symm, ((Ext.refl _).alloc _).alloc _⟩
  · have HF : Hid (R = false) := HR.out.symm.trans (Opr.sameR_0 g0)
    go_enter Try.func7, Try.ntmps7
    go_wp2
    go_ret
    exact ⟨ret_bool HF.out.symm, ((Ext.refl _).alloc _).alloc _⟩

set_option maxHeartbeats 2000000 in
set_option maxRecDepth 100000 in
theorem specSameRequests_any (r q : Rq) (v v' : Value) (w : World) (hS : OSlice w v r.ops) (hS' : OSlice w v' q.ops) :
    Calls Try.prog 5 #[ragg r v, ragg q v'] w fun e w' => e = .returned (.bool (Opr.sameR r q)) ∧ Ext w w' := by
  obtain ⟨a, cap, rfl, hlc, hcm, hx⟩ := hS
  obtain ⟨a', cap', rfl, hlc', hcm', hx'⟩ := hS'
  have HX : Hid (0 < r.ops.length → ∃ b off, a = some ⟨b, off, none⟩ ∧ b < w.heap.size ∧ OpsAt w b off r.ops) := hx
  have HX' : Hid (0 < q.ops.length → ∃ b off, a' = some ⟨b, off, none⟩ ∧ b < w.heap.size ∧ OpsAt w b off q.ops) := hx'
  clear hx hx'
  unfold maxLen at hcm hcm'
  generalize hR : Opr.sameR r q = R
  have HR : Hid (Opr.sameR r q = R) := hR
  clear hR
  unfold ragg
  by_cases g0 : r.client = q.client
  · by_cases g1 : r.number = q.number
    · by_cases g2 : r.time = q.time
      · have HQ : Hid (∀ b, Opr.same r.ops q.ops = b → R = b) := fun b h => HR.out.symm.trans (Opr.sameR_4 g0 g1 g2 b h)
        by_cases hl : r.ops.length = q.ops.length
        · have e0 : ((r.ops.length : Int) != (q.ops.length : Int)) = false := by rw [hl]; simp
          have HL : Hid (r.ops.length = q.ops.length) := hl
          clear hl
          generalize r.ops = zs at *
          generalize q.ops = ys at *
          go_enter Try.func5, Try.ntmps5
          go_wp2
          go_loopw [5] (fun i wr => ∃ (k : Nat), k ≤ zs.length ∧ i = .int .i64 k ∧ Hid (∀ j, j < k → zs[j]? = ys[j]?) ∧ Hid (wr.cell? ⟨w.heap.size, 3, none⟩ = some (.slice a zs.length cap) ∧ wr.cell? ⟨w.heap.size + 1, 3, none⟩ = some (.slice a' ys.length cap')) ∧ Hid (Ext w wr)) (fun i _ => zs.length - (intOf i).toNat)
          case atStart => exact ⟨0, Nat.zero_le _, rfl, fun j h => by omega, ⟨by simp, by simp⟩, ((Ext.refl _).alloc _).alloc _⟩
          case round =>
            obtain ⟨k, hk, rfl, HA, HW, HE⟩ := hrel
            obtain ⟨b1, b2⟩ := HW.out
            by_cases hlt : k < zs.length
            · obtain ⟨z, hzk⟩ : ∃ z, zs[k]? = some z := ⟨_, List.getElem?_eq_getElem hlt⟩
              obtain ⟨y, hyk⟩ : ∃ y, ys[k]? = some y := ⟨_, List.getElem?_eq_getElem (by have := HL.out; omega)⟩
              obtain ⟨b, off, rfl, hb, hN⟩ := HX.out (by omega)
              obtain ⟨b', off', rfl, hb', hN'⟩ := HX'.out (by have := HL.out; omega)
              obtain ⟨d0, d1, d2, d3, d4, d5⟩ := hN.ext hb HE.out k z hzk
              obtain ⟨e0, e1, e2, e3, e4, e5⟩ := hN'.ext hb' HE.out k y hyk
              have hky : k < ys.length := by have := HL.out; omega
              have HZ : Hid (zs[k]? = some z ∧ ys[k]? = some y) := ⟨hzk, hyk⟩
              clear hzk hyk hN hN'
              by_cases g0 : z.kind = y.kind
              · by_cases g1 : z.path.toList = y.path.toList
                · by_cases g2 : z.data = y.data
                  · by_cases g3 : z.version = y.version
                    · by_cases g4 : z.seq = y.seq
                      · by_cases g5 : z.own = y.own
                        · have HA2 : Hid (∀ j, j < k + 1 → zs[j]? = ys[j]?) := by
                            intro j hj
                            by_cases hjk : j = k
                            · subst hjk; rw [HZ.out.1, HZ.out.2, Opr.op_eq g0 g1 g2 g3 g4 g5]
                            · exact HA.out j (by omega)
                          go_wp2
                          go_region
                          all_goals
                            go_wp2
                            exact ⟨⟨k + 1, by omega, by go_num, HA2, ⟨by simpa using HW.out.1, by simpa using HW.out.2⟩, HE.out.drew⟩, by simp [intOf]; omega⟩
                        · have HF : Hid (Opr.same zs ys = false) := Opr.same_ne HZ.out.1 HZ.out.2 (by rintro rfl; exact g5 rfl)
                          have gx : (z.own != y.own) = true := by simpa using g5
                          have gy : (z.own == y.own) = false := by simpa using g5
                          go_wp2
                          go_region
                          all_goals
                            go_wp2
                            go_ret
                            exact ⟨ret_bool (HQ.out _ HF.out).symm, HE.out.drew⟩
                      · have HF : Hid (Opr.same zs ys = false) := Opr.same_ne HZ.out.1 HZ.out.2 (by rintro rfl; exact g4 rfl)
                        have gx : (z.seq != y.seq) = true := by simpa using g4
                        have gy : (z.seq == y.seq) = false := by simpa using g4
                        go_wp2
                        go_region
                        all_goals
                          go_wp2
                          go_ret
                          exact ⟨ret_bool (HQ.out _ HF.out).symm, HE.out.drew⟩
                    · have HF : Hid (Opr.same zs ys = false) := Opr.same_ne HZ.out.1 HZ.out.2 (by rintro rfl; exact g3 rfl)
                      go_wp2
                      go_region
                      all_goals
                        go_wp2
                        go_ret
                        exact ⟨ret_bool (HQ.out _ HF.out).symm, HE.out.drew⟩
                  · have HF : Hid (Opr.same zs ys = false) := Opr.same_ne HZ.out.1 HZ.out.2 (by rintro rfl; exact g2 rfl)
                    go_wp2
                    go_region
                    all_goals
                      go_wp2
                      go_ret
                      exact ⟨ret_bool (HQ.out _ HF.out).symm, HE.out.drew⟩
                · have HF : Hid (Opr.same zs ys = false) := Opr.same_ne HZ.out.1 HZ.out.2 (by rintro rfl; exact g1 rfl)
                  go_wp2
                  go_region
                  all_goals
                    go_wp2
                    go_ret
                    exact ⟨ret_bool (HQ.out _ HF.out).symm, HE.out.drew⟩
              · have HF : Hid (Opr.same zs ys = false) := Opr.same_ne HZ.out.1 HZ.out.2 (by rintro rfl; exact g0 rfl)
                go_wp2
                go_region
                all_goals
                  go_wp2
                  go_ret
                  exact ⟨ret_bool (HQ.out _ HF.out).symm, HE.out.drew⟩
            · have HF : Hid (R = true) := HQ.out _ (Opr.same_all HL.out (fun j hj => HA.out j (by omega)))
              go_wp2
              go_ret
              exact ⟨ret_bool HF.out.symm, HE.out⟩
        · have e0 : ((r.ops.length : Int) != (q.ops.length : Int)) = true := by simp; omega
          have HF : Hid (R = false) := HQ.out _ (Opr.same_len hl)
          go_enter Try.func5, Try.ntmps5
          go_wp2
          go_ret
          exact ⟨ret_bool HF.out.symm, ((Ext.refl _).alloc _).alloc _⟩
      · have HF : Hid (R = false) := HR.out.symm.trans (Opr.sameR_2 g2)
        go_enter Try.func5, Try.ntmps5
        go_wp2
        go_ret
        exact ⟨ret_bool HF.out.symm, ((Ext.refl _).alloc _).alloc _⟩
    · have HF : Hid (R = false) := HR.out.symm.trans (Opr.sameR_1 g1)
      go_enter Try.func5, Try.ntmps5
      go_wp2
      go_ret
      exact ⟨ret_bool HF.out.symm, ((Ext.refl _).alloc _).alloc _⟩
  · have HF : Hid (R = false) := HR.out.symm.trans (Opr.sameR_0 g0)
    go_enter Try.func5, Try.ntmps5
    go_wp2
    go_ret
    exact ⟨ret_bool HF.out.symm, ((Ext.refl _).alloc _).alloc _⟩
end Go.Proofs.Ytdfokjjkhabneaa
