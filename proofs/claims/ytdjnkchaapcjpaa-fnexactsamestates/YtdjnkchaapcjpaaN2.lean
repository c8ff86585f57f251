/- SameStates: the specification's and the program's (with slices.Equal at sessions and marks). -/
import Derived.Test.YtdjnkchaapcjpaaN1
import Derived.Test.YtdjnkchaapcjpaaI0
import Derived.Deep.RegionHeld3
namespace Go.Proofs.Ytdjnkchaapcjpaa
open Go.RowKit
instance : DecidableEq Se := fun a b => if h : a.id = b.id ∧ a.til = b.til then .isTrue (by cases a; cases b; simp only at h; rw [h.1, h.2]) else .isFalse (by rintro rfl; exact h ⟨rfl, rfl⟩)
def lsame {α : Type} [DecidableEq α] (zs ys : List α) : Bool := decide (zs = ys)
theorem lsame_len {α : Type} [DecidableEq α] {zs ys : List α} (h : ¬ zs.length = ys.length) : lsame zs ys = false := by
  unfold lsame; rw [decide_eq_false_iff_not]; intro e; exact h (by rw [e])
theorem lsame_ne {α : Type} [DecidableEq α] {zs ys : List α} {k : Nat} {z y : α} (hz : zs[k]? = some z) (hy : ys[k]? = some y) (h : ¬ z = y) : lsame zs ys = false := by
  unfold lsame; rw [decide_eq_false_iff_not]; intro e; subst e; rw [hz] at hy; cases hy; exact h rfl
theorem lsame_all {α : Type} [DecidableEq α] {zs ys : List α} (hl : zs.length = ys.length) (h : ∀ j, j < zs.length → zs[j]? = ys[j]?) : lsame zs ys = true := by
  unfold lsame; rw [decide_eq_true_iff]
  apply List.ext_getElem?
  intro j
  by_cases hj : j < zs.length
  · exact h j hj
  · rw [List.getElem?_eq_none (by omega), List.getElem?_eq_none (by omega)]
theorem se_eq {z y : Se} (h0 : z.id = y.id) (h1 : z.til = y.til) : z = y := by
  cases z; cases y; simp only at h0 h1; rw [h0, h1]
theorem mk_eq {z y : Mk} (h0 : z.client = y.client) (h1 : z.number = y.number) (h2 : z.code = y.code) (h3 : z.value = y.value) (h4 : z.path.toList = y.path.toList) : z = y := by
  cases z; cases y
  simp only at h0 h1 h2 h3 h4
  rw [Lib.toList_data, Lib.toList_data] at h4
  rw [ba_eq h4, h0, h1, h2, h3]
namespace Sta
def same (a b : Stt) : Bool := Tre.same a.nodes b.nodes && (lsame a.ses b.ses && (decide (a.now = b.now) && lsame a.marks b.marks))
theorem same_n {a b : Stt} (h : Tre.same a.nodes b.nodes = false) : same a b = false := by unfold same; simp [h]
theorem same_s {a b : Stt} (h : lsame a.ses b.ses = false) : same a b = false := by unfold same; simp [h]
theorem same_t {a b : Stt} (h : ¬ a.now = b.now) : same a b = false := by unfold same; simp [h]
theorem same_m {a b : Stt} (h : lsame a.marks b.marks = false) : same a b = false := by unfold same; simp [h]
theorem same_r {a b : Stt} (h : Tre.same a.nodes b.nodes = true) (h1 : lsame a.ses b.ses = true) (h2 : a.now = b.now) (c : Bool) (h3 : lsame a.marks b.marks = c) : same a b = c := by unfold same; simp [h, h1, h2, h3]
end Sta

set_option maxHeartbeats 2000000 in
set_option maxRecDepth 100000 in
theorem sesEqual_any (v v' : Value) (zs ys : List Se) (w : World) (hS : ESlice w v zs) (hS' : ESlice w v' ys) :
    Calls Try.prog 30 #[v, v'] w fun e w' => e = .returned (.bool (lsame zs ys)) ∧ Ext w w' := by
  obtain ⟨a, cap, rfl, hlc, hcm, hx⟩ := hS
  obtain ⟨a', cap', rfl, hlc', hcm', hx'⟩ := hS'
  have HX : Hid (0 < zs.length → ∃ b off, a = some ⟨b, off, none⟩ ∧ b < w.heap.size ∧ SesAt w b off zs) := hx
  have HX' : Hid (0 < ys.length → ∃ b off, a' = some ⟨b, off, none⟩ ∧ b < w.heap.size ∧ SesAt w b off ys) := hx'
  clear hx hx'
  unfold maxLen at hcm hcm'
  by_cases hl : zs.length = ys.length
  · have e0 : ((zs.length : Int) != (ys.length : Int)) = false := by rw [hl]; simp
    have HL : Hid (zs.length = ys.length) := hl
    go_enter Try.func30, Try.ntmps30
    go_wp2
    go_loopw [13] (fun i wr => ∃ (k : Nat), k ≤ zs.length ∧ i = .int .i64 k ∧ Hid (∀ j, j < k → zs[j]? = ys[j]?) ∧ Hid (Ext w wr)) (fun i _ => zs.length - (intOf i).toNat)
    case atStart => exact ⟨0, Nat.zero_le _, rfl, fun j h => by omega, Ext.refl _⟩
    case round =>
      obtain ⟨k, hk, rfl, HA, HE⟩ := hrel
      by_cases hlt : k < zs.length
      · obtain ⟨z, hzk⟩ : ∃ z, zs[k]? = some z := ⟨_, List.getElem?_eq_getElem hlt⟩
        obtain ⟨y, hyk⟩ : ∃ y, ys[k]? = some y := ⟨_, List.getElem?_eq_getElem (by omega)⟩
        obtain ⟨b, off, rfl, hb, hN⟩ := HX.out (by omega)
        obtain ⟨b', off', rfl, hb', hN'⟩ := HX'.out (by omega)
        obtain ⟨d0, d1⟩ := hN.ext hb HE.out k z hzk
        obtain ⟨e0, e1⟩ := hN'.ext hb' HE.out k y hyk
        have hky : k < ys.length := by omega
        have HZ : Hid (zs[k]? = some z ∧ ys[k]? = some y) := ⟨hzk, hyk⟩
        clear hzk hyk hN hN'
        by_cases g0 : z.id = y.id
        · by_cases g1 : z.til = y.til
          · have HA2 : Hid (∀ j, j < k + 1 → zs[j]? = ys[j]?) := by
              intro j hj
              by_cases hjk : j = k
              · subst hjk; rw [HZ.out.1, HZ.out.2, se_eq g0 g1]
              · exact HA.out j (by omega)
            go_wp2
            go_region
            all_goals
              go_wp2
              exact ⟨⟨k + 1, by omega, by go_num, HA2, HE.out.drew⟩, by simp [intOf]; omega⟩
          · have HF : Hid (lsame zs ys = false) := lsame_ne HZ.out.1 HZ.out.2 (by rintro rfl; exact g1 rfl)
            go_wp2
            go_region
            all_goals
              go_wp2
              go_ret
              exact ⟨ret_bool HF.out.symm, HE.out.drew⟩
        · have HF : Hid (lsame zs ys = false) := lsame_ne HZ.out.1 HZ.out.2 (by rintro rfl; exact g0 rfl)
          go_wp2
          go_region
          all_goals
            go_wp2
            go_ret
            exact ⟨ret_bool HF.out.symm, HE.out.drew⟩
      · have HF : Hid (lsame zs ys = true) := lsame_all HL.out (fun j hj => HA.out j (by omega))
        go_wp2
        go_ret
        exact ⟨ret_bool HF.out.symm, HE.out⟩
  · have e0 : ((zs.length : Int) != (ys.length : Int)) = true := by simp; omega
    have HF : Hid (lsame zs ys = false) := lsame_len hl
    clear hl
    go_enter Try.func30, Try.ntmps30
    go_wp2
    go_ret
    exact ⟨ret_bool HF.out.symm, Ext.refl _⟩

set_option maxHeartbeats 2000000 in
set_option maxRecDepth 100000 in
theorem marksEqual_any (v v' : Value) (zs ys : List Mk) (w : World) (hS : MSlice w v zs) (hS' : MSlice w v' ys) :
    Calls Try.prog 31 #[v, v'] w fun e w' => e = .returned (.bool (lsame zs ys)) ∧ Ext w w' := by
  obtain ⟨a, cap, rfl, hlc, hcm, hx⟩ := hS
  obtain ⟨a', cap', rfl, hlc', hcm', hx'⟩ := hS'
  have HX : Hid (0 < zs.length → ∃ b off, a = some ⟨b, off, none⟩ ∧ b < w.heap.size ∧ MksAt w b off zs) := hx
  have HX' : Hid (0 < ys.length → ∃ b off, a' = some ⟨b, off, none⟩ ∧ b < w.heap.size ∧ MksAt w b off ys) := hx'
  clear hx hx'
  unfold maxLen at hcm hcm'
  by_cases hl : zs.length = ys.length
  · have e0 : ((zs.length : Int) != (ys.length : Int)) = false := by rw [hl]; simp
    have HL : Hid (zs.length = ys.length) := hl
    go_enter Try.func31, Try.ntmps31
    go_wp2
    go_loopw [13] (fun i wr => ∃ (k : Nat), k ≤ zs.length ∧ i = .int .i64 k ∧ Hid (∀ j, j < k → zs[j]? = ys[j]?) ∧ Hid (Ext w wr)) (fun i _ => zs.length - (intOf i).toNat)
    case atStart => exact ⟨0, Nat.zero_le _, rfl, fun j h => by omega, Ext.refl _⟩
    case round =>
      obtain ⟨k, hk, rfl, HA, HE⟩ := hrel
      by_cases hlt : k < zs.length
      · obtain ⟨z, hzk⟩ : ∃ z, zs[k]? = some z := ⟨_, List.getElem?_eq_getElem hlt⟩
        obtain ⟨y, hyk⟩ : ∃ y, ys[k]? = some y := ⟨_, List.getElem?_eq_getElem (by omega)⟩
        obtain ⟨b, off, rfl, hb, hN⟩ := HX.out (by omega)
        obtain ⟨b', off', rfl, hb', hN'⟩ := HX'.out (by omega)
        obtain ⟨d0, d1, d2, d3, d4⟩ := hN.ext hb HE.out k z hzk
        obtain ⟨e0, e1, e2, e3, e4⟩ := hN'.ext hb' HE.out k y hyk
        have hky : k < ys.length := by omega
        have HZ : Hid (zs[k]? = some z ∧ ys[k]? = some y) := ⟨hzk, hyk⟩
        clear hzk hyk hN hN'
        by_cases g0 : z.client = y.client
        · by_cases g1 : z.number = y.number
          · by_cases g2 : z.code = y.code
            · by_cases g3 : z.value = y.value
              · by_cases g4 : z.path.toList = y.path.toList
                · have HA2 : Hid (∀ j, j < k + 1 → zs[j]? = ys[j]?) := by
                    intro j hj
                    by_cases hjk : j = k
                    · subst hjk; rw [HZ.out.1, HZ.out.2, mk_eq g0 g1 g2 g3 g4]
                    · exact HA.out j (by omega)
                  go_wp2
                  go_region
                  all_goals
                    go_wp2
                    exact ⟨⟨k + 1, by omega, by go_num, HA2, HE.out.drew⟩, by simp [intOf]; omega⟩
                · have HF : Hid (lsame zs ys = false) := lsame_ne HZ.out.1 HZ.out.2 (by rintro rfl; exact g4 rfl)
                  go_wp2
                  go_region
                  all_goals
                    go_wp2
                    go_ret
                    exact ⟨ret_bool HF.out.symm, HE.out.drew⟩
              · have HF : Hid (lsame zs ys = false) := lsame_ne HZ.out.1 HZ.out.2 (by rintro rfl; exact g3 rfl)
                go_wp2
                go_region
                all_goals
                  go_wp2
                  go_ret
                  exact ⟨ret_bool HF.out.symm, HE.out.drew⟩
            · have HF : Hid (lsame zs ys = false) := lsame_ne HZ.out.1 HZ.out.2 (by rintro rfl; exact g2 rfl)
              go_wp2
              go_region
              all_goals
                go_wp2
                go_ret
                exact ⟨ret_bool HF.out.symm, HE.out.drew⟩
          · have HF : Hid (lsame zs ys = false) := lsame_ne HZ.out.1 HZ.out.2 (by rintro rfl; exact g1 rfl)
            go_wp2
            go_region
            all_goals
              go_wp2
              go_ret
              exact ⟨ret_bool HF.out.symm, HE.out.drew⟩
        · have HF : Hid (lsame zs ys = false) := lsame_ne HZ.out.1 HZ.out.2 (by rintro rfl; exact g0 rfl)
          go_wp2
          go_region
          all_goals
            go_wp2
            go_ret
            exact ⟨ret_bool HF.out.symm, HE.out.drew⟩
      · have HF : Hid (lsame zs ys = true) := lsame_all HL.out (fun j hj => HA.out j (by omega))
        go_wp2
        go_ret
        exact ⟨ret_bool HF.out.symm, HE.out⟩
  · have e0 : ((zs.length : Int) != (ys.length : Int)) = true := by simp; omega
    have HF : Hid (lsame zs ys = false) := lsame_len hl
    clear hl
    go_enter Try.func31, Try.ntmps31
    go_wp2
    go_ret
    exact ⟨ret_bool HF.out.symm, Ext.refl _⟩

set_option maxHeartbeats 2000000 in
set_option maxRecDepth 100000 in
theorem implSameStates_any (az bz : Stt) (vn vs vm un us um : Value) (w : World) (hS : SSlice w vn vs vm az) (hS' : SSlice w un us um bz) :
    Calls Try.prog 13 #[sagg vn vs az.now vm, sagg un us bz.now um] w fun e w' => e = .returned (.bool (Sta.same az bz)) ∧ Ext w w' := by
  have H1 : Hid (∀ wx : World, Ext w wx → Calls Try.prog 29 #[vn, un] wx fun e w' => e = .returned (.bool (Tre.same az.nodes bz.nodes)) ∧ Ext wx w') := fun wx he => implSameTrees_any vn un az.nodes bz.nodes wx (hS.1.ext he) (hS'.1.ext he)
  have H2 : Hid (∀ wx : World, Ext w wx → Calls Try.prog 30 #[vs, us] wx fun e w' => e = .returned (.bool (lsame az.ses bz.ses)) ∧ Ext wx w') := fun wx he => sesEqual_any vs us az.ses bz.ses wx (hS.2.1.ext he) (hS'.2.1.ext he)
  have H3 : Hid (∀ wx : World, Ext w wx → Calls Try.prog 31 #[vm, um] wx fun e w' => e = .returned (.bool (lsame az.marks bz.marks)) ∧ Ext wx w') := fun wx he => marksEqual_any vm um az.marks bz.marks wx (hS.2.2.ext he) (hS'.2.2.ext he)
  obtain ⟨⟨an, acn, rfl, -⟩, ⟨ae, acs, rfl, -⟩, ⟨am, acm, rfl, -⟩⟩ := hS
  obtain ⟨⟨bn, bcn, rfl, -⟩, ⟨be, bcs, rfl, -⟩, ⟨bm, bcm, rfl, -⟩⟩ := hS'
  generalize hR : Sta.same az bz = R
  have HR : Hid (Sta.same az bz = R) := hR
  clear hR
  generalize ht1 : Tre.same az.nodes bz.nodes = t1 at *
  generalize ht2 : lsame az.ses bz.ses = t2 at *
  generalize ht3 : lsame az.marks bz.marks = t3 at *
  have T1 : Hid (Tre.same az.nodes bz.nodes = t1) := ht1
  have T2 : Hid (lsame az.ses bz.ses = t2) := ht2
  have T3 : Hid (lsame az.marks bz.marks = t3) := ht3
  clear ht1 ht2 ht3
  unfold sagg
  go_enter Try.func13, Try.ntmps13
  go_wp2_with fail
  refine (H1.out _ (((Ext.refl _).alloc _).alloc _)).mono ?_
  rintro e w1 ⟨rfl, hb⟩
  have x0 := (sbox_new w (.slice an az.nodes.length acn) (.slice ae az.ses.length acs) (.int .i64 az.now) (.slice am az.marks.length acm) _).ext (((Ext.refl _).alloc _).trans hb)
  have y0 := (sbox_new (w.alloc _) (.slice bn bz.nodes.length bcn) (.slice be bz.ses.length bcs) (.int .i64 bz.now) (.slice bm bz.marks.length bcm) _).ext hb
  simp only [World.size_alloc] at y0
  have XB : Hid (SBoxAt w1 w.heap.size (.slice an az.nodes.length acn) (.slice ae az.ses.length acs) (.int .i64 az.now) (.slice am az.marks.length acm)) := x0
  have YB : Hid (SBoxAt w1 (w.heap.size + 1) (.slice bn bz.nodes.length bcn) (.slice be bz.ses.length bcs) (.int .i64 bz.now) (.slice bm bz.marks.length bcm)) := y0
  have HB : Hid (Ext w w1) := (((Ext.refl _).alloc _).alloc _).trans hb
  clear hb x0 y0
  obtain ⟨q0, ⟨c0, c1, c2, c3⟩, -, -, -, -⟩ := XB.out
  obtain ⟨p0, ⟨d0, d1, d2, d3⟩, -, -, -, -⟩ := YB.out
  cases t1 with
  | false =>
    have HF : Hid (R = false) := HR.out.symm.trans (Sta.same_n T1.out)
    go_wp2
    go_ret
    exact ⟨ret_bool HF.out.symm, HB.out⟩
  | true =>
  go_wp2_with fail
  refine (H2.out _ HB.out).mono ?_
  rintro e w2 ⟨rfl, hb⟩
  have XN : Hid (SBoxAt w2 w.heap.size (.slice an az.nodes.length acn) (.slice ae az.ses.length acs) (.int .i64 az.now) (.slice am az.marks.length acm)) := XB.out.ext hb
  have YN : Hid (SBoxAt w2 (w.heap.size + 1) (.slice bn bz.nodes.length bcn) (.slice be bz.ses.length bcs) (.int .i64 bz.now) (.slice bm bz.marks.length bcm)) := YB.out.ext hb
  have HN : Hid (Ext w w2) := HB.out.trans hb
  clear hb XB YB HB q0 c0 c1 c2 c3 p0 d0 d1 d2 d3
  have XB := XN; have YB := YN; have HB := HN; clear XN YN HN
  obtain ⟨q0, ⟨c0, c1, c2, c3⟩, -, -, -, -⟩ := XB.out
  obtain ⟨p0, ⟨d0, d1, d2, d3⟩, -, -, -, -⟩ := YB.out
  cases t2 with
  | false =>
    have HF : Hid (R = false) := HR.out.symm.trans (Sta.same_s T2.out)
    go_wp2
    go_ret
    exact ⟨ret_bool HF.out.symm, HB.out⟩
  | true =>
  by_cases hn : az.now = bz.now
  · have HF : Hid (R = t3) := HR.out.symm.trans (Sta.same_r T1.out T2.out hn _ T3.out)
    go_wp2_with fail
    refine (H3.out _ HB.out).mono ?_
    rintro e w3 ⟨rfl, hb⟩
    have HB3 : Hid (Ext w w3) := HB.out.trans hb
    clear hb XB YB HB q0 c0 c1 c2 c3 p0 d0 d1 d2 d3
    go_wp2
    go_ret
    exact ⟨ret_bool HF.out.symm, HB3.out⟩
  · have HF : Hid (R = false) := HR.out.symm.trans (Sta.same_t hn)
    go_wp2
    go_ret
    exact ⟨ret_bool HF.out.symm, HB.out⟩

set_option maxHeartbeats 4000000 in
set_option maxRecDepth 100000 in
theorem specSameStates_any (az bz : Stt) (vn vs vm un us um : Value) (w : World) (hS : SSlice w vn vs vm az) (hS' : SSlice w un us um bz) :
    Calls Try.prog 11 #[sagg vn vs az.now vm, sagg un us bz.now um] w fun e w' => e = .returned (.bool (Sta.same az bz)) ∧ Ext w w' := by
  have H1 : Hid (∀ wx : World, Ext w wx → Calls Try.prog 25 #[vn, un] wx fun e w' => e = .returned (.bool (Tre.same az.nodes bz.nodes)) ∧ Ext wx w') := fun wx he => specSameTrees_any vn un az.nodes bz.nodes wx (hS.1.ext he) (hS'.1.ext he)
  obtain ⟨⟨an, acn, rfl, -⟩, ⟨ae, acs, rfl, hsl, hsm, hsx⟩, ⟨am, acm, rfl, hml, hmm, hmx⟩⟩ := hS
  obtain ⟨⟨bn, bcn, rfl, -⟩, ⟨be, bcs, rfl, hsl', hsm', hsx'⟩, ⟨bm, bcm, rfl, hml', hmm', hmx'⟩⟩ := hS'
  have HXses : Hid (0 < az.ses.length → ∃ b off, ae = some ⟨b, off, none⟩ ∧ b < w.heap.size ∧ SesAt w b off az.ses) := hsx
  have HYses : Hid (0 < bz.ses.length → ∃ b off, be = some ⟨b, off, none⟩ ∧ b < w.heap.size ∧ SesAt w b off bz.ses) := hsx'
  have HXmarks : Hid (0 < az.marks.length → ∃ b off, am = some ⟨b, off, none⟩ ∧ b < w.heap.size ∧ MksAt w b off az.marks) := hmx
  have HYmarks : Hid (0 < bz.marks.length → ∃ b off, bm = some ⟨b, off, none⟩ ∧ b < w.heap.size ∧ MksAt w b off bz.marks) := hmx'
  clear hsx hsx' hmx hmx'
  unfold maxLen at hsm hsm' hmm hmm'
  generalize hR : Sta.same az bz = R
  have HR : Hid (Sta.same az bz = R) := hR
  clear hR
  generalize ht1 : Tre.same az.nodes bz.nodes = t1 at *
  have T1 : Hid (Tre.same az.nodes bz.nodes = t1) := ht1
  clear ht1
  unfold sagg
  go_enter Try.func11, Try.ntmps11
  go_wp2_with fail
  refine (H1.out _ (((Ext.refl _).alloc _).alloc _)).mono ?_
  rintro e w1 ⟨rfl, hb⟩
  have x0 := (sbox_new w (.slice an az.nodes.length acn) (.slice ae az.ses.length acs) (.int .i64 az.now) (.slice am az.marks.length acm) _).ext (((Ext.refl _).alloc _).trans hb)
  have y0 := (sbox_new (w.alloc _) (.slice bn bz.nodes.length bcn) (.slice be bz.ses.length bcs) (.int .i64 bz.now) (.slice bm bz.marks.length bcm) _).ext hb
  simp only [World.size_alloc] at y0
  have XB : Hid (SBoxAt w1 w.heap.size (.slice an az.nodes.length acn) (.slice ae az.ses.length acs) (.int .i64 az.now) (.slice am az.marks.length acm)) := x0
  have YB : Hid (SBoxAt w1 (w.heap.size + 1) (.slice bn bz.nodes.length bcn) (.slice be bz.ses.length bcs) (.int .i64 bz.now) (.slice bm bz.marks.length bcm)) := y0
  have HB : Hid (Ext w w1) := (((Ext.refl _).alloc _).alloc _).trans hb
  clear hb x0 y0
  obtain ⟨q0, ⟨c0, c1, c2, c3⟩, -, -, -, -⟩ := XB.out
  obtain ⟨p0, ⟨d0, d1, d2, d3⟩, -, -, -, -⟩ := YB.out
  cases t1 with
  | false =>
    have HF : Hid (R = false) := HR.out.symm.trans (Sta.same_n T1.out)
    go_wp2
    go_ret
    exact ⟨ret_bool HF.out.symm, HB.out⟩
  | true =>
  by_cases hn : az.now = bz.now
  rotate_left
  · have HF : Hid (R = false) := HR.out.symm.trans (Sta.same_t hn)
    go_wp2
    go_ret
    exact ⟨ret_bool HF.out.symm, HB.out⟩
  by_cases hl : az.ses.length = bz.ses.length
  rotate_left
  · have e0 : ((az.ses.length : Int) != (bz.ses.length : Int)) = true := by simp; omega
    have HF : Hid (R = false) := HR.out.symm.trans (Sta.same_s (lsame_len hl))
    go_wp2
    go_ret
    exact ⟨ret_bool HF.out.symm, HB.out⟩
  by_cases hl2 : az.marks.length = bz.marks.length
  rotate_left
  · have e0 : ((az.ses.length : Int) != (bz.ses.length : Int)) = false := by rw [hl]; simp
    have e1 : ((az.marks.length : Int) != (bz.marks.length : Int)) = true := by simp; omega
    have HF : Hid (R = false) := HR.out.symm.trans (Sta.same_m (lsame_len hl2))
    go_wp2
    go_ret
    exact ⟨ret_bool HF.out.symm, HB.out⟩
  have e0 : ((az.ses.length : Int) != (bz.ses.length : Int)) = false := by rw [hl]; simp
  have e1 : ((az.marks.length : Int) != (bz.marks.length : Int)) = false := by rw [hl2]; simp
  have HLses : Hid (az.ses.length = bz.ses.length) := hl
  have HLmarks : Hid (az.marks.length = bz.marks.length) := hl2
  have HQ0 : Hid (lsame az.ses bz.ses = false → R = false) := fun h => HR.out.symm.trans (Sta.same_s h)
  have HQ1 : Hid (lsame az.marks bz.marks = false → R = false) := fun h => HR.out.symm.trans (Sta.same_m h)
  have HQ2 : Hid (lsame az.ses bz.ses = true → lsame az.marks bz.marks = true → R = true) := fun h h2 => HR.out.symm.trans (Sta.same_r T1.out h hn _ h2)
  clear hl hl2
  go_wp2
  go_loopw [5] (fun i wr => ∃ (k : Nat), k ≤ az.ses.length ∧ i = .int .i64 k ∧ Hid (∀ j, j < k → az.ses[j]? = bz.ses[j]?) ∧ Hid (SBoxAt wr w.heap.size (.slice an az.nodes.length acn) (.slice ae az.ses.length acs) (.int .i64 az.now) (.slice am az.marks.length acm)) ∧ Hid (SBoxAt wr (w.heap.size + 1) (.slice bn bz.nodes.length bcn) (.slice be bz.ses.length bcs) (.int .i64 bz.now) (.slice bm bz.marks.length bcm)) ∧ Hid (Ext w wr)) (fun i _ => az.ses.length - (intOf i).toNat)
  case atStart => exact ⟨0, Nat.zero_le _, rfl, fun j h => by omega, XB.out, YB.out, HB.out⟩
  obtain ⟨k, hk, rfl, HA, XB, YB, HE⟩ := hrel
  obtain ⟨q0, ⟨c0, c1, c2, c3⟩, -, -, -, -⟩ := XB.out
  obtain ⟨p0, ⟨d0, d1, d2, d3⟩, -, -, -, -⟩ := YB.out
  by_cases hlt : k < az.ses.length
  · obtain ⟨z, hzk⟩ : ∃ z, az.ses[k]? = some z := ⟨_, List.getElem?_eq_getElem hlt⟩
    obtain ⟨y, hyk⟩ : ∃ y, bz.ses[k]? = some y := ⟨_, List.getElem?_eq_getElem (by have := HLses.out; omega)⟩
    obtain ⟨b, off, rfl, hb, hN⟩ := HXses.out (by omega)
    obtain ⟨b', off', rfl, hb', hN'⟩ := HYses.out (by have := HLses.out; omega)
    obtain ⟨m0, m1⟩ := hN.ext hb HE.out k z hzk
    obtain ⟨r0, r1⟩ := hN'.ext hb' HE.out k y hyk
    have hky : k < bz.ses.length := by have := HLses.out; omega
    have HZ : Hid (az.ses[k]? = some z ∧ bz.ses[k]? = some y) := ⟨hzk, hyk⟩
    clear hzk hyk hN hN'
    by_cases g0 : z.id = y.id
    · by_cases g1 : z.til = y.til
      · have HA2 : Hid (∀ j, j < k + 1 → az.ses[j]? = bz.ses[j]?) := by
          intro j hj
          by_cases hjk : j = k
          · subst hjk; rw [HZ.out.1, HZ.out.2, se_eq g0 g1]
          · exact HA.out j (by omega)
        go_wp2
        go_region
        all_goals
          go_wp2
          exact ⟨⟨k + 1, by omega, by go_num, HA2, XB.out.ext ((Ext.refl _).drew), YB.out.ext ((Ext.refl _).drew), HE.out.drew⟩, by simp [intOf]; omega⟩
      · have HF : Hid (lsame az.ses bz.ses = false) := lsame_ne HZ.out.1 HZ.out.2 (by rintro rfl; exact g1 rfl)
        go_wp2
        go_region
        all_goals
          go_wp2
          go_ret
          exact ⟨ret_bool (HQ0.out HF.out).symm, HE.out.drew⟩
    · have HF : Hid (lsame az.ses bz.ses = false) := lsame_ne HZ.out.1 HZ.out.2 (by rintro rfl; exact g0 rfl)
      go_wp2
      go_region
      all_goals
        go_wp2
        go_ret
        exact ⟨ret_bool (HQ0.out HF.out).symm, HE.out.drew⟩
  · have HF : Hid (lsame az.ses bz.ses = true) := lsame_all HLses.out (fun j hj => HA.out j (by omega))
    have HS := HF; clear HF
    clear HA HLses HXses HYses
    go_wp2
    go_loopw [6] (fun i wr => ∃ (k : Nat), k ≤ az.marks.length ∧ i = .int .i64 k ∧ Hid (∀ j, j < k → az.marks[j]? = bz.marks[j]?) ∧ Hid (SBoxAt wr w.heap.size (.slice an az.nodes.length acn) (.slice ae az.ses.length acs) (.int .i64 az.now) (.slice am az.marks.length acm)) ∧ Hid (SBoxAt wr (w.heap.size + 1) (.slice bn bz.nodes.length bcn) (.slice be bz.ses.length bcs) (.int .i64 bz.now) (.slice bm bz.marks.length bcm)) ∧ Hid (Ext w wr)) (fun i _ => az.marks.length - (intOf i).toNat)
    case atStart => exact ⟨0, Nat.zero_le _, rfl, fun j h => by omega, XB.out, YB.out, HE.out⟩
    clear XB YB HE q0 c0 c1 c2 c3 p0 d0 d1 d2 d3
    obtain ⟨k, hk, rfl, HA, XB, YB, HE⟩ := hrel
    obtain ⟨q0, ⟨c0, c1, c2, c3⟩, -, -, -, -⟩ := XB.out
    obtain ⟨p0, ⟨d0, d1, d2, d3⟩, -, -, -, -⟩ := YB.out
    by_cases hlt : k < az.marks.length
    · obtain ⟨z, hzk⟩ : ∃ z, az.marks[k]? = some z := ⟨_, List.getElem?_eq_getElem hlt⟩
      obtain ⟨y, hyk⟩ : ∃ y, bz.marks[k]? = some y := ⟨_, List.getElem?_eq_getElem (by have := HLmarks.out; omega)⟩
      obtain ⟨b, off, rfl, hb, hN⟩ := HXmarks.out (by omega)
      obtain ⟨b', off', rfl, hb', hN'⟩ := HYmarks.out (by have := HLmarks.out; omega)
      obtain ⟨m0, m1, m2, m3, m4⟩ := hN.ext hb HE.out k z hzk
      obtain ⟨r0, r1, r2, r3, r4⟩ := hN'.ext hb' HE.out k y hyk
      have hky : k < bz.marks.length := by have := HLmarks.out; omega
      have HZ : Hid (az.marks[k]? = some z ∧ bz.marks[k]? = some y) := ⟨hzk, hyk⟩
      clear hzk hyk hN hN'
      by_cases g0 : z.client = y.client
      · by_cases g1 : z.number = y.number
        · by_cases g2 : z.code = y.code
          · by_cases g3 : z.value = y.value
            · by_cases g4 : z.path.toList = y.path.toList
              · have HA2 : Hid (∀ j, j < k + 1 → az.marks[j]? = bz.marks[j]?) := by
                  intro j hj
                  by_cases hjk : j = k
                  · subst hjk; rw [HZ.out.1, HZ.out.2, mk_eq g0 g1 g2 g3 g4]
                  · exact HA.out j (by omega)
                go_wp2
                go_region
                all_goals
                  go_wp2
                  exact ⟨⟨k + 1, by omega, by go_num, HA2, XB.out.ext ((Ext.refl _).drew), YB.out.ext ((Ext.refl _).drew), HE.out.drew⟩, by simp [intOf]; omega⟩
              · have HF : Hid (lsame az.marks bz.marks = false) := lsame_ne HZ.out.1 HZ.out.2 (by rintro rfl; exact g4 rfl)
                go_wp2
                go_region
                all_goals
                  go_wp2
                  go_ret
                  exact ⟨ret_bool (HQ1.out HF.out).symm, HE.out.drew⟩
            · have HF : Hid (lsame az.marks bz.marks = false) := lsame_ne HZ.out.1 HZ.out.2 (by rintro rfl; exact g3 rfl)
              go_wp2
              go_region
              all_goals
                go_wp2
                go_ret
                exact ⟨ret_bool (HQ1.out HF.out).symm, HE.out.drew⟩
          · have HF : Hid (lsame az.marks bz.marks = false) := lsame_ne HZ.out.1 HZ.out.2 (by rintro rfl; exact g2 rfl)
            go_wp2
            go_region
            all_goals
              go_wp2
              go_ret
              exact ⟨ret_bool (HQ1.out HF.out).symm, HE.out.drew⟩
        · have HF : Hid (lsame az.marks bz.marks = false) := lsame_ne HZ.out.1 HZ.out.2 (by rintro rfl; exact g1 rfl)
          go_wp2
          go_region
          all_goals
            go_wp2
            go_ret
            exact ⟨ret_bool (HQ1.out HF.out).symm, HE.out.drew⟩
      · have HF : Hid (lsame az.marks bz.marks = false) := lsame_ne HZ.out.1 HZ.out.2 (by rintro rfl; exact g0 rfl)
        go_wp2
        go_region
        all_goals
          go_wp2
          go_ret
          exact ⟨ret_bool (HQ1.out HF.out).symm, HE.out.drew⟩
    · have HF : Hid (lsame az.marks bz.marks = true) := lsame_all HLmarks.out (fun j hj => HA.out j (by omega))
      go_wp2
      go_ret
      exact ⟨ret_bool (HQ2.out HS.out HF.out).symm, HE.out⟩
end Go.Proofs.Ytdjnkchaapcjpaa
