/- the program's above. -/
import Derived.Test.YtilinjjimiiplaaGreatDoorKqJ30
namespace Go.Proofs.YtilinjjimiiplaaGreatDoor
open Go.RowKit
theorem rowInfo : (Tryz.prog.info? 50).map (·.size) = some 21 := by kernel_rfl
theorem three_rows (w : World) (R : List Value) (t : TypeId) :
    RowAt (((w.alloc (.cells R.toArray t)).alloc (.cells zeroRow.toArray t)).alloc (.cells zeroRow.toArray t)) w.heap.size R ∧ RowAt (((w.alloc (.cells R.toArray t)).alloc (.cells zeroRow.toArray t)).alloc (.cells zeroRow.toArray t)) (w.heap.size + 1) zeroRow ∧ RowAt (((w.alloc (.cells R.toArray t)).alloc (.cells zeroRow.toArray t)).alloc (.cells zeroRow.toArray t)) (w.heap.size + 2) zeroRow := by
  refine ⟨((RowAt.new w R t).ext ((Ext.refl _).alloc _)).ext ((Ext.refl _).alloc _), ?_, ?_⟩
  · have h := (RowAt.new (w.alloc (.cells R.toArray t)) zeroRow t).ext ((Ext.refl _).alloc (.cells zeroRow.toArray t))
    rw [show (w.alloc (.cells R.toArray t)).heap.size = w.heap.size + 1 from by simp] at h
    exact h
  · have h := RowAt.new ((w.alloc (.cells R.toArray t)).alloc (.cells zeroRow.toArray t)) zeroRow t
    rw [show ((w.alloc (.cells R.toArray t)).alloc (.cells zeroRow.toArray t)).heap.size = w.heap.size + 2 from by simp] at h
    exact h

theorem ext_setCells {w : World} (b : Nat) (hb : w.heap.size ≤ b) : ∀ (vs : List Value) (o : Nat) (X : World), Ext w X → Ext w (X.setCells b o vs)
  | [], _, _, h => h
  | v :: r, o, X, h => by rw [World.setCells]; exact ext_setCells b hb r _ _ (h.setCell (p := ⟨b, o, none⟩) hb v)
/-- The three rows behind the copy. -/
theorem rows_stored (w : World) (R : List Value) (t : TypeId) (hR : R.length = 21) (W : World) (hW : (((w.alloc (.cells R.toArray t)).alloc (.cells zeroRow.toArray t)).alloc (.cells zeroRow.toArray t)).setCells (w.heap.size + 2) 0 R = W) :
    RowAt W w.heap.size R ∧ RowAt W (w.heap.size + 1) zeroRow ∧ RowAt W (w.heap.size + 1 + 1) R ∧ Ext w W := by
  obtain ⟨h1, h2, h3⟩ := three_rows w R t
  rw [← hW]
  exact ⟨h1.storedOther (by omega), h2.storedOther (by omega), h3.stored (by simp [zeroRow, hR]), ext_setCells _ (by omega) _ _ _ (((Ext.refl _).alloc _).alloc _ |>.alloc _)⟩
theorem results_row {fn : Func} {p : Tmp} (h : fn.results = #[.cell p 50]) (tmps : Array Value) (w : World) (b : Nat) (R : List Value) (hp : tmps.getD p undef = .pointer (some ⟨b, 0, none⟩)) (hc : w.rangeAt b 0 R) (hl : R.length = 21) :
    (results fn tmps).run Tryz.prog w = .ok (.agg R.toArray) w := by
  have hld := run_loadVar_mid (P := Tryz.prog) w b 0 50 R _ hc Tryz.underlying50 rfl (by rw [hl]; exact rowInfo)
  have hp' : tmps[p]?.getD undef = .pointer (some ⟨b, 0, none⟩) := by simpa using hp
  simp [results, h, hp', asAddr, hld]
/-- The three rows in a later world. -/
def Rows3 (w W1 W : World) (R2 R : List Value) : Prop :=
  RowAt W (w.heap.size + 1 + 1) R2 ∧ RowAt W w.heap.size R ∧ RowAt W (w.heap.size + 1) zeroRow ∧ Ext w W ∧ Ext W1 W
theorem Rows3.of {w W1 W : World} {R2 R : List Value} (h : RowAt W1 (w.heap.size + 1 + 1) R2 ∧ RowAt W1 w.heap.size R ∧ RowAt W1 (w.heap.size + 1) zeroRow ∧ Ext w W1) (he : Ext W1 W) : Rows3 w W1 W R2 R :=
  ⟨h.1.ext he, h.2.1.ext he, h.2.2.1.ext he, h.2.2.2.trans he, he⟩
theorem Rows3.alloc {w W1 W : World} {R2 R : List Value} (h : Rows3 w W1 W R2 R) (o : Obj) : Rows3 w W1 (W.alloc o) R2 R :=
  ⟨h.1.ext ((Ext.refl _).alloc _), h.2.1.ext ((Ext.refl _).alloc _), h.2.2.1.ext ((Ext.refl _).alloc _), h.2.2.2.1.alloc _, h.2.2.2.2.alloc _⟩
theorem Rows3.boxed {w W1 W : World} {R2 R R4 R5 R6 : List Value} (h : Rows3 w W1 W R2 R) (h1 : RowAt W1 (w.heap.size + 1 + 1) R4 ∧ RowAt W1 w.heap.size R5 ∧ RowAt W1 (w.heap.size + 1) R6 ∧ Ext w W1) (a b : Value) : Rows3 w W1 ((W.setCell ⟨W1.heap.size, 0, none⟩ a).setCell ⟨W1.heap.size, 1, none⟩ b) R2 R := by
  obtain ⟨k1, k2, k3, k4⟩ := h1
  have g1 := k1.1
  have g4 := k4.size
  exact ⟨(h.1.other _ _ _ (by omega)).other _ _ _ (by omega), (h.2.1.other _ _ _ (by omega)).other _ _ _ (by omega), (h.2.2.1.other _ _ _ (by omega)).other _ _ _ (by omega), (h.2.2.2.1.setCell (p := ⟨W1.heap.size, 0, none⟩) g4 _).setCell (p := ⟨W1.heap.size, 1, none⟩) g4 _, (h.2.2.2.2.setCell (p := ⟨W1.heap.size, 0, none⟩) (Nat.le_refl _) _).setCell (p := ⟨W1.heap.size, 1, none⟩) (Nat.le_refl _) _⟩
theorem IBox.written {w : World} {r : Nat} (h : IBox w r) (c n : Int) : IBoxAt ((w.setCell ⟨r, 0, none⟩ (.int .i64 c)).setCell ⟨r, 1, none⟩ (.int .i64 n)) r c n := by
  obtain ⟨h1, h2, h3, h5, h6⟩ := h
  refine ⟨by simpa using h1, ?_, ?_⟩
  · rw [iset_ne _ _ _ _ _ _ (by omega)]; exact iset_eq _ _ _ _ ⟨_, h2⟩
  · refine iset_eq _ _ _ _ ⟨.int .i64 0, ?_⟩
    rw [iset_ne _ _ _ _ _ _ (by omega)]; exact h3
/-- How the three rows lie in a round: the first j pairs are up. -/
def Up (w : World) (R : List Value) (l : List Int) (j : Nat) (wr : World) : Prop :=
  ∃ R', RowV R' (Sm.up (l.take (2 * j))) ∧ RowAt wr (w.heap.size + 1 + 1) R' ∧ RowAt wr w.heap.size R ∧ RowAt wr (w.heap.size + 1) zeroRow ∧ Ext w wr
theorem up_many {l : List Int} {j : Nat} (h : 2 * j ≤ l.length + 1) : (Sm.up (l.take (2 * j))).length = j := by
  rw [Sm.up_len, List.length_take]; omega

set_option maxHeartbeats 2000000 in
set_option maxRecDepth 100000 in
theorem above_any (R : List Value) (l : List Int) (w : World) (hR : RowV R l) (hl : 1 ≤ l.length) (ho : Sm.ok l = true) :
    Calls Tryz.prog 27 #[.agg R.toArray] w fun e w' => ∃ R' : List Value, e = .returned (.agg R'.toArray) ∧ RowV R' (Sm.up l) ∧ Ext w w' := by
  have HR : Hid (RowV R l) := hR
  have hR21 : R.length = 21 := hR.1
  have hl20 : l.length ≤ 20 := hR.2.1
  have HO : Hid (Sm.ok l = true) := ho
  have hi21 : (Tryz.prog.info? 50).map (·.size) = some R.length := by rw [hR21]; exact rowInfo
  have hi21' : (Tryz.prog.info? 50).map (·.size) = some R.toArray.size := by simpa using hi21
  have h1c : R.toArray.all (·.oneCell') = true := all_oneCell_toArray hR.2.2.2.2
  have HA : Hid (RowAt ((w.alloc (.cells R.toArray 50)).alloc (.cells zeroRow.toArray 50)) w.heap.size R) := (RowAt.new w R _).ext ((Ext.refl _).alloc _)
  have HB := three_rows w R 50
  have HB' : Hid (RowAt (((w.alloc (.cells R.toArray 50)).alloc (.cells zeroRow.toArray 50)).alloc (.cells zeroRow.toArray 50)) (w.heap.size + 2) zeroRow) := HB.2.2
  clear hR ho HB
  go_enter Tryz.func27, Tryz.ntmps27
  go_wp2_with (first | (refine wpList_load_mid rfl 50 (.tmp 1) rfl w.heap.size 0 rfl R _ HA.out.2.1 Tryz.underlying50 rfl hi21 ?_) | (refine wpList_store_mid rfl 50 (.tmp 3) (.tmp 6) rfl (w.heap.size + 2) 0 R.toArray rfl rfl (by have h := HB'.out.there; simpa [zeroRow, hR21] using h) hi21' h1c ?_; generalize hW : World.setCells _ _ _ _ = W; have hrw := rows_stored w R 50 hR21 W hW; clear hW; obtain ⟨⟨qc, qf⟩, QQ⟩ : (W.cell? ⟨w.heap.size + 1 + 1, 0, none⟩ = some (.int .i64 (l.length : Int)) ∧ W.frozen? ⟨w.heap.size + 1 + 1, 0, none⟩ = false) ∧ Hid (Up w R l 0 (W.setCell ⟨w.heap.size + 1 + 1, 0, none⟩ (.int .i64 0))) := ⟨hrw.2.2.1.cell HR.out.many, ⟨R.set 0 (.int .i64 0), HR.out.none, hrw.2.2.1.set _ (by omega), hrw.1.other _ _ _ (by omega), hrw.2.1.other _ _ _ (by omega), hrw.2.2.2.setCell (p := ⟨w.heap.size + 1 + 1, 0, none⟩) (by show w.heap.size ≤ w.heap.size + 1 + 1; omega) _⟩⟩; clear hrw))
  go_loopw [4] (fun i wr => ∃ (j k : Nat), k ≤ l.length + 1 ∧ i = .int .i64 (k : Nat) ∧ Hid (k = 2 * j) ∧ Hid (Up w R l j wr)) (fun i _ => l.length + 1 - (intOf i).toNat)
  case atStart => exact ⟨0, 0, by omega, rfl, rfl, QQ.out⟩
  case round =>
    obtain ⟨j, k, hk, rfl, HK, HU⟩ := hrel
    clear qc qf
    have hkj := HK.out
    have HU2 := HU.out
    obtain ⟨R', hV, hA2, hA0, hA1, hE⟩ := HU2
    have c0 := (hA0.cell HR.out.many).1
    have c2 := hA2.cell hV.many
    rw [up_many (by omega)] at c2
    obtain ⟨c2, f2⟩ := c2
    have HV : Hid (RowV R' (Sm.up (l.take (2 * j))) ∧ RowAt wr (w.heap.size + 1 + 1) R' ∧ RowAt wr w.heap.size R ∧ RowAt wr (w.heap.size + 1) zeroRow ∧ Ext w wr) := ⟨hV, hA2, hA0, hA1, hE⟩
    by_cases hlt : k < l.length
    · obtain ⟨x, hx⟩ : ∃ x, l[k]? = some x := ⟨_, List.getElem?_eq_getElem hlt⟩
      have cx := (hA0.cell (HR.out.at hx)).1
      rw [Nat.add_comm] at cx
      obtain ⟨cm, fm⟩ : (∃ u, wr.cell? ⟨w.heap.size + 1 + 1, 1 + j, none⟩ = some u) ∧ wr.frozen? ⟨w.heap.size + 1 + 1, 1 + j, none⟩ = false := by
        have hjl : 1 + j < R'.length := by rw [hV.1]; omega
        have := hA2.cell (List.getElem?_eq_getElem hjl)
        exact ⟨⟨_, this.1⟩, this.2⟩
      obtain ⟨u, cm⟩ := cm
      obtain ⟨hx0, hx1⟩ := Sm.ok_at hx HO.out
      have HX : Hid (l[k]? = some x) := hx
      have i1 : (0 : Int) ≤ (k : Int) := by omega
      have i2 : (k : Int) < 20 := by omega
      have i3 : (0 : Int) ≤ (j : Int) := by omega
      have i4 : (j : Int) < 20 := by omega
      clear hV hA2 hA0 hA1 hE hx hkj
      by_cases h2 : k + 1 < l.length
      · obtain ⟨y, hy⟩ : ∃ y, l[k + 1]? = some y := ⟨_, List.getElem?_eq_getElem h2⟩
        obtain ⟨hy0, hy1⟩ := Sm.ok_at hy HO.out
        have HP : Hid (∀ wx : World, Calls Tryz.prog 53 #[.int .i64 x, .int .i64 y] wx fun e w' => e = .returned (ir (0, Sm.sum [1, x, y])) ∧ Ext wx w') := fun wx => by
          have h := implPairSum_any x y wx
          have e : Sm.pairV x y = (0, Sm.sum [1, x, y]) := Sm.sumV_ok (by simp) (by simp [Sm.ok, Sm.is, hx0, hx1, hy0, hy1])
          rw [e] at h
          exact h
        have HU3 : Hid (Sm.up (l.take (2 * (j + 1))) = Sm.up (l.take (2 * j)) ++ [Sm.sum [1, x, y]]) := by
          have e := HK.out
          have h := Sm.up_pair j l x y (by rw [← e]; exact HX.out) (by rw [← e]; exact hy)
          exact h
        obtain ⟨hs0, hs1⟩ := Sm.sum_is [1, x, y]
        generalize Sm.sum [1, x, y] = t at *
        unfold ir at HP
        have HY : Hid (l[k + 1]? = some y) := hy
        clear hy
        go_wp2
        go_region
        obtain ⟨W1, hW1⟩ : ∃ W1, W1 = (wr.setCell ⟨w.heap.size + 1 + 1, 1 + j, none⟩ (.int .u64 x)).drew := ⟨_, rfl⟩
        rw [← hW1]
        have HR1 : Hid (RowAt W1 (w.heap.size + 1 + 1) (R'.set (1 + j) (.int .u64 x)) ∧ RowAt W1 w.heap.size R ∧ RowAt W1 (w.heap.size + 1) zeroRow ∧ Ext w W1) := by
          obtain ⟨h1, h2, h3, h4, h5⟩ := HV.out
          rw [hW1]
          exact ⟨(h2.set _ (by rw [h1.1]; omega)).ext ((Ext.refl _).drew), (h3.other _ _ _ (by omega)).ext ((Ext.refl _).drew), (h4.other _ _ _ (by omega)).ext ((Ext.refl _).drew), (h5.setCell (p := ⟨w.heap.size + 1 + 1, 1 + j, none⟩) (by show w.heap.size ≤ w.heap.size + 1 + 1; omega) _).drew⟩
        clear hW1 c0 c2 f2 cx cm fm
        have c0 := (HR1.out.2.1.cell HR.out.many).1
        have cx := (HR1.out.2.1.cell (HR.out.at HX.out)).1
        have cy := (HR1.out.2.1.cell (HR.out.at HY.out)).1
        rw [Nat.add_comm] at cx cy
        obtain ⟨k', hk'⟩ : ∃ k', k' = k + 1 := ⟨_, rfl⟩
        rw [← hk'] at cy
        have hk1 : (k : Int) + 1 = (k' : Int) := by omega
        have i5 : (0 : Int) ≤ (k' : Int) := by omega
        have i6 : (k' : Int) < 20 := by omega
        have i7 : (k' : Int) < (l.length : Int) := by omega
        have i8 : IntKind.i64.wrap (k' : Int) = (k' : Int) := by rw [IntKind.wrap_i64]; omega
        have wx : IntKind.i64.wrap x = x := by rw [IntKind.wrap_i64]; omega
        have wy : IntKind.i64.wrap y = y := by rw [IntKind.wrap_i64]; omega
        have hz1 : w.heap.size < W1.heap.size := HR1.out.2.1.1
        have hal := alloc_cell
        clear hk'
        go_wp2
        go_region_with (go_at_call 53; refine (HP.out _).mono ?_; rintro e w5 ⟨rfl, hb5⟩; first | (have hq : IBox w5 W1.heap.size := (IBox.new W1.drew _).ext hb5; have HR5 : Hid (Rows3 w W1 w5 (R'.set (1 + j) (.int .u64 x)) R) := Rows3.of HR1.out ((((Ext.refl _).drew).alloc _).trans hb5); have HQ5 : Hid (IBox w5 W1.heap.size) := hq; obtain ⟨q, q0, q1, g0, g1⟩ := hq; clear hb5) | (have HR5 : Hid (Rows3 w W1 w5 (R'.set (1 + j) (.int .u64 x)) R) := Rows3.of HR1.out (((Ext.refl _).drew).trans hb5); clear hb5))
        all_goals
          first
          | (obtain ⟨W6, hW6⟩ : ∃ W6, W6 = w5.alloc (.cells #[.int .i64 0, .int .i64 t] 35) := ⟨_, rfl⟩
             rw [← hW6]
             obtain ⟨BP, hBP⟩ : ∃ BP, BP = w5.heap.size := ⟨_, rfl⟩
             have HR6 : Hid (Rows3 w W1 W6 (R'.set (1 + j) (.int .u64 x)) R ∧ IBoxAt W6 BP 0 t) := by
               rw [hW6, hBP]
               exact ⟨HR5.out.alloc _, ibox_new w5 0 t _⟩
             rw [← hBP])
          | (obtain ⟨W6, hW6⟩ : ∃ W6, W6 = (w5.setCell ⟨W1.heap.size, 0, none⟩ (.int .i64 0)).setCell ⟨W1.heap.size, 1, none⟩ (.int .i64 t) := ⟨_, rfl⟩
             rw [← hW6]
             obtain ⟨BP, hBP⟩ : ∃ BP, BP = W1.heap.size := ⟨_, rfl⟩
             have HR6 : Hid (Rows3 w W1 W6 (R'.set (1 + j) (.int .u64 x)) R ∧ IBoxAt W6 BP 0 t) := by
               rw [hW6, hBP]
               exact ⟨HR5.out.boxed HR1.out _ _, HQ5.out.written 0 t⟩
             rw [← hBP])
          clear hW6 hBP HR5
          have e2 : (R'.set (1 + j) (.int .u64 x))[0]? = some (.int .i64 (j : Int)) := by
            rw [List.getElem?_set_ne (by omega)]
            have h := HV.out.1.many
            rw [up_many (by have := HK.out; omega)] at h
            exact h
          have e3 : (R'.set (1 + j) (.int .u64 x))[1 + j]? = some (.int .u64 x) := List.getElem?_set_self (by rw [HV.out.1.1]; omega)
          obtain ⟨c2, f2⟩ := HR6.out.1.1.cell e2
          obtain ⟨c3, f3⟩ := HR6.out.1.1.cell e3
          have p1 := HR6.out.2.2.2
          have wt : IntKind.u64.wrap t = t := by rw [IntKind.wrap_u64]; omega
          clear e2 e3 hal
          have HU4 : Hid (Up w R l (j + 1) ((W6.setCell ⟨w.heap.size + 1 + 1, 1 + j, none⟩ (.int .u64 t)).setCell ⟨w.heap.size + 1 + 1, 0, none⟩ (.int .i64 ((j : Int) + 1)))) := by
            obtain ⟨h1, h2, h3, h4, -⟩ := HR6.out.1
            have hV := HV.out.1
            have hm : (Sm.up (l.take (2 * j))).length = j := up_many (by have := HK.out; omega)
            refine ⟨((R'.set (1 + j) (.int .u64 x)).set (1 + j) (.int .u64 t)).set 0 (.int .i64 ((j : Int) + 1)), ?_, (h1.set _ (by rw [List.length_set, hV.1]; omega)).set _ (by rw [List.length_set, List.length_set, hV.1]; omega), (h2.other _ _ _ (by omega)).other _ _ _ (by omega), (h3.other _ _ _ (by omega)).other _ _ _ (by omega), (h4.setCell (p := ⟨w.heap.size + 1 + 1, 1 + j, none⟩) (by show w.heap.size ≤ w.heap.size + 1 + 1; omega) _).setCell (p := ⟨w.heap.size + 1 + 1, 0, none⟩) (by show w.heap.size ≤ w.heap.size + 1 + 1; omega) _⟩
            rw [HU3.out]
            have h := hV.push (by rw [hm]; omega) (.int .u64 x) t rfl
            rw [hm, Nat.add_comm j 1] at h
            exact h
          go_wp2
          exact ⟨⟨j + 1, k + 2, by omega, by go_num, by show k + 2 = 2 * (j + 1); have := HK.out; omega, HU4.out⟩, by simp [intOf]; omega⟩
      · have HU3 : Hid (Sm.up (l.take (2 * (j + 1))) = Sm.up (l.take (2 * j)) ++ [x]) := by
          have e := HK.out
          have h := Sm.up_one j l x (by rw [← e]; exact HX.out) (by omega)
          show _ = _
          rw [List.take_of_length_le (by omega), h]
        go_wp2
        go_region
        obtain ⟨W1, hW1⟩ : ∃ W1, W1 = (wr.setCell ⟨w.heap.size + 1 + 1, 1 + j, none⟩ (.int .u64 x)).drew := ⟨_, rfl⟩
        rw [← hW1]
        have HR1 : Hid (RowAt W1 (w.heap.size + 1 + 1) (R'.set (1 + j) (.int .u64 x)) ∧ RowAt W1 w.heap.size R ∧ RowAt W1 (w.heap.size + 1) zeroRow ∧ Ext w W1) := by
          obtain ⟨h1, h2, h3, h4, h5⟩ := HV.out
          rw [hW1]
          exact ⟨(h2.set _ (by rw [h1.1]; omega)).ext ((Ext.refl _).drew), (h3.other _ _ _ (by omega)).ext ((Ext.refl _).drew), (h4.other _ _ _ (by omega)).ext ((Ext.refl _).drew), (h5.setCell (p := ⟨w.heap.size + 1 + 1, 1 + j, none⟩) (by show w.heap.size ≤ w.heap.size + 1 + 1; omega) _).drew⟩
        clear hW1 c0 c2 f2 cx cm fm
        have c0 := (HR1.out.2.1.cell HR.out.many).1
        have e2 : (R'.set (1 + j) (.int .u64 x))[0]? = some (.int .i64 (j : Int)) := by
          rw [List.getElem?_set_ne (by omega)]
          have h := HV.out.1.many
          rw [up_many (by have := HK.out; omega)] at h
          exact h
        obtain ⟨c2, f2⟩ := HR1.out.1.cell e2
        have HU4 : Hid (Up w R l (j + 1) (W1.setCell ⟨w.heap.size + 1 + 1, 0, none⟩ (.int .i64 ((j : Int) + 1)))) := by
          obtain ⟨h1, h2, h3, h4⟩ := HR1.out
          have hV := HV.out.1
          have hm : (Sm.up (l.take (2 * j))).length = j := up_many (by have := HK.out; omega)
          refine ⟨(R'.set (1 + j) (.int .u64 x)).set 0 (.int .i64 ((j : Int) + 1)), ?_, h1.set _ (by rw [List.length_set, hV.1]; omega), h2.other _ _ _ (by omega), h3.other _ _ _ (by omega), h4.setCell (p := ⟨w.heap.size + 1 + 1, 0, none⟩) (by show w.heap.size ≤ w.heap.size + 1 + 1; omega) _⟩
          rw [HU3.out]
          have h := hV.push1 (by rw [hm]; omega) x
          rw [hm, Nat.add_comm j 1] at h
          exact h
        go_wp2
        exact ⟨⟨j + 1, k + 2, by omega, by go_num, by show k + 2 = 2 * (j + 1); have := HK.out; omega, HU4.out⟩, by simp [intOf]; omega⟩
    · have HUl : Hid (RowV R' (Sm.up l)) := by
        have h := hV
        rw [List.take_of_length_le (by omega)] at h
        exact h
      have hR'21 : R'.length = 21 := hV.1
      have hi22 : (Tryz.prog.info? 50).map (·.size) = some R'.length := by rw [hR'21]; exact rowInfo
      have hi22' : (Tryz.prog.info? 50).map (·.size) = some R'.toArray.size := by simpa using hi22
      have h2c : R'.toArray.all (·.oneCell') = true := all_oneCell_toArray hV.2.2.2.2
      clear hV hA2 hA0 hA1 hE hkj
      go_wp2_with (first | (refine wpList_load_mid rfl 50 (.tmp 3) rfl (w.heap.size + 1 + 1) 0 rfl R' _ HV.out.2.1.2.1 Tryz.underlying50 rfl hi22 ?_) | (refine wpList_store_mid rfl 50 (.tmp 2) (.tmp 50) rfl (w.heap.size + 1) 0 R'.toArray rfl rfl (by have h := HV.out.2.2.2.1.there; simpa [zeroRow, hR'21] using h) hi22' h2c ?_))
      refine bodyPost_ret (v := .agg R'.toArray) (results_row Tryz.results27 _ _ (w.heap.size + 1) R' rfl ?_ hR'21) rfl ⟨R', rfl, HUl.out, ext_setCells _ (by omega) _ _ _ HV.out.2.2.2.2⟩
      exact World.rangeAt_setCells_same wr (w.heap.size + 1) 0 R' (by have h := HV.out.2.2.2.1.there; simpa [zeroRow, hR'21] using h)
end Go.Proofs.YtilinjjimiiplaaGreatDoor
