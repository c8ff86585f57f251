/- Y6c4, Y6c5, Y6c6, in one text. -/
import Derived.Test.YtdjnkchaapcjpaaGreatDoorY6a
import Derived.Deep.RegionHeld3
/- the specification's l5Parse where its pieces are of case 4. -/
namespace Go.Proofs.YtdjnkchaapcjpaaGreatDoor
open Go.RowKit
set_option maxHeartbeats 16000000 in
set_option maxRecDepth 100000 in
theorem l5Parse_c4 (s : ByteArray) (w : World) (hs : s.size ≤ 1048576) (hcase : ∀ ps : List ByteArray, ps.map (·.data.toList) = Opr.cutB [] s.data.toList → Opr.case4 ps) : Calls Tryz.prog 59 #[.string s] w fun e w' => ∃ (o : Opn) (b : Bool), e = .returned (.tuple #[oagg o, .bool b]) ∧ (b = true → Opr.fault o = 0 ∧ s.data.toList = Opr.text o) ∧ (∀ z, Opr.fault z = 0 → s.data.toList = Opr.text z → o = z ∧ b = true) ∧ Ext w w' := by
  have HCa : Hid (∀ ps : List ByteArray, ps.map (·.data.toList) = Opr.cutB [] s.data.toList → Opr.case4 ps) := hcase
  clear hcase
  have HC : Hid (∀ wx : World, Calls Tryz.prog 118 #[.string s, .int .u8 32] wx fun e w' => ∃ v ps, e = .returned v ∧ Txts w' v ps ∧ ps.map (·.data.toList) = Opr.cutB [] s.data.toList ∧ Ext wx w') := fun wx => l1CutB_any s wx hs
  have hi9 : (Tryz.prog.info? 2).map (fun i => (i.zero, i.size, i.bytes)) = some (some (.int .i64 0), 1, 8) := by kernel_rfl
  obtain ⟨i0, hi, hx⟩ := Option.map_eq_some_iff.1 hi9
  simp only [Prod.mk.injEq] at hx
  obtain ⟨hz0, hz1, hz2⟩ := hx
  clear hi9
  go_enter Tryz.func59, Tryz.ntmps59
  go_wp2_with fail
  refine (HC.out _).mono ?_
  rintro e w1 ⟨v, ps, rfl, ⟨g, off, cap, rfl, hc1, hc2, hps⟩, hcut, hb⟩
  have E1 : Hid (Ext w w1) := ((Ext.refl _).alloc _).trans hb
  have G1 : Hid (ORes w1 w.heap.size) := (ores_new w _).ext hb
  have HT : Hid (Txts w1 (.slice (some ⟨g, off, none⟩) ps.length cap) ps) := ⟨g, off, cap, rfl, hc1, hc2, hps⟩
  have hlen : ps.length ≤ 1048577 := by
    have h := congrArg List.length hcut
    rw [List.length_map, Opr.cutB_length] at h
    have := List.count_le_length (a := (32 : UInt8)) (l := s.data.toList)
    rw [len_eq] at this
    omega
  have hpos : 0 < ps.length := by
    have h := congrArg List.length hcut
    rw [List.length_map, Opr.cutB_length] at h
    omega
  have HU : Hid (ps.map (·.data.toList) = Opr.cutB [] s.data.toList) := hcut
  clear hcut hb HC
  obtain ⟨p0, hp0⟩ : ∃ p0, ps[0]? = some p0 := ⟨ps[0], List.getElem?_eq_getElem hpos⟩
  have c0 := hps 0 p0 hp0
  rw [Nat.add_zero] at c0
  have HK : Hid (∀ wx : World, Calls Tryz.prog 119 #[.string p0] wx fun e w' => e = .returned (.int .i64 (Opr.kindW p0.data.toList)) ∧ Ext wx w') := fun wx => l5Kind_any p0 wx
  generalize hkd : Opr.kindW p0.data.toList = kd at HK
  have HKD : Hid (Opr.kindW (ps.getD 0 ⟨#[]⟩).data.toList = kd) := by show _ = _; rw [List.getD, hp0]; exact hkd
  clear hkd
  have hgl : g < w1.heap.size := Nat.lt_of_not_le fun h' => by simp [World.cell?, Array.getElem?_eq_none h'] at c0
  have W1 : Hid (CW w1 g off ps) := hps
  have HNs : Hid (∀ (k : Nat) (x : ByteArray) (wx : World), ps[k]? = some x → Calls Tryz.prog 120 #[.string x] wx fun e w' => e = .returned (.tuple #[.int .i64 (Opr.numV x.data.toList).1, .bool (Opr.numV x.data.toList).2]) ∧ w' = wx) := fun k x wx hx => l5Number_any x wx (by
    have h := Opr.cutB_small s.data.toList [] x.data.toList (by rw [← HU.out]; exact List.mem_map_of_mem (List.mem_of_getElem? hx))
    rw [len_eq, len_eq] at h
    simp at h; omega)
  clear hps
  go_wp2_with fail
  refine (HK.out _).mono ?_
  rintro e w2 ⟨rfl, hb⟩
  have E2 : Hid (Ext w w2) := E1.out.trans hb
  have G2 : Hid (ORes w2 w.heap.size) := G1.out.ext hb
  have W2 : Hid (CW w2 g off ps) := W1.out.below hb hgl
  have hgl2 : g < w2.heap.size := Nat.lt_of_lt_of_le hgl (Below.size hb)
  have hwl2 : w.heap.size < w2.heap.size := G2.out.1
  clear hb HK E1 G1 W1 c0 hgl
  obtain ⟨ob, hob⟩ : ∃ ob, ob = w2.heap.size := ⟨_, rfl⟩
  go_wp2
  clear hob
  obtain ⟨ob, hob⟩ : ∃ ob, ob = w2.heap.size := ⟨_, rfl⟩
  obtain ⟨p1, hp1⟩ : ∃ p1, p1 = ps.getD 1 ⟨#[]⟩ := ⟨_, rfl⟩
  have HP1 : Hid (p1 = ps.getD 1 ⟨#[]⟩) := hp1
  clear hp1
  have O2 : Hid (OWr ((w2.alloc (Obj.cells #[.int .i64 kd, .string ⟨#[]⟩, .int .i64 0, .int .i64 0, .bool false, .bool false] 49)).alloc (Obj.cells #[] 2)) ob ⟨kd, ⟨#[]⟩, 0, 0, false, false⟩) := by rw [hob]; exact (owr_new w2 ⟨kd, ⟨#[]⟩, 0, 0, false, false⟩ _).ext ((Ext.refl _).alloc _)
  have N2 : Hid (((w2.alloc (Obj.cells #[.int .i64 kd, .string ⟨#[]⟩, .int .i64 0, .int .i64 0, .bool false, .bool false] 49)).alloc (Obj.cells #[] 2)).ownsRow (ob + 1) 2 1 (.slice (some ⟨ob + 1, 0, none⟩) 0 0) 0 []) := by
    have h := World.ownsRow_made (w2.alloc (Obj.cells #[.int .i64 kd, .string ⟨#[]⟩, .int .i64 0, .int .i64 0, .bool false, .bool false] 49)) #[] 0 (e := 2) (size := 1) (Nat.le_refl _) (by unfold maxLen; omega) rfl
    rw [World.size_alloc, ← hob] at h
    exact h
  have E3 : Hid (Ext w ((w2.alloc (Obj.cells #[.int .i64 kd, .string ⟨#[]⟩, .int .i64 0, .int .i64 0, .bool false, .bool false] 49)).alloc (Obj.cells #[] 2))) := (E2.out.alloc _).alloc _
  have G3 : Hid (ORes ((w2.alloc (Obj.cells #[.int .i64 kd, .string ⟨#[]⟩, .int .i64 0, .int .i64 0, .bool false, .bool false] 49)).alloc (Obj.cells #[] 2)) w.heap.size) := G2.out.ext (((Ext.refl _).alloc _).alloc _)
  have W3 : Hid (CW ((w2.alloc (Obj.cells #[.int .i64 kd, .string ⟨#[]⟩, .int .i64 0, .int .i64 0, .bool false, .bool false] 49)).alloc (Obj.cells #[] 2)) g off ps) := W2.out.below (((Ext.refl _).alloc _).alloc _) hgl2
  have L3 : Hid (ob + 1 ≤ ((w2.alloc (Obj.cells #[.int .i64 kd, .string ⟨#[]⟩, .int .i64 0, .int .i64 0, .bool false, .bool false] 49)).alloc (Obj.cells #[] 2)).heap.size) := by show _ ≤ _; rw [World.size_alloc, World.size_alloc, hob]; omega
  rw [← hob] at hgl2 hwl2 ⊢
  generalize (w2.alloc (Obj.cells #[.int .i64 kd, .string ⟨#[]⟩, .int .i64 0, .int .i64 0, .bool false, .bool false] 49)).alloc (Obj.cells #[] 2) = w3 at *
  clear hob E2 G2 W2
  go_loopw [6, 7] (fun v i wr => ∃ k : Nat, 1 ≤ k ∧ k ≤ ps.length ∧ i = .int .i64 k ∧ Hid (wr.ownsRow (ob + 1) 2 1 v (Opr.nums (Opr.back ps k)).length ((Opr.nums (Opr.back ps k)).map (Value.int .i64))) ∧ Hid (OWr wr ob ⟨kd, if k ≤ 1 then ⟨#[]⟩ else p1, 0, 0, Opr.has (Opr.back ps k) Opr.seqW, Opr.has (Opr.back ps k) Opr.ownW⟩) ∧ Hid (CW wr g off ps) ∧ Hid (Ext w wr) ∧ Hid (ORes wr w.heap.size) ∧ Hid (ob + 1 ≤ wr.heap.size)) (fun _ i _ => ps.length - (intOf i).toNat)
  case atStart => exact ⟨1, Nat.le_refl _, hpos, rfl, by rw [Opr.back_few ps (by omega)]; exact N2, by rw [Opr.back_few ps (by omega)]; exact O2, W3, E3, G3, L3⟩
  case round =>
    obtain ⟨k, hk1, hk, rfl, HO, HW, HCw, HE, HR, HL⟩ := hrel
    by_cases hlt : k < ps.length
    · obtain ⟨x, hx⟩ : ∃ x, ps[k]? = some x := ⟨ps[k], List.getElem?_eq_getElem hlt⟩
      have ck := HCw.out k x hx
      obtain ⟨n, b, hnb⟩ : ∃ n b, Opr.numV x.data.toList = (n, b) := ⟨_, _, rfl⟩
      obtain ⟨⟨ol, o0, o1, o2, o3, o4, o5⟩, of⟩ := HW.out
      have f1 := of 1 (by omega)
      have f4 := of 4 (by omega)
      have f5 := of 5 (by omega)
      clear of
      by_cases h1 : k = 1
      · subst h1
        have hxp : x = p1 := by rw [HP1.out, List.getD, hx]; rfl
        subst hxp
        go_wp2_with (go_at_call 120; refine (HNs.out _ _ _ hx).mono ?_; rintro e w' ⟨rfl, rfl⟩; rw [hnb])
        refine ⟨⟨2, by omega, by omega, by go_num, ?_, ?_, HCw.out.set (by omega), HE.out.setCell (p := ⟨ob, 1, none⟩) (by show _ ≤ ob; omega) _, HR.out.set (by omega), by have := HL.out; show _ ≤ _; simpa using this⟩, by simp [intOf]; omega⟩
        · rw [Opr.back_few ps (by omega)]
          have h := HO.out
          rw [Opr.back_few ps (by omega)] at h
          exact ownsRow_setCell_below h (a := ⟨ob, 1, none⟩) (by show ob < ob + 1; omega) _
        · rw [Opr.back_few ps (by omega)]
          have h := HW.out
          rw [Opr.back_few ps (by omega)] at h
          exact h.path1 x
      · have hk2 : 2 ≤ k := by omega
        have e1 : ((k : Int) == 1) = false := by simp; omega
        have HB1 : Hid (Opr.back ps (k + 1) = Opr.back ps k ++ [x]) := Opr.back_on hx hk2
        have hnl : (Opr.nums (Opr.back ps k)).length ≤ 1048577 := Nat.le_trans (Opr.nums_few _) (Nat.le_trans (Opr.back_len ps k) (by omega))
        rw [if_neg (by omega)] at o1
        have HW' : Hid (OWr wr ob ⟨kd, p1, 0, 0, Opr.has (Opr.back ps k) Opr.seqW, Opr.has (Opr.back ps k) Opr.ownW⟩) := by have h := HW.out; rw [if_neg (by omega)] at h; exact h
        clear HW
        cases b
        · have HNb : Hid (Opr.numV x.data.toList = (n, false)) := hnb
          by_cases hsq : x.data.toList = Opr.seqW
          · have hq : (x.toList == [115, 101, 113]) = true := by rw [show ([115, 101, 113] : List UInt8) = (⟨#[115, 101, 113]⟩ : ByteArray).toList from by rw [Lib.toList_data], beq_val, decide_eq_true_eq]; exact hsq
            have HSq : Hid (x.data.toList = Opr.seqW) := hsq
            clear hsq
            go_wp2_with (go_at_call 120; refine (HNs.out _ _ _ hx).mono ?_; rintro e w' ⟨rfl, rfl⟩; rw [hnb])
            refine ⟨⟨k + 1, by omega, by omega, by go_num, ?_, ?_, HCw.out.set (by omega), HE.out.setCell (p := ⟨ob, 4, none⟩) (by show _ ≤ ob; omega) _, HR.out.set (by omega), by have := HL.out; show _ ≤ _; simpa using this⟩, by simp [intOf]; omega⟩
            · rw [HB1.out, Opr.nums_pass _ HNb.out]
              exact ownsRow_setCell_below HO.out (a := ⟨ob, 4, none⟩) (by show ob < ob + 1; omega) _
            · rw [HB1.out, Opr.has_snoc, Opr.has_snoc, HSq.out, if_neg (by omega)]
              have h := HW'.out.seqd true
              rw [show (Opr.has (Opr.back ps k) Opr.seqW || decide (Opr.seqW = Opr.seqW)) = true from by simp, show (Opr.has (Opr.back ps k) Opr.ownW || decide (Opr.seqW = Opr.ownW)) = Opr.has (Opr.back ps k) Opr.ownW from by rw [show decide (Opr.seqW = Opr.ownW) = false from by decide, Bool.or_false]]
              exact h
          · have hq : (x.toList == [115, 101, 113]) = false := by rw [show ([115, 101, 113] : List UInt8) = (⟨#[115, 101, 113]⟩ : ByteArray).toList from by rw [Lib.toList_data], beq_val, decide_eq_false_iff_not]; exact hsq
            have HSq : Hid (decide (x.data.toList = Opr.seqW) = false) := by show _ = _; rw [decide_eq_false_iff_not]; exact hsq
            clear hsq
            by_cases how : x.data.toList = Opr.ownW
            · have hr : (x.toList == [111, 119, 110]) = true := by rw [show ([111, 119, 110] : List UInt8) = (⟨#[111, 119, 110]⟩ : ByteArray).toList from by rw [Lib.toList_data], beq_val, decide_eq_true_eq]; exact how
              have HOw : Hid (decide (x.data.toList = Opr.ownW) = true) := by show _ = _; rw [decide_eq_true_eq]; exact how
              clear how
              go_wp2_with (go_at_call 120; refine (HNs.out _ _ _ hx).mono ?_; rintro e w' ⟨rfl, rfl⟩; rw [hnb])
              refine ⟨⟨k + 1, by omega, by omega, by go_num, ?_, ?_, HCw.out.set (by omega), HE.out.setCell (p := ⟨ob, 5, none⟩) (by show _ ≤ ob; omega) _, HR.out.set (by omega), by have := HL.out; show _ ≤ _; simpa using this⟩, by simp [intOf]; omega⟩
              · rw [HB1.out, Opr.nums_pass _ HNb.out]
                exact ownsRow_setCell_below HO.out (a := ⟨ob, 5, none⟩) (by show ob < ob + 1; omega) _
              · rw [HB1.out, Opr.has_snoc, Opr.has_snoc, HSq.out, HOw.out, if_neg (by omega), Bool.or_false, Bool.or_true]
                exact HW'.out.ownd true
            · have hr : (x.toList == [111, 119, 110]) = false := by rw [show ([111, 119, 110] : List UInt8) = (⟨#[111, 119, 110]⟩ : ByteArray).toList from by rw [Lib.toList_data], beq_val, decide_eq_false_iff_not]; exact how
              have HOw : Hid (decide (x.data.toList = Opr.ownW) = false) := by show _ = _; rw [decide_eq_false_iff_not]; exact how
              clear how
              go_wp2_with (go_at_call 120; refine (HNs.out _ _ _ hx).mono ?_; rintro e w' ⟨rfl, rfl⟩; rw [hnb])
              refine ⟨⟨k + 1, by omega, by omega, by go_num, ?_, ?_, HCw, HE, HR, HL⟩, by simp [intOf]; omega⟩
              · rw [HB1.out, Opr.nums_pass _ HNb.out]
                exact HO
              · rw [HB1.out, Opr.has_snoc, Opr.has_snoc, HSq.out, HOw.out, if_neg (by omega), Bool.or_false, Bool.or_false]
                exact HW'
        · have HNb : Hid (Opr.numV x.data.toList = (n, true)) := hnb
          go_wp2_with (first | (go_at_call 120; refine (HNs.out _ _ _ hx).mono ?_; rintro e w' ⟨rfl, rfl⟩; rw [hnb]) | (at_builtin; go_must (refine wpList_append_own _ rfl _ _ 164 rfl (ob + 1) 2 i0 (.int .i64 0) 1 8 Tryz.underlying164 hi hz0 hz1 hz2 rfl (by decide) _ _ _ rfl (HO.out.alloc _) ⟨w'.heap.size, 0, none⟩ 1 1 [.int .i64 n] rfl rfl (cell_one_new _ _ _) (fun x hx => by simp at hx; subst hx; rfl) (by unfold maxLen; omega) (by omega) (by have := HL.out; simp; omega) ?_; intro v' w4 hown' hgrow3 hnil3)))
          have hB4 : Below (ob + 1) w' w4 := ((Below.refl _ _).alloc HL.out _).grown hgrow3 (by have := HL.out; simp; omega) (fun q hq => (HO.out.lt q hq).1)
          refine ⟨⟨k + 1, by omega, by omega, by go_num, ?_, ?_, HCw.out.below hB4 (by omega), Below.trans HE.out (hB4.mono (by omega)), HR.out.below hB4 (by omega), Nat.le_trans HL.out hB4.size⟩, by simp [intOf]; omega⟩
          · rw [HB1.out, Opr.nums_snoc _ HNb.out, List.map_append, List.length_append]
            exact hown'
          · rw [HB1.out, Opr.has_snoc, Opr.has_snoc, Opr.no_word HNb.out Opr.numV_seq, Opr.no_word HNb.out Opr.numV_own, if_neg (by omega), Bool.or_false, Bool.or_false]
            exact HW'.out.below hB4 (by omega)
    · have hk' : k = ps.length := by omega
      subst hk'
      have HBk : Hid (Opr.back ps ps.length = ps.drop 2) := by show _ = _; unfold Opr.back; rw [List.take_of_length_le (Nat.le_refl _)]
      have HPk : Hid ((if ps.length ≤ 1 then ⟨#[]⟩ else p1) = ps.getD 1 ⟨#[]⟩) := by
        show _ = _
        rw [HP1.out]
        split
        · rw [List.getD, List.getElem?_eq_none (by omega)]; rfl
        · rfl
      have hw := HW.out
      have ho := HO.out
      rw [HBk.out] at hw ho
      rw [HPk.out] at hw
      have HW2 : Hid (OWr wr ob ⟨kd, ps.getD 1 ⟨#[]⟩, 0, 0, Opr.has (ps.drop 2) Opr.seqW, Opr.has (ps.drop 2) Opr.ownW⟩) := hw
      have HO2 : Hid (wr.ownsRow (ob + 1) 2 1 _ (Opr.nums (ps.drop 2)).length ((Opr.nums (ps.drop 2)).map (Value.int .i64))) := ho
      clear hw ho HW HO HBk HPk HP1
      obtain ⟨⟨ol, o0, o1, o2, o3, o4, o5⟩, of⟩ := HW2.out
      have HD : Hid (∀ wx : World, Calls Tryz.prog 121 #[.int .i64 kd] wx fun e w' => e = .returned (.bool (Opr.hasData kd)) ∧ w' = wx) := fun wx => l5Data_any kd wx
      have HVn : Hid (∀ wx : World, Calls Tryz.prog 122 #[.int .i64 kd] wx fun e w' => e = .returned (.bool (Opr.hasVer kd)) ∧ w' = wx) := fun wx => l5Version_any kd wx
      have HGp : Hid (Opr.guessP ps = ⟨kd, ps.getD 1 ⟨#[]⟩, if Opr.hasData kd = true then (Opr.nums (ps.drop 2)).headD 0 else 0, if Opr.hasVer kd = true then (if Opr.hasData kd = true then (Opr.nums (ps.drop 2)).tail else Opr.nums (ps.drop 2)).headD 0 else 0, Opr.has (ps.drop 2) Opr.seqW, Opr.has (ps.drop 2) Opr.ownW⟩) := by
        show _ = _
        unfold Opr.guessP
        rw [HKD.out]
      have HZ : Hid (∀ z, Opr.fault z = 0 → s.data.toList = Opr.text z → Opr.guessP ps = z) := fun z hf hz => Opr.guessP_words hf (by rw [HU.out, hz]; exact Opr.cut_text hf rfl)
      have HCs : Hid (Opr.hasData kd = true ∧ Opr.hasVer kd = false ∧ (Opr.nums (ps.drop 2) = [])) := by
        have h := HCa.out ps HU.out
        unfold Opr.case4 at h
        rw [HKD.out] at h
        exact h
      obtain ⟨A, cp, hv, hlc, hcm, hat⟩ := nums_at HO2.out
      have HAt : Hid (∀ (j : Nat) x, (Opr.nums (ps.drop 2))[j]? = some x → ∃ g, A = some ⟨g, 0, none⟩ ∧ ob + 1 ≤ g ∧ g < wr.heap.size ∧ wr.cell? ⟨g, j, none⟩ = some (.int .i64 x)) := hat
      subst hv
      clear hat HO2 HKD HU
      unfold maxLen at hcm
      generalize Opr.nums (ps.drop 2) = N at *
      generalize Opr.has (ps.drop 2) Opr.seqW = sq at *
      generalize Opr.has (ps.drop 2) Opr.ownW = ow at *
      generalize ps.getD 1 ⟨#[]⟩ = p2 at *
      obtain ⟨hD, hV, rfl⟩ := HCs.out
      clear HCs
      go_wp2_with fail
      refine (HD.out _).mono ?_
      rintro e w9 ⟨rfl, hw9⟩
      rw [hw9, hD]
      clear hw9 w9
      go_wp2_with fail
      refine (HVn.out _).mono ?_
      rintro e w9 ⟨rfl, hw9⟩
      rw [hw9, hV]
      clear hw9 w9
      have OF : Hid (OWr wr ob ⟨kd, p2, 0, 0, sq, ow⟩) := HW2.out
      have EF : Hid (Ext w wr) := HE.out
      have RF : Hid (ORes wr w.heap.size) := HR.out
      go_wp2
      have HGo : Hid (Opr.guessP ps = ⟨kd, p2, 0, 0, sq, ow⟩) := by show _ = _; rw [HGp.out]; simp [hD, hV]
      obtain ⟨W, hWW⟩ : ∃ W, W = wr := ⟨_, rfl⟩
      rw [← hWW] at EF OF RF ⊢
      clear hWW
      have HOp : Hid (∀ wx : World, Ext W wx → Calls Tryz.prog 73 #[.pointer (some ⟨ob, 0, none⟩)] wx fun e w' => e = .returned (.int .i64 (Opr.fault ⟨kd, p2, 0, 0, sq, ow⟩)) ∧ Ext wx w') := fun wx he => l5Op_any ob 0 ⟨kd, p2, 0, 0, sq, ow⟩ wx (OF.out.ext he).1.1 (by obtain ⟨-, q0, q1, q2, q3, q4, q5⟩ := (OF.out.ext he).1; exact ⟨q0, q1, q2, q3, q4, q5⟩)
      have HTx : Hid (Opr.fault ⟨kd, p2, 0, 0, sq, ow⟩ = 0 → ∀ wx : World, Ext W wx → Calls Tryz.prog 67 #[.pointer (some ⟨ob, 0, none⟩)] wx fun e w' => e = .returned (.string (mkB (Opr.text ⟨kd, p2, 0, 0, sq, ow⟩))) ∧ Ext wx w') := fun hf wx he => l5Text_any ob 0 ⟨kd, p2, 0, 0, sq, ow⟩ wx (OF.out.ext he).1.1 (by obtain ⟨-, q0, q1, q2, q3, q4, q5⟩ := (OF.out.ext he).1; exact ⟨q0, q1, q2, q3, q4, q5⟩) hf
      obtain ⟨⟨kl, k0, k1, k2, k3, k4, k5⟩, -⟩ := OF.out
      by_cases hf : Opr.fault ⟨kd, p2, 0, 0, sq, ow⟩ = 0
      · have HT : Hid _ := HTx.out hf
        rw [hf] at HOp
        have HF0 : Hid (Opr.fault ⟨kd, p2, 0, 0, sq, ow⟩ = 0) := hf
        have htx : (mkB (Opr.text ⟨kd, p2, 0, 0, sq, ow⟩)).data.toList = Opr.text ⟨kd, p2, 0, 0, sq, ow⟩ := mkB_list _
        generalize hTX : mkB (Opr.text ⟨kd, p2, 0, 0, sq, ow⟩) = TX at *
        obtain ⟨B, hB⟩ : ∃ B, (TX.toList == s.toList) = B := ⟨_, rfl⟩
        have HB : Hid ((B = true → s.data.toList = Opr.text ⟨kd, p2, 0, 0, sq, ow⟩) ∧ (s.data.toList = Opr.text ⟨kd, p2, 0, 0, sq, ow⟩ → B = true)) := by
          rw [beq_val, htx] at hB
          rw [← hB]
          exact ⟨fun h => (of_decide_eq_true h).symm, fun h => decide_eq_true h.symm⟩
        clear hTX htx hf HTx
        go_region_with (first
          | (go_at_call 73; refine (HOp.out _ (by first | exact (Ext.refl _).drew | exact Ext.refl _)).mono ?_; rintro e w5 ⟨rfl, hb5⟩; have X5 : Hid (Ext W w5) := (by first | exact ((Ext.refl _).drew).trans hb5 | exact hb5); obtain ⟨⟨jl, j0, j1, j2, j3, j4, j5⟩, -⟩ := OF.out.ext X5.out; clear hb5)
          | (go_at_call 67; refine (HT.out _ (by first | exact X5.out.drew | exact X5.out)).mono ?_; rintro e w6 ⟨rfl, hb6⟩; have X6 : Hid (Ext W w6) := X5.out.trans (by first | exact ((Ext.refl _).drew).trans hb6 | exact hb6); have E6 : Hid (Ext w w6) := EF.out.trans X6.out; obtain ⟨⟨il, i0, i1, i2, i3, i4, i5⟩, -⟩ := OF.out.ext X6.out; have R6 := RF.out.ext X6.out; obtain ⟨⟨u0, r0⟩, g0⟩ := R6.2 0 (by omega); obtain ⟨⟨u1, r1⟩, g1⟩ := R6.2 1 (by omega); obtain ⟨⟨u2, r2⟩, g2⟩ := R6.2 2 (by omega); obtain ⟨⟨u3, r3⟩, g3⟩ := R6.2 3 (by omega); obtain ⟨⟨u4, r4⟩, g4⟩ := R6.2 4 (by omega); obtain ⟨⟨u5, r5⟩, g5⟩ := R6.2 5 (by omega); clear hb6))
        all_goals
          go_wp2
          refine bodyPost_ret (v := .tuple #[oagg ⟨kd, p2, 0, 0, sq, ow⟩, .bool B]) (by simp [results, Tryz.results59, go_sem, oagg, *]) rfl ⟨⟨kd, p2, 0, 0, sq, ow⟩, B, rfl, fun h => ⟨HF0.out, HB.out.1 h⟩, fun z hf hz => ?_, ?_⟩
          · have e := HZ.out z hf hz
            rw [HGo.out] at e
            exact ⟨e, HB.out.2 (by rw [e]; exact hz)⟩
          · exact ((((((E6.out.setCell (p := ⟨w.heap.size, 0, none⟩) (Nat.le_refl _) _).setCell (p := ⟨w.heap.size, 1, none⟩) (Nat.le_refl _) _).setCell (p := ⟨w.heap.size, 2, none⟩) (Nat.le_refl _) _).setCell (p := ⟨w.heap.size, 3, none⟩) (Nat.le_refl _) _).setCell (p := ⟨w.heap.size, 4, none⟩) (Nat.le_refl _) _).setCell (p := ⟨w.heap.size, 5, none⟩) (Nat.le_refl _) _)
      · have HF1 : Hid (¬ Opr.fault ⟨kd, p2, 0, 0, sq, ow⟩ = 0) := hf
        obtain ⟨fc, hfc⟩ : ∃ fc, Opr.fault ⟨kd, p2, 0, 0, sq, ow⟩ = fc := ⟨_, rfl⟩
        have h0c : (fc == 0) = false := by rw [← hfc]; simpa using hf
        rw [hfc] at HOp
        clear HTx hfc hf
        have R5 := RF.out
        first
          | (go_region_with (go_at_call 73; refine (HOp.out _ (by first | exact (Ext.refl _).drew | exact Ext.refl _)).mono ?_; rintro e w5 ⟨rfl, hb5⟩; have X5 : Hid (Ext W w5) := (by first | exact ((Ext.refl _).drew).trans hb5 | exact hb5); have E5 : Hid (Ext w w5) := EF.out.trans X5.out; obtain ⟨⟨jl, j0, j1, j2, j3, j4, j5⟩, -⟩ := OF.out.ext X5.out; have R6 := RF.out.ext X5.out; obtain ⟨⟨u0, r0⟩, g0⟩ := R6.2 0 (by omega); obtain ⟨⟨u1, r1⟩, g1⟩ := R6.2 1 (by omega); obtain ⟨⟨u2, r2⟩, g2⟩ := R6.2 2 (by omega); obtain ⟨⟨u3, r3⟩, g3⟩ := R6.2 3 (by omega); obtain ⟨⟨u4, r4⟩, g4⟩ := R6.2 4 (by omega); obtain ⟨⟨u5, r5⟩, g5⟩ := R6.2 5 (by omega); clear hb5 EF))
          | fail
        all_goals
          go_wp2
          refine bodyPost_ret (v := .tuple #[oagg ⟨kd, p2, 0, 0, sq, ow⟩, .bool false]) (by simp [results, Tryz.results59, go_sem, oagg, *]) rfl ⟨⟨kd, p2, 0, 0, sq, ow⟩, false, rfl, (fun h => by cases h), fun z hf hz => ?_, ?_⟩
          · have e := HZ.out z hf hz
            rw [HGo.out] at e
            exact absurd (by rw [e]; exact hf) HF1.out
          · exact ((((((E5.out.setCell (p := ⟨w.heap.size, 0, none⟩) (Nat.le_refl _) _).setCell (p := ⟨w.heap.size, 1, none⟩) (Nat.le_refl _) _).setCell (p := ⟨w.heap.size, 2, none⟩) (Nat.le_refl _) _).setCell (p := ⟨w.heap.size, 3, none⟩) (Nat.le_refl _) _).setCell (p := ⟨w.heap.size, 4, none⟩) (Nat.le_refl _) _).setCell (p := ⟨w.heap.size, 5, none⟩) (Nat.le_refl _) _)
end Go.Proofs.YtdjnkchaapcjpaaGreatDoor

/- the specification's l5Parse where its pieces are of case 5. -/
namespace Go.Proofs.YtdjnkchaapcjpaaGreatDoor
open Go.RowKit
set_option maxHeartbeats 16000000 in
set_option maxRecDepth 100000 in
theorem l5Parse_c5 (s : ByteArray) (w : World) (hs : s.size ≤ 1048576) (hcase : ∀ ps : List ByteArray, ps.map (·.data.toList) = Opr.cutB [] s.data.toList → Opr.case5 ps) : Calls Tryz.prog 59 #[.string s] w fun e w' => ∃ (o : Opn) (b : Bool), e = .returned (.tuple #[oagg o, .bool b]) ∧ (b = true → Opr.fault o = 0 ∧ s.data.toList = Opr.text o) ∧ (∀ z, Opr.fault z = 0 → s.data.toList = Opr.text z → o = z ∧ b = true) ∧ Ext w w' := by
  have HCa : Hid (∀ ps : List ByteArray, ps.map (·.data.toList) = Opr.cutB [] s.data.toList → Opr.case5 ps) := hcase
  clear hcase
  have HC : Hid (∀ wx : World, Calls Tryz.prog 118 #[.string s, .int .u8 32] wx fun e w' => ∃ v ps, e = .returned v ∧ Txts w' v ps ∧ ps.map (·.data.toList) = Opr.cutB [] s.data.toList ∧ Ext wx w') := fun wx => l1CutB_any s wx hs
  have hi9 : (Tryz.prog.info? 2).map (fun i => (i.zero, i.size, i.bytes)) = some (some (.int .i64 0), 1, 8) := by kernel_rfl
  obtain ⟨i0, hi, hx⟩ := Option.map_eq_some_iff.1 hi9
  simp only [Prod.mk.injEq] at hx
  obtain ⟨hz0, hz1, hz2⟩ := hx
  clear hi9
  go_enter Tryz.func59, Tryz.ntmps59
  go_wp2_with fail
  refine (HC.out _).mono ?_
  rintro e w1 ⟨v, ps, rfl, ⟨g, off, cap, rfl, hc1, hc2, hps⟩, hcut, hb⟩
  have E1 : Hid (Ext w w1) := ((Ext.refl _).alloc _).trans hb
  have G1 : Hid (ORes w1 w.heap.size) := (ores_new w _).ext hb
  have HT : Hid (Txts w1 (.slice (some ⟨g, off, none⟩) ps.length cap) ps) := ⟨g, off, cap, rfl, hc1, hc2, hps⟩
  have hlen : ps.length ≤ 1048577 := by
    have h := congrArg List.length hcut
    rw [List.length_map, Opr.cutB_length] at h
    have := List.count_le_length (a := (32 : UInt8)) (l := s.data.toList)
    rw [len_eq] at this
    omega
  have hpos : 0 < ps.length := by
    have h := congrArg List.length hcut
    rw [List.length_map, Opr.cutB_length] at h
    omega
  have HU : Hid (ps.map (·.data.toList) = Opr.cutB [] s.data.toList) := hcut
  clear hcut hb HC
  obtain ⟨p0, hp0⟩ : ∃ p0, ps[0]? = some p0 := ⟨ps[0], List.getElem?_eq_getElem hpos⟩
  have c0 := hps 0 p0 hp0
  rw [Nat.add_zero] at c0
  have HK : Hid (∀ wx : World, Calls Tryz.prog 119 #[.string p0] wx fun e w' => e = .returned (.int .i64 (Opr.kindW p0.data.toList)) ∧ Ext wx w') := fun wx => l5Kind_any p0 wx
  generalize hkd : Opr.kindW p0.data.toList = kd at HK
  have HKD : Hid (Opr.kindW (ps.getD 0 ⟨#[]⟩).data.toList = kd) := by show _ = _; rw [List.getD, hp0]; exact hkd
  clear hkd
  have hgl : g < w1.heap.size := Nat.lt_of_not_le fun h' => by simp [World.cell?, Array.getElem?_eq_none h'] at c0
  have W1 : Hid (CW w1 g off ps) := hps
  have HNs : Hid (∀ (k : Nat) (x : ByteArray) (wx : World), ps[k]? = some x → Calls Tryz.prog 120 #[.string x] wx fun e w' => e = .returned (.tuple #[.int .i64 (Opr.numV x.data.toList).1, .bool (Opr.numV x.data.toList).2]) ∧ w' = wx) := fun k x wx hx => l5Number_any x wx (by
    have h := Opr.cutB_small s.data.toList [] x.data.toList (by rw [← HU.out]; exact List.mem_map_of_mem (List.mem_of_getElem? hx))
    rw [len_eq, len_eq] at h
    simp at h; omega)
  clear hps
  go_wp2_with fail
  refine (HK.out _).mono ?_
  rintro e w2 ⟨rfl, hb⟩
  have E2 : Hid (Ext w w2) := E1.out.trans hb
  have G2 : Hid (ORes w2 w.heap.size) := G1.out.ext hb
  have W2 : Hid (CW w2 g off ps) := W1.out.below hb hgl
  have hgl2 : g < w2.heap.size := Nat.lt_of_lt_of_le hgl (Below.size hb)
  have hwl2 : w.heap.size < w2.heap.size := G2.out.1
  clear hb HK E1 G1 W1 c0 hgl
  obtain ⟨ob, hob⟩ : ∃ ob, ob = w2.heap.size := ⟨_, rfl⟩
  go_wp2
  clear hob
  obtain ⟨ob, hob⟩ : ∃ ob, ob = w2.heap.size := ⟨_, rfl⟩
  obtain ⟨p1, hp1⟩ : ∃ p1, p1 = ps.getD 1 ⟨#[]⟩ := ⟨_, rfl⟩
  have HP1 : Hid (p1 = ps.getD 1 ⟨#[]⟩) := hp1
  clear hp1
  have O2 : Hid (OWr ((w2.alloc (Obj.cells #[.int .i64 kd, .string ⟨#[]⟩, .int .i64 0, .int .i64 0, .bool false, .bool false] 49)).alloc (Obj.cells #[] 2)) ob ⟨kd, ⟨#[]⟩, 0, 0, false, false⟩) := by rw [hob]; exact (owr_new w2 ⟨kd, ⟨#[]⟩, 0, 0, false, false⟩ _).ext ((Ext.refl _).alloc _)
  have N2 : Hid (((w2.alloc (Obj.cells #[.int .i64 kd, .string ⟨#[]⟩, .int .i64 0, .int .i64 0, .bool false, .bool false] 49)).alloc (Obj.cells #[] 2)).ownsRow (ob + 1) 2 1 (.slice (some ⟨ob + 1, 0, none⟩) 0 0) 0 []) := by
    have h := World.ownsRow_made (w2.alloc (Obj.cells #[.int .i64 kd, .string ⟨#[]⟩, .int .i64 0, .int .i64 0, .bool false, .bool false] 49)) #[] 0 (e := 2) (size := 1) (Nat.le_refl _) (by unfold maxLen; omega) rfl
    rw [World.size_alloc, ← hob] at h
    exact h
  have E3 : Hid (Ext w ((w2.alloc (Obj.cells #[.int .i64 kd, .string ⟨#[]⟩, .int .i64 0, .int .i64 0, .bool false, .bool false] 49)).alloc (Obj.cells #[] 2))) := (E2.out.alloc _).alloc _
  have G3 : Hid (ORes ((w2.alloc (Obj.cells #[.int .i64 kd, .string ⟨#[]⟩, .int .i64 0, .int .i64 0, .bool false, .bool false] 49)).alloc (Obj.cells #[] 2)) w.heap.size) := G2.out.ext (((Ext.refl _).alloc _).alloc _)
  have W3 : Hid (CW ((w2.alloc (Obj.cells #[.int .i64 kd, .string ⟨#[]⟩, .int .i64 0, .int .i64 0, .bool false, .bool false] 49)).alloc (Obj.cells #[] 2)) g off ps) := W2.out.below (((Ext.refl _).alloc _).alloc _) hgl2
  have L3 : Hid (ob + 1 ≤ ((w2.alloc (Obj.cells #[.int .i64 kd, .string ⟨#[]⟩, .int .i64 0, .int .i64 0, .bool false, .bool false] 49)).alloc (Obj.cells #[] 2)).heap.size) := by show _ ≤ _; rw [World.size_alloc, World.size_alloc, hob]; omega
  rw [← hob] at hgl2 hwl2 ⊢
  generalize (w2.alloc (Obj.cells #[.int .i64 kd, .string ⟨#[]⟩, .int .i64 0, .int .i64 0, .bool false, .bool false] 49)).alloc (Obj.cells #[] 2) = w3 at *
  clear hob E2 G2 W2
  go_loopw [6, 7] (fun v i wr => ∃ k : Nat, 1 ≤ k ∧ k ≤ ps.length ∧ i = .int .i64 k ∧ Hid (wr.ownsRow (ob + 1) 2 1 v (Opr.nums (Opr.back ps k)).length ((Opr.nums (Opr.back ps k)).map (Value.int .i64))) ∧ Hid (OWr wr ob ⟨kd, if k ≤ 1 then ⟨#[]⟩ else p1, 0, 0, Opr.has (Opr.back ps k) Opr.seqW, Opr.has (Opr.back ps k) Opr.ownW⟩) ∧ Hid (CW wr g off ps) ∧ Hid (Ext w wr) ∧ Hid (ORes wr w.heap.size) ∧ Hid (ob + 1 ≤ wr.heap.size)) (fun _ i _ => ps.length - (intOf i).toNat)
  case atStart => exact ⟨1, Nat.le_refl _, hpos, rfl, by rw [Opr.back_few ps (by omega)]; exact N2, by rw [Opr.back_few ps (by omega)]; exact O2, W3, E3, G3, L3⟩
  case round =>
    obtain ⟨k, hk1, hk, rfl, HO, HW, HCw, HE, HR, HL⟩ := hrel
    by_cases hlt : k < ps.length
    · obtain ⟨x, hx⟩ : ∃ x, ps[k]? = some x := ⟨ps[k], List.getElem?_eq_getElem hlt⟩
      have ck := HCw.out k x hx
      obtain ⟨n, b, hnb⟩ : ∃ n b, Opr.numV x.data.toList = (n, b) := ⟨_, _, rfl⟩
      obtain ⟨⟨ol, o0, o1, o2, o3, o4, o5⟩, of⟩ := HW.out
      have f1 := of 1 (by omega)
      have f4 := of 4 (by omega)
      have f5 := of 5 (by omega)
      clear of
      by_cases h1 : k = 1
      · subst h1
        have hxp : x = p1 := by rw [HP1.out, List.getD, hx]; rfl
        subst hxp
        go_wp2_with (go_at_call 120; refine (HNs.out _ _ _ hx).mono ?_; rintro e w' ⟨rfl, rfl⟩; rw [hnb])
        refine ⟨⟨2, by omega, by omega, by go_num, ?_, ?_, HCw.out.set (by omega), HE.out.setCell (p := ⟨ob, 1, none⟩) (by show _ ≤ ob; omega) _, HR.out.set (by omega), by have := HL.out; show _ ≤ _; simpa using this⟩, by simp [intOf]; omega⟩
        · rw [Opr.back_few ps (by omega)]
          have h := HO.out
          rw [Opr.back_few ps (by omega)] at h
          exact ownsRow_setCell_below h (a := ⟨ob, 1, none⟩) (by show ob < ob + 1; omega) _
        · rw [Opr.back_few ps (by omega)]
          have h := HW.out
          rw [Opr.back_few ps (by omega)] at h
          exact h.path1 x
      · have hk2 : 2 ≤ k := by omega
        have e1 : ((k : Int) == 1) = false := by simp; omega
        have HB1 : Hid (Opr.back ps (k + 1) = Opr.back ps k ++ [x]) := Opr.back_on hx hk2
        have hnl : (Opr.nums (Opr.back ps k)).length ≤ 1048577 := Nat.le_trans (Opr.nums_few _) (Nat.le_trans (Opr.back_len ps k) (by omega))
        rw [if_neg (by omega)] at o1
        have HW' : Hid (OWr wr ob ⟨kd, p1, 0, 0, Opr.has (Opr.back ps k) Opr.seqW, Opr.has (Opr.back ps k) Opr.ownW⟩) := by have h := HW.out; rw [if_neg (by omega)] at h; exact h
        clear HW
        cases b
        · have HNb : Hid (Opr.numV x.data.toList = (n, false)) := hnb
          by_cases hsq : x.data.toList = Opr.seqW
          · have hq : (x.toList == [115, 101, 113]) = true := by rw [show ([115, 101, 113] : List UInt8) = (⟨#[115, 101, 113]⟩ : ByteArray).toList from by rw [Lib.toList_data], beq_val, decide_eq_true_eq]; exact hsq
            have HSq : Hid (x.data.toList = Opr.seqW) := hsq
            clear hsq
            go_wp2_with (go_at_call 120; refine (HNs.out _ _ _ hx).mono ?_; rintro e w' ⟨rfl, rfl⟩; rw [hnb])
            refine ⟨⟨k + 1, by omega, by omega, by go_num, ?_, ?_, HCw.out.set (by omega), HE.out.setCell (p := ⟨ob, 4, none⟩) (by show _ ≤ ob; omega) _, HR.out.set (by omega), by have := HL.out; show _ ≤ _; simpa using this⟩, by simp [intOf]; omega⟩
            · rw [HB1.out, Opr.nums_pass _ HNb.out]
              exact ownsRow_setCell_below HO.out (a := ⟨ob, 4, none⟩) (by show ob < ob + 1; omega) _
            · rw [HB1.out, Opr.has_snoc, Opr.has_snoc, HSq.out, if_neg (by omega)]
              have h := HW'.out.seqd true
              rw [show (Opr.has (Opr.back ps k) Opr.seqW || decide (Opr.seqW = Opr.seqW)) = true from by simp, show (Opr.has (Opr.back ps k) Opr.ownW || decide (Opr.seqW = Opr.ownW)) = Opr.has (Opr.back ps k) Opr.ownW from by rw [show decide (Opr.seqW = Opr.ownW) = false from by decide, Bool.or_false]]
              exact h
          · have hq : (x.toList == [115, 101, 113]) = false := by rw [show ([115, 101, 113] : List UInt8) = (⟨#[115, 101, 113]⟩ : ByteArray).toList from by rw [Lib.toList_data], beq_val, decide_eq_false_iff_not]; exact hsq
            have HSq : Hid (decide (x.data.toList = Opr.seqW) = false) := by show _ = _; rw [decide_eq_false_iff_not]; exact hsq
            clear hsq
            by_cases how : x.data.toList = Opr.ownW
            · have hr : (x.toList == [111, 119, 110]) = true := by rw [show ([111, 119, 110] : List UInt8) = (⟨#[111, 119, 110]⟩ : ByteArray).toList from by rw [Lib.toList_data], beq_val, decide_eq_true_eq]; exact how
              have HOw : Hid (decide (x.data.toList = Opr.ownW) = true) := by show _ = _; rw [decide_eq_true_eq]; exact how
              clear how
              go_wp2_with (go_at_call 120; refine (HNs.out _ _ _ hx).mono ?_; rintro e w' ⟨rfl, rfl⟩; rw [hnb])
              refine ⟨⟨k + 1, by omega, by omega, by go_num, ?_, ?_, HCw.out.set (by omega), HE.out.setCell (p := ⟨ob, 5, none⟩) (by show _ ≤ ob; omega) _, HR.out.set (by omega), by have := HL.out; show _ ≤ _; simpa using this⟩, by simp [intOf]; omega⟩
              · rw [HB1.out, Opr.nums_pass _ HNb.out]
                exact ownsRow_setCell_below HO.out (a := ⟨ob, 5, none⟩) (by show ob < ob + 1; omega) _
              · rw [HB1.out, Opr.has_snoc, Opr.has_snoc, HSq.out, HOw.out, if_neg (by omega), Bool.or_false, Bool.or_true]
                exact HW'.out.ownd true
            · have hr : (x.toList == [111, 119, 110]) = false := by rw [show ([111, 119, 110] : List UInt8) = (⟨#[111, 119, 110]⟩ : ByteArray).toList from by rw [Lib.toList_data], beq_val, decide_eq_false_iff_not]; exact how
              have HOw : Hid (decide (x.data.toList = Opr.ownW) = false) := by show _ = _; rw [decide_eq_false_iff_not]; exact how
              clear how
              go_wp2_with (go_at_call 120; refine (HNs.out _ _ _ hx).mono ?_; rintro e w' ⟨rfl, rfl⟩; rw [hnb])
              refine ⟨⟨k + 1, by omega, by omega, by go_num, ?_, ?_, HCw, HE, HR, HL⟩, by simp [intOf]; omega⟩
              · rw [HB1.out, Opr.nums_pass _ HNb.out]
                exact HO
              · rw [HB1.out, Opr.has_snoc, Opr.has_snoc, HSq.out, HOw.out, if_neg (by omega), Bool.or_false, Bool.or_false]
                exact HW'
        · have HNb : Hid (Opr.numV x.data.toList = (n, true)) := hnb
          go_wp2_with (first | (go_at_call 120; refine (HNs.out _ _ _ hx).mono ?_; rintro e w' ⟨rfl, rfl⟩; rw [hnb]) | (at_builtin; go_must (refine wpList_append_own _ rfl _ _ 164 rfl (ob + 1) 2 i0 (.int .i64 0) 1 8 Tryz.underlying164 hi hz0 hz1 hz2 rfl (by decide) _ _ _ rfl (HO.out.alloc _) ⟨w'.heap.size, 0, none⟩ 1 1 [.int .i64 n] rfl rfl (cell_one_new _ _ _) (fun x hx => by simp at hx; subst hx; rfl) (by unfold maxLen; omega) (by omega) (by have := HL.out; simp; omega) ?_; intro v' w4 hown' hgrow3 hnil3)))
          have hB4 : Below (ob + 1) w' w4 := ((Below.refl _ _).alloc HL.out _).grown hgrow3 (by have := HL.out; simp; omega) (fun q hq => (HO.out.lt q hq).1)
          refine ⟨⟨k + 1, by omega, by omega, by go_num, ?_, ?_, HCw.out.below hB4 (by omega), Below.trans HE.out (hB4.mono (by omega)), HR.out.below hB4 (by omega), Nat.le_trans HL.out hB4.size⟩, by simp [intOf]; omega⟩
          · rw [HB1.out, Opr.nums_snoc _ HNb.out, List.map_append, List.length_append]
            exact hown'
          · rw [HB1.out, Opr.has_snoc, Opr.has_snoc, Opr.no_word HNb.out Opr.numV_seq, Opr.no_word HNb.out Opr.numV_own, if_neg (by omega), Bool.or_false, Bool.or_false]
            exact HW'.out.below hB4 (by omega)
    · have hk' : k = ps.length := by omega
      subst hk'
      have HBk : Hid (Opr.back ps ps.length = ps.drop 2) := by show _ = _; unfold Opr.back; rw [List.take_of_length_le (Nat.le_refl _)]
      have HPk : Hid ((if ps.length ≤ 1 then ⟨#[]⟩ else p1) = ps.getD 1 ⟨#[]⟩) := by
        show _ = _
        rw [HP1.out]
        split
        · rw [List.getD, List.getElem?_eq_none (by omega)]; rfl
        · rfl
      have hw := HW.out
      have ho := HO.out
      rw [HBk.out] at hw ho
      rw [HPk.out] at hw
      have HW2 : Hid (OWr wr ob ⟨kd, ps.getD 1 ⟨#[]⟩, 0, 0, Opr.has (ps.drop 2) Opr.seqW, Opr.has (ps.drop 2) Opr.ownW⟩) := hw
      have HO2 : Hid (wr.ownsRow (ob + 1) 2 1 _ (Opr.nums (ps.drop 2)).length ((Opr.nums (ps.drop 2)).map (Value.int .i64))) := ho
      clear hw ho HW HO HBk HPk HP1
      obtain ⟨⟨ol, o0, o1, o2, o3, o4, o5⟩, of⟩ := HW2.out
      have HD : Hid (∀ wx : World, Calls Tryz.prog 121 #[.int .i64 kd] wx fun e w' => e = .returned (.bool (Opr.hasData kd)) ∧ w' = wx) := fun wx => l5Data_any kd wx
      have HVn : Hid (∀ wx : World, Calls Tryz.prog 122 #[.int .i64 kd] wx fun e w' => e = .returned (.bool (Opr.hasVer kd)) ∧ w' = wx) := fun wx => l5Version_any kd wx
      have HGp : Hid (Opr.guessP ps = ⟨kd, ps.getD 1 ⟨#[]⟩, if Opr.hasData kd = true then (Opr.nums (ps.drop 2)).headD 0 else 0, if Opr.hasVer kd = true then (if Opr.hasData kd = true then (Opr.nums (ps.drop 2)).tail else Opr.nums (ps.drop 2)).headD 0 else 0, Opr.has (ps.drop 2) Opr.seqW, Opr.has (ps.drop 2) Opr.ownW⟩) := by
        show _ = _
        unfold Opr.guessP
        rw [HKD.out]
      have HZ : Hid (∀ z, Opr.fault z = 0 → s.data.toList = Opr.text z → Opr.guessP ps = z) := fun z hf hz => Opr.guessP_words hf (by rw [HU.out, hz]; exact Opr.cut_text hf rfl)
      have HCs : Hid (Opr.hasData kd = true ∧ Opr.hasVer kd = true ∧ (Opr.nums (ps.drop 2) = [])) := by
        have h := HCa.out ps HU.out
        unfold Opr.case5 at h
        rw [HKD.out] at h
        exact h
      obtain ⟨A, cp, hv, hlc, hcm, hat⟩ := nums_at HO2.out
      have HAt : Hid (∀ (j : Nat) x, (Opr.nums (ps.drop 2))[j]? = some x → ∃ g, A = some ⟨g, 0, none⟩ ∧ ob + 1 ≤ g ∧ g < wr.heap.size ∧ wr.cell? ⟨g, j, none⟩ = some (.int .i64 x)) := hat
      subst hv
      clear hat HO2 HKD HU
      unfold maxLen at hcm
      generalize Opr.nums (ps.drop 2) = N at *
      generalize Opr.has (ps.drop 2) Opr.seqW = sq at *
      generalize Opr.has (ps.drop 2) Opr.ownW = ow at *
      generalize ps.getD 1 ⟨#[]⟩ = p2 at *
      obtain ⟨hD, hV, rfl⟩ := HCs.out
      clear HCs
      go_wp2_with fail
      refine (HD.out _).mono ?_
      rintro e w9 ⟨rfl, hw9⟩
      rw [hw9, hD]
      clear hw9 w9
      go_wp2_with fail
      refine (HVn.out _).mono ?_
      rintro e w9 ⟨rfl, hw9⟩
      rw [hw9, hV]
      clear hw9 w9
      have OF : Hid (OWr wr ob ⟨kd, p2, 0, 0, sq, ow⟩) := HW2.out
      have EF : Hid (Ext w wr) := HE.out
      have RF : Hid (ORes wr w.heap.size) := HR.out
      go_wp2
      have HGo : Hid (Opr.guessP ps = ⟨kd, p2, 0, 0, sq, ow⟩) := by show _ = _; rw [HGp.out]; simp [hD, hV]
      obtain ⟨W, hWW⟩ : ∃ W, W = wr := ⟨_, rfl⟩
      rw [← hWW] at EF OF RF ⊢
      clear hWW
      have HOp : Hid (∀ wx : World, Ext W wx → Calls Tryz.prog 73 #[.pointer (some ⟨ob, 0, none⟩)] wx fun e w' => e = .returned (.int .i64 (Opr.fault ⟨kd, p2, 0, 0, sq, ow⟩)) ∧ Ext wx w') := fun wx he => l5Op_any ob 0 ⟨kd, p2, 0, 0, sq, ow⟩ wx (OF.out.ext he).1.1 (by obtain ⟨-, q0, q1, q2, q3, q4, q5⟩ := (OF.out.ext he).1; exact ⟨q0, q1, q2, q3, q4, q5⟩)
      have HTx : Hid (Opr.fault ⟨kd, p2, 0, 0, sq, ow⟩ = 0 → ∀ wx : World, Ext W wx → Calls Tryz.prog 67 #[.pointer (some ⟨ob, 0, none⟩)] wx fun e w' => e = .returned (.string (mkB (Opr.text ⟨kd, p2, 0, 0, sq, ow⟩))) ∧ Ext wx w') := fun hf wx he => l5Text_any ob 0 ⟨kd, p2, 0, 0, sq, ow⟩ wx (OF.out.ext he).1.1 (by obtain ⟨-, q0, q1, q2, q3, q4, q5⟩ := (OF.out.ext he).1; exact ⟨q0, q1, q2, q3, q4, q5⟩) hf
      obtain ⟨⟨kl, k0, k1, k2, k3, k4, k5⟩, -⟩ := OF.out
      by_cases hf : Opr.fault ⟨kd, p2, 0, 0, sq, ow⟩ = 0
      · have HT : Hid _ := HTx.out hf
        rw [hf] at HOp
        have HF0 : Hid (Opr.fault ⟨kd, p2, 0, 0, sq, ow⟩ = 0) := hf
        have htx : (mkB (Opr.text ⟨kd, p2, 0, 0, sq, ow⟩)).data.toList = Opr.text ⟨kd, p2, 0, 0, sq, ow⟩ := mkB_list _
        generalize hTX : mkB (Opr.text ⟨kd, p2, 0, 0, sq, ow⟩) = TX at *
        obtain ⟨B, hB⟩ : ∃ B, (TX.toList == s.toList) = B := ⟨_, rfl⟩
        have HB : Hid ((B = true → s.data.toList = Opr.text ⟨kd, p2, 0, 0, sq, ow⟩) ∧ (s.data.toList = Opr.text ⟨kd, p2, 0, 0, sq, ow⟩ → B = true)) := by
          rw [beq_val, htx] at hB
          rw [← hB]
          exact ⟨fun h => (of_decide_eq_true h).symm, fun h => decide_eq_true h.symm⟩
        clear hTX htx hf HTx
        go_region_with (first
          | (go_at_call 73; refine (HOp.out _ (by first | exact (Ext.refl _).drew | exact Ext.refl _)).mono ?_; rintro e w5 ⟨rfl, hb5⟩; have X5 : Hid (Ext W w5) := (by first | exact ((Ext.refl _).drew).trans hb5 | exact hb5); obtain ⟨⟨jl, j0, j1, j2, j3, j4, j5⟩, -⟩ := OF.out.ext X5.out; clear hb5)
          | (go_at_call 67; refine (HT.out _ (by first | exact X5.out.drew | exact X5.out)).mono ?_; rintro e w6 ⟨rfl, hb6⟩; have X6 : Hid (Ext W w6) := X5.out.trans (by first | exact ((Ext.refl _).drew).trans hb6 | exact hb6); have E6 : Hid (Ext w w6) := EF.out.trans X6.out; obtain ⟨⟨il, i0, i1, i2, i3, i4, i5⟩, -⟩ := OF.out.ext X6.out; have R6 := RF.out.ext X6.out; obtain ⟨⟨u0, r0⟩, g0⟩ := R6.2 0 (by omega); obtain ⟨⟨u1, r1⟩, g1⟩ := R6.2 1 (by omega); obtain ⟨⟨u2, r2⟩, g2⟩ := R6.2 2 (by omega); obtain ⟨⟨u3, r3⟩, g3⟩ := R6.2 3 (by omega); obtain ⟨⟨u4, r4⟩, g4⟩ := R6.2 4 (by omega); obtain ⟨⟨u5, r5⟩, g5⟩ := R6.2 5 (by omega); clear hb6))
        all_goals
          go_wp2
          refine bodyPost_ret (v := .tuple #[oagg ⟨kd, p2, 0, 0, sq, ow⟩, .bool B]) (by simp [results, Tryz.results59, go_sem, oagg, *]) rfl ⟨⟨kd, p2, 0, 0, sq, ow⟩, B, rfl, fun h => ⟨HF0.out, HB.out.1 h⟩, fun z hf hz => ?_, ?_⟩
          · have e := HZ.out z hf hz
            rw [HGo.out] at e
            exact ⟨e, HB.out.2 (by rw [e]; exact hz)⟩
          · exact ((((((E6.out.setCell (p := ⟨w.heap.size, 0, none⟩) (Nat.le_refl _) _).setCell (p := ⟨w.heap.size, 1, none⟩) (Nat.le_refl _) _).setCell (p := ⟨w.heap.size, 2, none⟩) (Nat.le_refl _) _).setCell (p := ⟨w.heap.size, 3, none⟩) (Nat.le_refl _) _).setCell (p := ⟨w.heap.size, 4, none⟩) (Nat.le_refl _) _).setCell (p := ⟨w.heap.size, 5, none⟩) (Nat.le_refl _) _)
      · have HF1 : Hid (¬ Opr.fault ⟨kd, p2, 0, 0, sq, ow⟩ = 0) := hf
        obtain ⟨fc, hfc⟩ : ∃ fc, Opr.fault ⟨kd, p2, 0, 0, sq, ow⟩ = fc := ⟨_, rfl⟩
        have h0c : (fc == 0) = false := by rw [← hfc]; simpa using hf
        rw [hfc] at HOp
        clear HTx hfc hf
        have R5 := RF.out
        first
          | (go_region_with (go_at_call 73; refine (HOp.out _ (by first | exact (Ext.refl _).drew | exact Ext.refl _)).mono ?_; rintro e w5 ⟨rfl, hb5⟩; have X5 : Hid (Ext W w5) := (by first | exact ((Ext.refl _).drew).trans hb5 | exact hb5); have E5 : Hid (Ext w w5) := EF.out.trans X5.out; obtain ⟨⟨jl, j0, j1, j2, j3, j4, j5⟩, -⟩ := OF.out.ext X5.out; have R6 := RF.out.ext X5.out; obtain ⟨⟨u0, r0⟩, g0⟩ := R6.2 0 (by omega); obtain ⟨⟨u1, r1⟩, g1⟩ := R6.2 1 (by omega); obtain ⟨⟨u2, r2⟩, g2⟩ := R6.2 2 (by omega); obtain ⟨⟨u3, r3⟩, g3⟩ := R6.2 3 (by omega); obtain ⟨⟨u4, r4⟩, g4⟩ := R6.2 4 (by omega); obtain ⟨⟨u5, r5⟩, g5⟩ := R6.2 5 (by omega); clear hb5 EF))
          | fail
        all_goals
          go_wp2
          refine bodyPost_ret (v := .tuple #[oagg ⟨kd, p2, 0, 0, sq, ow⟩, .bool false]) (by simp [results, Tryz.results59, go_sem, oagg, *]) rfl ⟨⟨kd, p2, 0, 0, sq, ow⟩, false, rfl, (fun h => by cases h), fun z hf hz => ?_, ?_⟩
          · have e := HZ.out z hf hz
            rw [HGo.out] at e
            exact absurd (by rw [e]; exact hf) HF1.out
          · exact ((((((E5.out.setCell (p := ⟨w.heap.size, 0, none⟩) (Nat.le_refl _) _).setCell (p := ⟨w.heap.size, 1, none⟩) (Nat.le_refl _) _).setCell (p := ⟨w.heap.size, 2, none⟩) (Nat.le_refl _) _).setCell (p := ⟨w.heap.size, 3, none⟩) (Nat.le_refl _) _).setCell (p := ⟨w.heap.size, 4, none⟩) (Nat.le_refl _) _).setCell (p := ⟨w.heap.size, 5, none⟩) (Nat.le_refl _) _)
end Go.Proofs.YtdjnkchaapcjpaaGreatDoor

/- the specification's l5Parse where its pieces are of case 6. -/
namespace Go.Proofs.YtdjnkchaapcjpaaGreatDoor
open Go.RowKit
set_option maxHeartbeats 16000000 in
set_option maxRecDepth 100000 in
theorem l5Parse_c6 (s : ByteArray) (w : World) (hs : s.size ≤ 1048576) (hcase : ∀ ps : List ByteArray, ps.map (·.data.toList) = Opr.cutB [] s.data.toList → Opr.case6 ps) : Calls Tryz.prog 59 #[.string s] w fun e w' => ∃ (o : Opn) (b : Bool), e = .returned (.tuple #[oagg o, .bool b]) ∧ (b = true → Opr.fault o = 0 ∧ s.data.toList = Opr.text o) ∧ (∀ z, Opr.fault z = 0 → s.data.toList = Opr.text z → o = z ∧ b = true) ∧ Ext w w' := by
  have HCa : Hid (∀ ps : List ByteArray, ps.map (·.data.toList) = Opr.cutB [] s.data.toList → Opr.case6 ps) := hcase
  clear hcase
  have HC : Hid (∀ wx : World, Calls Tryz.prog 118 #[.string s, .int .u8 32] wx fun e w' => ∃ v ps, e = .returned v ∧ Txts w' v ps ∧ ps.map (·.data.toList) = Opr.cutB [] s.data.toList ∧ Ext wx w') := fun wx => l1CutB_any s wx hs
  have hi9 : (Tryz.prog.info? 2).map (fun i => (i.zero, i.size, i.bytes)) = some (some (.int .i64 0), 1, 8) := by kernel_rfl
  obtain ⟨i0, hi, hx⟩ := Option.map_eq_some_iff.1 hi9
  simp only [Prod.mk.injEq] at hx
  obtain ⟨hz0, hz1, hz2⟩ := hx
  clear hi9
  go_enter Tryz.func59, Tryz.ntmps59
  go_wp2_with fail
  refine (HC.out _).mono ?_
  rintro e w1 ⟨v, ps, rfl, ⟨g, off, cap, rfl, hc1, hc2, hps⟩, hcut, hb⟩
  have E1 : Hid (Ext w w1) := ((Ext.refl _).alloc _).trans hb
  have G1 : Hid (ORes w1 w.heap.size) := (ores_new w _).ext hb
  have HT : Hid (Txts w1 (.slice (some ⟨g, off, none⟩) ps.length cap) ps) := ⟨g, off, cap, rfl, hc1, hc2, hps⟩
  have hlen : ps.length ≤ 1048577 := by
    have h := congrArg List.length hcut
    rw [List.length_map, Opr.cutB_length] at h
    have := List.count_le_length (a := (32 : UInt8)) (l := s.data.toList)
    rw [len_eq] at this
    omega
  have hpos : 0 < ps.length := by
    have h := congrArg List.length hcut
    rw [List.length_map, Opr.cutB_length] at h
    omega
  have HU : Hid (ps.map (·.data.toList) = Opr.cutB [] s.data.toList) := hcut
  clear hcut hb HC
  obtain ⟨p0, hp0⟩ : ∃ p0, ps[0]? = some p0 := ⟨ps[0], List.getElem?_eq_getElem hpos⟩
  have c0 := hps 0 p0 hp0
  rw [Nat.add_zero] at c0
  have HK : Hid (∀ wx : World, Calls Tryz.prog 119 #[.string p0] wx fun e w' => e = .returned (.int .i64 (Opr.kindW p0.data.toList)) ∧ Ext wx w') := fun wx => l5Kind_any p0 wx
  generalize hkd : Opr.kindW p0.data.toList = kd at HK
  have HKD : Hid (Opr.kindW (ps.getD 0 ⟨#[]⟩).data.toList = kd) := by show _ = _; rw [List.getD, hp0]; exact hkd
  clear hkd
  have hgl : g < w1.heap.size := Nat.lt_of_not_le fun h' => by simp [World.cell?, Array.getElem?_eq_none h'] at c0
  have W1 : Hid (CW w1 g off ps) := hps
  have HNs : Hid (∀ (k : Nat) (x : ByteArray) (wx : World), ps[k]? = some x → Calls Tryz.prog 120 #[.string x] wx fun e w' => e = .returned (.tuple #[.int .i64 (Opr.numV x.data.toList).1, .bool (Opr.numV x.data.toList).2]) ∧ w' = wx) := fun k x wx hx => l5Number_any x wx (by
    have h := Opr.cutB_small s.data.toList [] x.data.toList (by rw [← HU.out]; exact List.mem_map_of_mem (List.mem_of_getElem? hx))
    rw [len_eq, len_eq] at h
    simp at h; omega)
  clear hps
  go_wp2_with fail
  refine (HK.out _).mono ?_
  rintro e w2 ⟨rfl, hb⟩
  have E2 : Hid (Ext w w2) := E1.out.trans hb
  have G2 : Hid (ORes w2 w.heap.size) := G1.out.ext hb
  have W2 : Hid (CW w2 g off ps) := W1.out.below hb hgl
  have hgl2 : g < w2.heap.size := Nat.lt_of_lt_of_le hgl (Below.size hb)
  have hwl2 : w.heap.size < w2.heap.size := G2.out.1
  clear hb HK E1 G1 W1 c0 hgl
  obtain ⟨ob, hob⟩ : ∃ ob, ob = w2.heap.size := ⟨_, rfl⟩
  go_wp2
  clear hob
  obtain ⟨ob, hob⟩ : ∃ ob, ob = w2.heap.size := ⟨_, rfl⟩
  obtain ⟨p1, hp1⟩ : ∃ p1, p1 = ps.getD 1 ⟨#[]⟩ := ⟨_, rfl⟩
  have HP1 : Hid (p1 = ps.getD 1 ⟨#[]⟩) := hp1
  clear hp1
  have O2 : Hid (OWr ((w2.alloc (Obj.cells #[.int .i64 kd, .string ⟨#[]⟩, .int .i64 0, .int .i64 0, .bool false, .bool false] 49)).alloc (Obj.cells #[] 2)) ob ⟨kd, ⟨#[]⟩, 0, 0, false, false⟩) := by rw [hob]; exact (owr_new w2 ⟨kd, ⟨#[]⟩, 0, 0, false, false⟩ _).ext ((Ext.refl _).alloc _)
  have N2 : Hid (((w2.alloc (Obj.cells #[.int .i64 kd, .string ⟨#[]⟩, .int .i64 0, .int .i64 0, .bool false, .bool false] 49)).alloc (Obj.cells #[] 2)).ownsRow (ob + 1) 2 1 (.slice (some ⟨ob + 1, 0, none⟩) 0 0) 0 []) := by
    have h := World.ownsRow_made (w2.alloc (Obj.cells #[.int .i64 kd, .string ⟨#[]⟩, .int .i64 0, .int .i64 0, .bool false, .bool false] 49)) #[] 0 (e := 2) (size := 1) (Nat.le_refl _) (by unfold maxLen; omega) rfl
    rw [World.size_alloc, ← hob] at h
    exact h
  have E3 : Hid (Ext w ((w2.alloc (Obj.cells #[.int .i64 kd, .string ⟨#[]⟩, .int .i64 0, .int .i64 0, .bool false, .bool false] 49)).alloc (Obj.cells #[] 2))) := (E2.out.alloc _).alloc _
  have G3 : Hid (ORes ((w2.alloc (Obj.cells #[.int .i64 kd, .string ⟨#[]⟩, .int .i64 0, .int .i64 0, .bool false, .bool false] 49)).alloc (Obj.cells #[] 2)) w.heap.size) := G2.out.ext (((Ext.refl _).alloc _).alloc _)
  have W3 : Hid (CW ((w2.alloc (Obj.cells #[.int .i64 kd, .string ⟨#[]⟩, .int .i64 0, .int .i64 0, .bool false, .bool false] 49)).alloc (Obj.cells #[] 2)) g off ps) := W2.out.below (((Ext.refl _).alloc _).alloc _) hgl2
  have L3 : Hid (ob + 1 ≤ ((w2.alloc (Obj.cells #[.int .i64 kd, .string ⟨#[]⟩, .int .i64 0, .int .i64 0, .bool false, .bool false] 49)).alloc (Obj.cells #[] 2)).heap.size) := by show _ ≤ _; rw [World.size_alloc, World.size_alloc, hob]; omega
  rw [← hob] at hgl2 hwl2 ⊢
  generalize (w2.alloc (Obj.cells #[.int .i64 kd, .string ⟨#[]⟩, .int .i64 0, .int .i64 0, .bool false, .bool false] 49)).alloc (Obj.cells #[] 2) = w3 at *
  clear hob E2 G2 W2
  go_loopw [6, 7] (fun v i wr => ∃ k : Nat, 1 ≤ k ∧ k ≤ ps.length ∧ i = .int .i64 k ∧ Hid (wr.ownsRow (ob + 1) 2 1 v (Opr.nums (Opr.back ps k)).length ((Opr.nums (Opr.back ps k)).map (Value.int .i64))) ∧ Hid (OWr wr ob ⟨kd, if k ≤ 1 then ⟨#[]⟩ else p1, 0, 0, Opr.has (Opr.back ps k) Opr.seqW, Opr.has (Opr.back ps k) Opr.ownW⟩) ∧ Hid (CW wr g off ps) ∧ Hid (Ext w wr) ∧ Hid (ORes wr w.heap.size) ∧ Hid (ob + 1 ≤ wr.heap.size)) (fun _ i _ => ps.length - (intOf i).toNat)
  case atStart => exact ⟨1, Nat.le_refl _, hpos, rfl, by rw [Opr.back_few ps (by omega)]; exact N2, by rw [Opr.back_few ps (by omega)]; exact O2, W3, E3, G3, L3⟩
  case round =>
    obtain ⟨k, hk1, hk, rfl, HO, HW, HCw, HE, HR, HL⟩ := hrel
    by_cases hlt : k < ps.length
    · obtain ⟨x, hx⟩ : ∃ x, ps[k]? = some x := ⟨ps[k], List.getElem?_eq_getElem hlt⟩
      have ck := HCw.out k x hx
      obtain ⟨n, b, hnb⟩ : ∃ n b, Opr.numV x.data.toList = (n, b) := ⟨_, _, rfl⟩
      obtain ⟨⟨ol, o0, o1, o2, o3, o4, o5⟩, of⟩ := HW.out
      have f1 := of 1 (by omega)
      have f4 := of 4 (by omega)
      have f5 := of 5 (by omega)
      clear of
      by_cases h1 : k = 1
      · subst h1
        have hxp : x = p1 := by rw [HP1.out, List.getD, hx]; rfl
        subst hxp
        go_wp2_with (go_at_call 120; refine (HNs.out _ _ _ hx).mono ?_; rintro e w' ⟨rfl, rfl⟩; rw [hnb])
        refine ⟨⟨2, by omega, by omega, by go_num, ?_, ?_, HCw.out.set (by omega), HE.out.setCell (p := ⟨ob, 1, none⟩) (by show _ ≤ ob; omega) _, HR.out.set (by omega), by have := HL.out; show _ ≤ _; simpa using this⟩, by simp [intOf]; omega⟩
        · rw [Opr.back_few ps (by omega)]
          have h := HO.out
          rw [Opr.back_few ps (by omega)] at h
          exact ownsRow_setCell_below h (a := ⟨ob, 1, none⟩) (by show ob < ob + 1; omega) _
        · rw [Opr.back_few ps (by omega)]
          have h := HW.out
          rw [Opr.back_few ps (by omega)] at h
          exact h.path1 x
      · have hk2 : 2 ≤ k := by omega
        have e1 : ((k : Int) == 1) = false := by simp; omega
        have HB1 : Hid (Opr.back ps (k + 1) = Opr.back ps k ++ [x]) := Opr.back_on hx hk2
        have hnl : (Opr.nums (Opr.back ps k)).length ≤ 1048577 := Nat.le_trans (Opr.nums_few _) (Nat.le_trans (Opr.back_len ps k) (by omega))
        rw [if_neg (by omega)] at o1
        have HW' : Hid (OWr wr ob ⟨kd, p1, 0, 0, Opr.has (Opr.back ps k) Opr.seqW, Opr.has (Opr.back ps k) Opr.ownW⟩) := by have h := HW.out; rw [if_neg (by omega)] at h; exact h
        clear HW
        cases b
        · have HNb : Hid (Opr.numV x.data.toList = (n, false)) := hnb
          by_cases hsq : x.data.toList = Opr.seqW
          · have hq : (x.toList == [115, 101, 113]) = true := by rw [show ([115, 101, 113] : List UInt8) = (⟨#[115, 101, 113]⟩ : ByteArray).toList from by rw [Lib.toList_data], beq_val, decide_eq_true_eq]; exact hsq
            have HSq : Hid (x.data.toList = Opr.seqW) := hsq
            clear hsq
            go_wp2_with (go_at_call 120; refine (HNs.out _ _ _ hx).mono ?_; rintro e w' ⟨rfl, rfl⟩; rw [hnb])
            refine ⟨⟨k + 1, by omega, by omega, by go_num, ?_, ?_, HCw.out.set (by omega), HE.out.setCell (p := ⟨ob, 4, none⟩) (by show _ ≤ ob; omega) _, HR.out.set (by omega), by have := HL.out; show _ ≤ _; simpa using this⟩, by simp [intOf]; omega⟩
            · rw [HB1.out, Opr.nums_pass _ HNb.out]
              exact ownsRow_setCell_below HO.out (a := ⟨ob, 4, none⟩) (by show ob < ob + 1; omega) _
            · rw [HB1.out, Opr.has_snoc, Opr.has_snoc, HSq.out, if_neg (by omega)]
              have h := HW'.out.seqd true
              rw [show (Opr.has (Opr.back ps k) Opr.seqW || decide (Opr.seqW = Opr.seqW)) = true from by simp, show (Opr.has (Opr.back ps k) Opr.ownW || decide (Opr.seqW = Opr.ownW)) = Opr.has (Opr.back ps k) Opr.ownW from by rw [show decide (Opr.seqW = Opr.ownW) = false from by decide, Bool.or_false]]
              exact h
          · have hq : (x.toList == [115, 101, 113]) = false := by rw [show ([115, 101, 113] : List UInt8) = (⟨#[115, 101, 113]⟩ : ByteArray).toList from by rw [Lib.toList_data], beq_val, decide_eq_false_iff_not]; exact hsq
            have HSq : Hid (decide (x.data.toList = Opr.seqW) = false) := by show _ = _; rw [decide_eq_false_iff_not]; exact hsq
            clear hsq
            by_cases how : x.data.toList = Opr.ownW
            · have hr : (x.toList == [111, 119, 110]) = true := by rw [show ([111, 119, 110] : List UInt8) = (⟨#[111, 119, 110]⟩ : ByteArray).toList from by rw [Lib.toList_data], beq_val, decide_eq_true_eq]; exact how
              have HOw : Hid (decide (x.data.toList = Opr.ownW) = true) := by show _ = _; rw [decide_eq_true_eq]; exact how
              clear how
              go_wp2_with (go_at_call 120; refine (HNs.out _ _ _ hx).mono ?_; rintro e w' ⟨rfl, rfl⟩; rw [hnb])
              refine ⟨⟨k + 1, by omega, by omega, by go_num, ?_, ?_, HCw.out.set (by omega), HE.out.setCell (p := ⟨ob, 5, none⟩) (by show _ ≤ ob; omega) _, HR.out.set (by omega), by have := HL.out; show _ ≤ _; simpa using this⟩, by simp [intOf]; omega⟩
              · rw [HB1.out, Opr.nums_pass _ HNb.out]
                exact ownsRow_setCell_below HO.out (a := ⟨ob, 5, none⟩) (by show ob < ob + 1; omega) _
              · rw [HB1.out, Opr.has_snoc, Opr.has_snoc, HSq.out, HOw.out, if_neg (by omega), Bool.or_false, Bool.or_true]
                exact HW'.out.ownd true
            · have hr : (x.toList == [111, 119, 110]) = false := by rw [show ([111, 119, 110] : List UInt8) = (⟨#[111, 119, 110]⟩ : ByteArray).toList from by rw [Lib.toList_data], beq_val, decide_eq_false_iff_not]; exact how
              have HOw : Hid (decide (x.data.toList = Opr.ownW) = false) := by show _ = _; rw [decide_eq_false_iff_not]; exact how
              clear how
              go_wp2_with (go_at_call 120; refine (HNs.out _ _ _ hx).mono ?_; rintro e w' ⟨rfl, rfl⟩; rw [hnb])
              refine ⟨⟨k + 1, by omega, by omega, by go_num, ?_, ?_, HCw, HE, HR, HL⟩, by simp [intOf]; omega⟩
              · rw [HB1.out, Opr.nums_pass _ HNb.out]
                exact HO
              · rw [HB1.out, Opr.has_snoc, Opr.has_snoc, HSq.out, HOw.out, if_neg (by omega), Bool.or_false, Bool.or_false]
                exact HW'
        · have HNb : Hid (Opr.numV x.data.toList = (n, true)) := hnb
          go_wp2_with (first | (go_at_call 120; refine (HNs.out _ _ _ hx).mono ?_; rintro e w' ⟨rfl, rfl⟩; rw [hnb]) | (at_builtin; go_must (refine wpList_append_own _ rfl _ _ 164 rfl (ob + 1) 2 i0 (.int .i64 0) 1 8 Tryz.underlying164 hi hz0 hz1 hz2 rfl (by decide) _ _ _ rfl (HO.out.alloc _) ⟨w'.heap.size, 0, none⟩ 1 1 [.int .i64 n] rfl rfl (cell_one_new _ _ _) (fun x hx => by simp at hx; subst hx; rfl) (by unfold maxLen; omega) (by omega) (by have := HL.out; simp; omega) ?_; intro v' w4 hown' hgrow3 hnil3)))
          have hB4 : Below (ob + 1) w' w4 := ((Below.refl _ _).alloc HL.out _).grown hgrow3 (by have := HL.out; simp; omega) (fun q hq => (HO.out.lt q hq).1)
          refine ⟨⟨k + 1, by omega, by omega, by go_num, ?_, ?_, HCw.out.below hB4 (by omega), Below.trans HE.out (hB4.mono (by omega)), HR.out.below hB4 (by omega), Nat.le_trans HL.out hB4.size⟩, by simp [intOf]; omega⟩
          · rw [HB1.out, Opr.nums_snoc _ HNb.out, List.map_append, List.length_append]
            exact hown'
          · rw [HB1.out, Opr.has_snoc, Opr.has_snoc, Opr.no_word HNb.out Opr.numV_seq, Opr.no_word HNb.out Opr.numV_own, if_neg (by omega), Bool.or_false, Bool.or_false]
            exact HW'.out.below hB4 (by omega)
    · have hk' : k = ps.length := by omega
      subst hk'
      have HBk : Hid (Opr.back ps ps.length = ps.drop 2) := by show _ = _; unfold Opr.back; rw [List.take_of_length_le (Nat.le_refl _)]
      have HPk : Hid ((if ps.length ≤ 1 then ⟨#[]⟩ else p1) = ps.getD 1 ⟨#[]⟩) := by
        show _ = _
        rw [HP1.out]
        split
        · rw [List.getD, List.getElem?_eq_none (by omega)]; rfl
        · rfl
      have hw := HW.out
      have ho := HO.out
      rw [HBk.out] at hw ho
      rw [HPk.out] at hw
      have HW2 : Hid (OWr wr ob ⟨kd, ps.getD 1 ⟨#[]⟩, 0, 0, Opr.has (ps.drop 2) Opr.seqW, Opr.has (ps.drop 2) Opr.ownW⟩) := hw
      have HO2 : Hid (wr.ownsRow (ob + 1) 2 1 _ (Opr.nums (ps.drop 2)).length ((Opr.nums (ps.drop 2)).map (Value.int .i64))) := ho
      clear hw ho HW HO HBk HPk HP1
      obtain ⟨⟨ol, o0, o1, o2, o3, o4, o5⟩, of⟩ := HW2.out
      have HD : Hid (∀ wx : World, Calls Tryz.prog 121 #[.int .i64 kd] wx fun e w' => e = .returned (.bool (Opr.hasData kd)) ∧ w' = wx) := fun wx => l5Data_any kd wx
      have HVn : Hid (∀ wx : World, Calls Tryz.prog 122 #[.int .i64 kd] wx fun e w' => e = .returned (.bool (Opr.hasVer kd)) ∧ w' = wx) := fun wx => l5Version_any kd wx
      have HGp : Hid (Opr.guessP ps = ⟨kd, ps.getD 1 ⟨#[]⟩, if Opr.hasData kd = true then (Opr.nums (ps.drop 2)).headD 0 else 0, if Opr.hasVer kd = true then (if Opr.hasData kd = true then (Opr.nums (ps.drop 2)).tail else Opr.nums (ps.drop 2)).headD 0 else 0, Opr.has (ps.drop 2) Opr.seqW, Opr.has (ps.drop 2) Opr.ownW⟩) := by
        show _ = _
        unfold Opr.guessP
        rw [HKD.out]
      have HZ : Hid (∀ z, Opr.fault z = 0 → s.data.toList = Opr.text z → Opr.guessP ps = z) := fun z hf hz => Opr.guessP_words hf (by rw [HU.out, hz]; exact Opr.cut_text hf rfl)
      have HCs : Hid (Opr.hasData kd = true ∧ Opr.hasVer kd = false ∧ (∃ n0, Opr.nums (ps.drop 2) = [n0])) := by
        have h := HCa.out ps HU.out
        unfold Opr.case6 at h
        rw [HKD.out] at h
        exact h
      obtain ⟨A, cp, hv, hlc, hcm, hat⟩ := nums_at HO2.out
      have HAt : Hid (∀ (j : Nat) x, (Opr.nums (ps.drop 2))[j]? = some x → ∃ g, A = some ⟨g, 0, none⟩ ∧ ob + 1 ≤ g ∧ g < wr.heap.size ∧ wr.cell? ⟨g, j, none⟩ = some (.int .i64 x)) := hat
      subst hv
      clear hat HO2 HKD HU
      unfold maxLen at hcm
      generalize Opr.nums (ps.drop 2) = N at *
      generalize Opr.has (ps.drop 2) Opr.seqW = sq at *
      generalize Opr.has (ps.drop 2) Opr.ownW = ow at *
      generalize ps.getD 1 ⟨#[]⟩ = p2 at *
      obtain ⟨hD, hV, ⟨n0, rfl⟩⟩ := HCs.out
      clear HCs
      obtain ⟨gn, rfl, hgn1, hgn2, hc0⟩ := HAt.out 0 n0 rfl
      have hcp1 : 1 ≤ cp := by simpa using hlc
      have i1 : (1 : Int) ≤ (cp : Int) := by omega
      obtain ⟨A2, hA2⟩ : ∃ A2, (if cp = 1 then some (⟨gn, 0, none⟩ : Addr) else some ⟨gn, 1, none⟩) = A2 := ⟨_, rfl⟩
      go_wp2_with fail
      refine (HD.out _).mono ?_
      rintro e w9 ⟨rfl, hw9⟩
      rw [hw9, hD]
      clear hw9 w9
      go_wp2_with fail
      refine (HVn.out _).mono ?_
      rintro e w9 ⟨rfl, hw9⟩
      rw [hw9, hV]
      clear hw9 w9
      have OF : Hid (OWr (wr.setCell ⟨ob, 2, none⟩ (.int .i64 n0)) ob ⟨kd, p2, n0, 0, sq, ow⟩) := HW2.out.data n0
      have EF : Hid (Ext w (wr.setCell ⟨ob, 2, none⟩ (.int .i64 n0))) := HE.out.setCell (p := ⟨ob, 2, none⟩) (by show _ ≤ ob; omega) _
      have RF : Hid (ORes (wr.setCell ⟨ob, 2, none⟩ (.int .i64 n0)) w.heap.size) := HR.out.set (by omega)
      go_wp2
      have HGo : Hid (Opr.guessP ps = ⟨kd, p2, n0, 0, sq, ow⟩) := by show _ = _; rw [HGp.out]; simp [hD, hV]
      generalize (wr.setCell ⟨ob, 2, none⟩ (.int .i64 n0)) = W at *
      have HOp : Hid (∀ wx : World, Ext W wx → Calls Tryz.prog 73 #[.pointer (some ⟨ob, 0, none⟩)] wx fun e w' => e = .returned (.int .i64 (Opr.fault ⟨kd, p2, n0, 0, sq, ow⟩)) ∧ Ext wx w') := fun wx he => l5Op_any ob 0 ⟨kd, p2, n0, 0, sq, ow⟩ wx (OF.out.ext he).1.1 (by obtain ⟨-, q0, q1, q2, q3, q4, q5⟩ := (OF.out.ext he).1; exact ⟨q0, q1, q2, q3, q4, q5⟩)
      have HTx : Hid (Opr.fault ⟨kd, p2, n0, 0, sq, ow⟩ = 0 → ∀ wx : World, Ext W wx → Calls Tryz.prog 67 #[.pointer (some ⟨ob, 0, none⟩)] wx fun e w' => e = .returned (.string (mkB (Opr.text ⟨kd, p2, n0, 0, sq, ow⟩))) ∧ Ext wx w') := fun hf wx he => l5Text_any ob 0 ⟨kd, p2, n0, 0, sq, ow⟩ wx (OF.out.ext he).1.1 (by obtain ⟨-, q0, q1, q2, q3, q4, q5⟩ := (OF.out.ext he).1; exact ⟨q0, q1, q2, q3, q4, q5⟩) hf
      obtain ⟨⟨kl, k0, k1, k2, k3, k4, k5⟩, -⟩ := OF.out
      by_cases hf : Opr.fault ⟨kd, p2, n0, 0, sq, ow⟩ = 0
      · have HT : Hid _ := HTx.out hf
        rw [hf] at HOp
        have HF0 : Hid (Opr.fault ⟨kd, p2, n0, 0, sq, ow⟩ = 0) := hf
        have htx : (mkB (Opr.text ⟨kd, p2, n0, 0, sq, ow⟩)).data.toList = Opr.text ⟨kd, p2, n0, 0, sq, ow⟩ := mkB_list _
        generalize hTX : mkB (Opr.text ⟨kd, p2, n0, 0, sq, ow⟩) = TX at *
        obtain ⟨B, hB⟩ : ∃ B, (TX.toList == s.toList) = B := ⟨_, rfl⟩
        have HB : Hid ((B = true → s.data.toList = Opr.text ⟨kd, p2, n0, 0, sq, ow⟩) ∧ (s.data.toList = Opr.text ⟨kd, p2, n0, 0, sq, ow⟩ → B = true)) := by
          rw [beq_val, htx] at hB
          rw [← hB]
          exact ⟨fun h => (of_decide_eq_true h).symm, fun h => decide_eq_true h.symm⟩
        clear hTX htx hf HTx
        go_region_with (first
          | (go_at_call 73; refine (HOp.out _ (by first | exact (Ext.refl _).drew | exact Ext.refl _)).mono ?_; rintro e w5 ⟨rfl, hb5⟩; have X5 : Hid (Ext W w5) := (by first | exact ((Ext.refl _).drew).trans hb5 | exact hb5); obtain ⟨⟨jl, j0, j1, j2, j3, j4, j5⟩, -⟩ := OF.out.ext X5.out; clear hb5)
          | (go_at_call 67; refine (HT.out _ (by first | exact X5.out.drew | exact X5.out)).mono ?_; rintro e w6 ⟨rfl, hb6⟩; have X6 : Hid (Ext W w6) := X5.out.trans (by first | exact ((Ext.refl _).drew).trans hb6 | exact hb6); have E6 : Hid (Ext w w6) := EF.out.trans X6.out; obtain ⟨⟨il, i0, i1, i2, i3, i4, i5⟩, -⟩ := OF.out.ext X6.out; have R6 := RF.out.ext X6.out; obtain ⟨⟨u0, r0⟩, g0⟩ := R6.2 0 (by omega); obtain ⟨⟨u1, r1⟩, g1⟩ := R6.2 1 (by omega); obtain ⟨⟨u2, r2⟩, g2⟩ := R6.2 2 (by omega); obtain ⟨⟨u3, r3⟩, g3⟩ := R6.2 3 (by omega); obtain ⟨⟨u4, r4⟩, g4⟩ := R6.2 4 (by omega); obtain ⟨⟨u5, r5⟩, g5⟩ := R6.2 5 (by omega); clear hb6))
        all_goals
          go_wp2
          refine bodyPost_ret (v := .tuple #[oagg ⟨kd, p2, n0, 0, sq, ow⟩, .bool B]) (by simp [results, Tryz.results59, go_sem, oagg, *]) rfl ⟨⟨kd, p2, n0, 0, sq, ow⟩, B, rfl, fun h => ⟨HF0.out, HB.out.1 h⟩, fun z hf hz => ?_, ?_⟩
          · have e := HZ.out z hf hz
            rw [HGo.out] at e
            exact ⟨e, HB.out.2 (by rw [e]; exact hz)⟩
          · exact ((((((E6.out.setCell (p := ⟨w.heap.size, 0, none⟩) (Nat.le_refl _) _).setCell (p := ⟨w.heap.size, 1, none⟩) (Nat.le_refl _) _).setCell (p := ⟨w.heap.size, 2, none⟩) (Nat.le_refl _) _).setCell (p := ⟨w.heap.size, 3, none⟩) (Nat.le_refl _) _).setCell (p := ⟨w.heap.size, 4, none⟩) (Nat.le_refl _) _).setCell (p := ⟨w.heap.size, 5, none⟩) (Nat.le_refl _) _)
      · have HF1 : Hid (¬ Opr.fault ⟨kd, p2, n0, 0, sq, ow⟩ = 0) := hf
        obtain ⟨fc, hfc⟩ : ∃ fc, Opr.fault ⟨kd, p2, n0, 0, sq, ow⟩ = fc := ⟨_, rfl⟩
        have h0c : (fc == 0) = false := by rw [← hfc]; simpa using hf
        rw [hfc] at HOp
        clear HTx hfc hf
        have R5 := RF.out
        first
          | (go_region_with (go_at_call 73; refine (HOp.out _ (by first | exact (Ext.refl _).drew | exact Ext.refl _)).mono ?_; rintro e w5 ⟨rfl, hb5⟩; have X5 : Hid (Ext W w5) := (by first | exact ((Ext.refl _).drew).trans hb5 | exact hb5); have E5 : Hid (Ext w w5) := EF.out.trans X5.out; obtain ⟨⟨jl, j0, j1, j2, j3, j4, j5⟩, -⟩ := OF.out.ext X5.out; have R6 := RF.out.ext X5.out; obtain ⟨⟨u0, r0⟩, g0⟩ := R6.2 0 (by omega); obtain ⟨⟨u1, r1⟩, g1⟩ := R6.2 1 (by omega); obtain ⟨⟨u2, r2⟩, g2⟩ := R6.2 2 (by omega); obtain ⟨⟨u3, r3⟩, g3⟩ := R6.2 3 (by omega); obtain ⟨⟨u4, r4⟩, g4⟩ := R6.2 4 (by omega); obtain ⟨⟨u5, r5⟩, g5⟩ := R6.2 5 (by omega); clear hb5 EF))
          | fail
        all_goals
          go_wp2
          refine bodyPost_ret (v := .tuple #[oagg ⟨kd, p2, n0, 0, sq, ow⟩, .bool false]) (by simp [results, Tryz.results59, go_sem, oagg, *]) rfl ⟨⟨kd, p2, n0, 0, sq, ow⟩, false, rfl, (fun h => by cases h), fun z hf hz => ?_, ?_⟩
          · have e := HZ.out z hf hz
            rw [HGo.out] at e
            exact absurd (by rw [e]; exact hf) HF1.out
          · exact ((((((E5.out.setCell (p := ⟨w.heap.size, 0, none⟩) (Nat.le_refl _) _).setCell (p := ⟨w.heap.size, 1, none⟩) (Nat.le_refl _) _).setCell (p := ⟨w.heap.size, 2, none⟩) (Nat.le_refl _) _).setCell (p := ⟨w.heap.size, 3, none⟩) (Nat.le_refl _) _).setCell (p := ⟨w.heap.size, 4, none⟩) (Nat.le_refl _) _).setCell (p := ⟨w.heap.size, 5, none⟩) (Nat.le_refl _) _)
end Go.Proofs.YtdjnkchaapcjpaaGreatDoor
