/- T10, I20, I10, I21, in one text. -/
import Derived.Test.YtmiffefnpendoaaGreatDoorMC1
import Derived.Test.YtmiffefnpendoaaGreatDoorI7
import Derived.Test.YtmiffefnpendoaaGreatDoorMC5
import Derived.Deep.RegionHeld3
/- CreateZ of the specification. -/
namespace Go.Proofs.YtmiffefnpendoaaGreatDoor
open Go.RowKit
namespace Tre
def createV (zs : List Zn) (p : ByteArray) (d o : Int) (q : Bool) : Int × ByteArray × List Zn := if asked zs p ≠ 0 then (asked zs p, ⟨#[]⟩, []) else createT zs p d o q
theorem createV_bad {zs : List Zn} {p : ByteArray} {d o c : Int} {q : Bool} (h : asked zs p = c) (h0 : c ≠ 0) : createV zs p d o q = (c, ⟨#[]⟩, []) := by unfold createV; rw [h, if_pos h0]
theorem createV_ok {zs : List Zn} {p : ByteArray} {d o : Int} {q : Bool} (h : asked zs p = 0) : createV zs p d o q = createT zs p d o q := by unfold createV; rw [h, if_neg (by simp)]
end Tre

set_option maxHeartbeats 1000000 in
set_option maxRecDepth 100000 in
theorem specCreateZ_any (v : Value) (zs : List Zn) (p : ByteArray) (d o : Int) (q : Bool) (w : World) (hS : NSlice w v zs) :
    Calls Tryz.prog 9 #[v, .string p, .int .i64 d, .int .i64 o, .bool q] w (ZRet w (Tre.createV zs p d o q).1 (Tre.createV zs p d o q).2.1 (Tre.createV zs p d o q).2.2) := by
  have HL : Hid (∀ wx : World, Ext w wx → Calls Tryz.prog 50 #[v, .string p] wx fun e w' => e = .returned (.int .i64 (Tre.asked zs p)) ∧ Ext wx w') := fun wx h => l2Asked_any v zs p wx (hS.ext h)
  have HB0 : Hid (∀ (c : Int) (wx : World), Calls Tryz.prog 51 #[.int .i64 c] wx fun e w' => e = .returned (zr c ⟨#[]⟩ (.slice none 0 0)) ∧ Ext wx w') := l2Bad_any
  unfold zr at HB0
  have HS : Hid (NSlice w v zs) := hS
  obtain ⟨a, cap, rfl, -, -, hx⟩ := hS
  by_cases h0 : Tre.asked zs p ≠ 0
  · rw [Tre.createV_bad rfl h0]
    generalize Tre.asked zs p = F at *
    go_enter Tryz.func9, Tryz.ntmps9
    go_wp2_with fail
    refine (HL.out _ ((Ext.refl _).alloc _)).mono ?_
    rintro e w2 ⟨rfl, hb⟩
    have HB : Hid (Ext w w2) := ((Ext.refl _).alloc _).trans hb
    have HQ : Hid (RBox w2 w.heap.size) := (RBox.new w _).ext hb
    clear hb
    go_wp2_with fail
    refine (HB0.out _ _).mono ?_
    rintro e w3 ⟨rfl, hb⟩
    obtain ⟨q9, q0, q1, q2, f0, f1, f2⟩ := HQ.out.ext hb
    have HB3 : Hid (Ext w w3) := HB.out.trans hb
    clear hb
    go_wp2
    exact bodyPost_ret (v := zr F ⟨#[]⟩ (.slice none 0 0)) (by simp [results, Tryz.results9, go_sem, zr, q0, q1, q2]) rfl (zret_bad _ _ (HB3.out.box3 _ _ _))
  · have h00 : Tre.asked zs p = 0 := by omega
    obtain ⟨h20, -, hpos, -⟩ := Tre.asked_len h00
    obtain ⟨b, off, rfl, -, -⟩ := hx hpos
    have HV : Hid (Pth.faultI p.data.toList = 0 ∧ ∀ z ∈ zs, 0 ≤ z.next) := ⟨(Tre.asked_fault h00).2, fun z hz => by
      have := (Tre.fault_nums (Tre.asked_fault h00).1 z hz).2
      unfold Tre.okNums at this
      simp at this
      exact this.2.2.2.1⟩
    clear hx
    rw [h00] at HL
    rw [Tre.createV_ok h00]
    have HR : Hid (∀ wx : World, Ext w wx → Calls Tryz.prog 52 #[.slice (some ⟨b, off, none⟩) zs.length cap, .string p, .int .i64 d, .int .i64 o, .bool q] wx (ZRet wx (Tre.createT zs p d o q).1 (Tre.createT zs p d o q).2.1 (Tre.createT zs p d o q).2.2)) := fun wx h => l2Create_any b off cap zs p d o q wx (HS.out.ext h) (by omega) hpos HV.out.1 HV.out.2
    generalize Tre.createT zs p d o q = R at *
    obtain ⟨c, t, rs⟩ := R
    go_enter Tryz.func9, Tryz.ntmps9
    go_wp2_with fail
    refine (HL.out _ ((Ext.refl _).alloc _)).mono ?_
    rintro e w2 ⟨rfl, hb⟩
    have HB : Hid (Ext w w2) := ((Ext.refl _).alloc _).trans hb
    have HQ : Hid (RBox w2 w.heap.size) := (RBox.new w _).ext hb
    clear hb
    go_wp2_with fail
    refine (HR.out _ HB.out).mono ?_
    rintro e w3 ⟨v3, g, rfl, hg, hO, hb⟩
    obtain ⟨a3, cap3, rfl, -⟩ := id hO
    have HO : Hid (Own w3 (.slice a3 rs.length cap3) g rs) := hO
    have HG : Hid (w.heap.size + 1 ≤ g) := by have := HQ.out.1; show _ ≤ _; omega
    obtain ⟨q9, q0, q1, q2, f0, f1, f2⟩ := HQ.out.ext hb
    have HB3 : Hid (Ext w w3) := HB.out.trans hb
    clear hb hO hg
    unfold zr
    go_wp2
    exact bodyPost_ret (v := zr c t (.slice a3 rs.length cap3)) (by simp [results, Tryz.results9, go_sem, zr, q0, q1, q2]) rfl (zret_own c t HO.out HG.out HB3.out _ _ _)
end Go.Proofs.YtmiffefnpendoaaGreatDoor

/- numberedPath: the path of a node with a number. -/
namespace Go.Proofs.YtmiffefnpendoaaGreatDoor
open Go.RowKit
namespace Pth
theorem lastSl_shift : ∀ (l : List UInt8) (i a : Nat), lastSl l i a = if (47 : UInt8) ∈ l then i + lastSl l 0 0 else a
  | [], i, a => by simp [lastSl]
  | c :: r, i, a => by
    have h1 : lastSl (c :: r) i a = if c = 47 then lastSl r (i + 1) i else lastSl r (i + 1) a := rfl
    have h2 : lastSl (c :: r) 0 0 = if c = 47 then lastSl r (0 + 1) 0 else lastSl r (0 + 1) 0 := rfl
    have e0 := lastSl_shift r (0 + 1) 0
    have e1 := lastSl_shift r (i + 1) i
    have e2 := lastSl_shift r (i + 1) a
    by_cases hc : c = 47
    · have hm : (47 : UInt8) ∈ c :: r := by rw [hc]; exact List.mem_cons_self
      rw [h1, if_pos hc, if_pos hm, h2, if_pos hc, e0, e1]
      by_cases hr : (47 : UInt8) ∈ r
      · rw [if_pos hr, if_pos hr]; omega
      · rw [if_neg hr, if_neg hr]; omega
    · rw [h1, if_neg hc, h2, if_neg hc, e0, e2]
      by_cases hr : (47 : UInt8) ∈ r
      · rw [if_pos hr, if_pos (List.mem_cons_of_mem _ hr), if_pos hr]; omega
      · rw [if_neg hr, if_neg (by simp only [List.mem_cons, not_or]; exact ⟨fun h => hc h.symm, hr⟩)]
theorem cut_last : ∀ (l cur : List UInt8), (cut cur l).getLast? = some (if (47 : UInt8) ∈ l then l.drop (lastSl l 0 0 + 1) else cur ++ l)
  | [], cur => by simp [cut]
  | c :: r, cur => by
    have h2 : lastSl (c :: r) 0 0 = if c = 47 then lastSl r (0 + 1) 0 else lastSl r (0 + 1) 0 := rfl
    have e0 := lastSl_shift r (0 + 1) 0
    by_cases hc : c = 47
    · have hm : (47 : UInt8) ∈ c :: r := by rw [hc]; exact List.mem_cons_self
      rw [if_pos hm, h2, if_pos hc, e0]
      have hcut : cut cur (c :: r) = cur :: cut [] r := by rw [hc]; exact cut_sl cur r
      rw [hcut, List.getLast?_cons, cut_last r [], Option.getD_some]
      by_cases hr : (47 : UInt8) ∈ r
      · rw [if_pos hr, if_pos hr, show 0 + 1 + lastSl r 0 0 + 1 = (lastSl r 0 0 + 1) + 1 from by omega, List.drop_succ_cons]
      · rw [if_neg hr, if_neg hr]; simp
    · rw [cut_ne _ _ _ hc, cut_last r, h2, if_neg hc, e0]
      by_cases hr : (47 : UInt8) ∈ r
      · rw [if_pos hr, if_pos (List.mem_cons_of_mem _ hr), if_pos hr, show 0 + 1 + lastSl r 0 0 + 1 = (lastSl r 0 0 + 1) + 1 from by omega, List.drop_succ_cons]
      · rw [if_neg hr, if_neg (by simp only [List.mem_cons, not_or]; exact ⟨fun h => hc h.symm, hr⟩)]; simp
/-- The last name of a path without fault is a name. -/
theorem last_ok {l : List UInt8} (h : faultI l = 0) (hne : l ≠ [47]) : okName (l.drop (lastSl l 0 0 + 1)) = true := by
  rw [fault_eq] at h
  unfold faultS at h
  split at h
  · cases h
  · split at h
    · cases h
    · rename_i hn
      unfold namesS at hn
      rw [if_neg hne] at hn
      split at hn
      · simp at hn
      · rename_i hc
        split at hn
        · rename_i ha
          have hlen : 2 ≤ (cut [] l).length := by
            rcases Nat.lt_or_ge (cut [] l).length 2 with hh | hh
            · exact absurd (Or.inl hh) hc
            · exact hh
          have hmem : (47 : UInt8) ∈ l := by
            rw [cut_length] at hlen
            exact List.count_pos_iff.1 (by omega)
          have hl := cut_last l []
          rw [if_pos hmem] at hl
          have hg : l.drop (lastSl l 0 0 + 1) ∈ (cut [] l).tail := by
            match hcut : cut [] l, hlen with
            | x :: y :: r, _ =>
              rw [hcut, List.getLast?_cons_cons] at hl
              exact List.mem_of_getLast? hl
          exact List.all_eq_true.1 ha _ hg
        · simp at hn
end Pth
theorem Pth.faultI_len {l : List UInt8} (h : Pth.faultI l = 0) : l.length ≤ 24 := by
  unfold Pth.faultI Pth.many at h
  split at h
  · cases h
  · rename_i hm
    simp only [Bool.or_eq_true, decide_eq_true_eq, not_or] at hm
    omega
namespace Tre
theorem lastName_ok {p : ByteArray} (h : Pth.faultI p.data.toList = 0) (ht : ¬ p.data.toList = [47]) : Pth.okName (lastName p).data.toList = true := by
  unfold lastName
  rw [extract_list, List.take_of_length_le (by rw [List.length_drop, len_eq]; omega)]
  exact Pth.last_ok h ht
def numV (p : ByteArray) (y : Zn) : Int × List UInt8 :=
  if 100 ≤ y.next then (3, []) else if Pth.okName (seqN p y.next).data.toList = false then (5, [])
  else if Pth.faultI (seqP p y.next).data.toList ≠ 0 then (Pth.faultI (seqP p y.next).data.toList, []) else (0, (seqP p y.next).data.toList)
theorem seqN_list (p : ByteArray) {n : Int} (h0 : 0 ≤ n) : (seqN p n).data.toList = Pth.seqd (lastName p).data.toList n.toNat := by
  unfold seqN; exact seq_list _ n h0
end Tre

/-- A code and a text in a box that may be written. -/
def NWr (w : World) (b : Nat) (c : Int) (t : ByteArray) : Prop := b < w.heap.size ∧ w.cell? ⟨b, 0, none⟩ = some (.int .i64 c) ∧ w.cell? ⟨b, 1, none⟩ = some (.string t) ∧ w.frozen? ⟨b, 0, none⟩ = false ∧ w.frozen? ⟨b, 1, none⟩ = false
theorem NWr.ext {w w' : World} {b : Nat} {c : Int} {t : ByteArray} (h : NWr w b c t) (he : Ext w w') : NWr w' b c t := by
  obtain ⟨hc, hf⟩ := Ext.cell he
  obtain ⟨hb, c0, c1, f0, f1⟩ := h
  exact ⟨Nat.lt_of_lt_of_le hb he.size, (hc _ _ hb).trans c0, (hc _ _ hb).trans c1, (hf _ _ hb).trans f0, (hf _ _ hb).trans f1⟩
theorem nwr_new (w : World) (c : Int) (t : ByteArray) (ty : TypeId) : NWr (w.alloc (.cells #[.int .i64 c, .string t] ty)) w.heap.size c t := ⟨by simp, by simp, by simp, by simp, by simp⟩

theorem nwr_put {W : World} {b : Nat} {c0 : Int} {t0 : ByteArray} (h : NWr W b c0 t0) (c : Int) (t : ByteArray) : NWr ((W.setCell ⟨b, 0, none⟩ (.int .i64 c)).setCell ⟨b, 1, none⟩ (.string t)) b c t := by
  obtain ⟨hb, q0, q1, f0, f1⟩ := h
  exact ⟨by simpa using hb, by rw [iset_ne _ _ _ _ _ _ (by omega)]; exact iset_eq _ _ _ _ ⟨_, q0⟩, by apply iset_eq; rw [iset_ne _ _ _ _ _ _ (by omega)]; exact ⟨_, q1⟩, by simpa using f0, by simpa using f1⟩
theorem nwr_other {W : World} {b d : Nat} {c0 : Int} {t0 : ByteArray} (h : NWr W d c0 t0) (hne : b ≠ d) (c : Int) (t : ByteArray) : NWr ((W.setCell ⟨b, 0, none⟩ (.int .i64 c)).setCell ⟨b, 1, none⟩ (.string t)) d c0 t0 := by
  obtain ⟨hb, q0, q1, f0, f1⟩ := h
  exact ⟨by simpa using hb, by rw [iset_ne _ _ _ _ _ _ (Or.inl hne), iset_ne _ _ _ _ _ _ (Or.inl hne)]; exact q0, by rw [iset_ne _ _ _ _ _ _ (Or.inl hne), iset_ne _ _ _ _ _ _ (Or.inl hne)]; exact q1, by simpa using f0, by simpa using f1⟩
theorem nwr_ext {w W : World} {b : Nat} (h : Ext w W) (hb : w.heap.size ≤ b) (c : Int) (t : ByteArray) : Ext w ((W.setCell ⟨b, 0, none⟩ (.int .i64 c)).setCell ⟨b, 1, none⟩ (.string t)) :=
  (h.setCell (p := ⟨b, 0, none⟩) hb _).setCell (p := ⟨b, 1, none⟩) hb _
/-- A statement that goes on, and nothing else. -/
def OnlyZ (R : Act → World → Prop) : Exit → Act → World → Prop
  | .normal, a, w => R a w
  | _, _, _ => False
theorem OnlyZ.out {R : Act → World → Prop} {e : Exit} {a : Act} {w : World} (h : OnlyZ R e a w) : e = .normal ∧ R a w := by
  cases e <;> first | exact ⟨rfl, h⟩ | exact (h : False).elim

set_option maxHeartbeats 8000000 in
set_option maxRecDepth 100000 in
theorem numberedPath_any (b o : Nat) (y : Zn) (p : ByteArray) (w : World) (hg : Gd w) (hb : b < w.heap.size) (h0 : w.cell? ⟨b, o, none⟩ = some (.string y.path)) (h4 : w.cell? ⟨b, o + 4, none⟩ = some (.int .i64 y.next))
    (hf : Pth.faultI p.data.toList = 0) (ht : ¬ p.data.toList = [47]) (hy : y.path = Tre.par p) (hyf : Pth.faultI y.path.data.toList = 0) (hn0 : 0 ≤ y.next) (hn1 : y.next ≤ 100) :
    Calls Tryz.prog 47 #[.pointer (some ⟨b, o, none⟩), .string p] w fun e w' => e = .returned (tr (Tre.numV p y)) ∧ Ext w w' := by
  have hal := alloc_cell
  by_cases h100 : y.next = 100
  · rw [show Tre.numV p y = (3, []) from by unfold Tre.numV; rw [if_pos (by omega)]]
    go_enter Tryz.func47, Tryz.ntmps47
    go_wp2
    exact bodyPost_ret (v := tr (3, [])) (by simp [results, Tryz.results47, go_sem, tr, mkB]) rfl ⟨rfl, (Ext.refl _).alloc _⟩
  · have hls : (Tre.lastName p).size ≤ 1048576 := by
      have h1 : (Tre.lastName p).size ≤ p.size := by unfold Tre.lastName; simp [ByteArray.size_extract]
      have h2 := Tre.lastName_ok hf ht
      unfold Pth.okName at h2
      simp only [Bool.and_eq_true, decide_eq_true_eq] at h2
      have h3 := h2.2.2
      rw [len_eq] at h3
      omega
    have hlo := Tre.lastName_ok hf ht
    have HNm : Hid (∀ wx : World, Ext w wx → Calls Tryz.prog 98 #[.string p] wx fun e w' => e = .returned (.agg #[.int .i64 0, .string (Tre.lastName p)]) ∧ Ext wx w') := fun wx he => by
      have := nameIn_any p wx (hg.ext he)
      rw [Tre.nameV_ok hf ht] at this
      unfold tr at this
      simp only [Tre.mkB_data] at this
      exact this
    have HSq : Hid (∀ wx : World, Calls Tryz.prog 97 #[.string (Tre.lastName p), .int .i64 y.next] wx fun e w' => e = .returned (tr (Pth.seqV (Tre.lastName p).data.toList y.next)) ∧ Ext wx w') := fun wx => seqName_any _ _ wx hls
    have hsl := Tre.seqN_list p hn0
    have HJ : Hid (∀ wx : World, Ext w wx → Calls Tryz.prog 99 #[.string y.path, .string (Tre.seqN p y.next)] wx fun e w' => e = .returned (tr (Pth.joinV y.path.data.toList (Tre.seqN p y.next).data.toList)) ∧ Ext wx w') := fun wx he => joinPath_any _ _ wx (hg.ext he) (by
      have := Tre.seqN_size p y.next
      have hp := Pth.faultI_len hf
      rw [len_eq] at hp
      omega)
    obtain ⟨sc, st, hsq, hcase⟩ : ∃ (sc : Int) (st : ByteArray), (∀ wx : World, Calls Tryz.prog 97 #[.string (Tre.lastName p), .int .i64 y.next] wx fun e w' => e = .returned (.agg #[.int .i64 sc, .string st]) ∧ Ext wx w') ∧
        ((sc = 5 ∧ st = ⟨#[]⟩ ∧ Tre.numV p y = (5, [])) ∨ (sc = 0 ∧ st = Tre.seqN p y.next ∧ tr (Tre.numV p y) = tr (Pth.joinV y.path.data.toList (Tre.seqN p y.next).data.toList))) := by
      cases hok : Pth.okName (Tre.seqN p y.next).data.toList with
      | false =>
        rw [seqV_long hlo (by omega) hsl.symm hok] at HSq
        exact ⟨5, ⟨#[]⟩, fun wx => HSq.out wx, Or.inl ⟨rfl, rfl, by unfold Tre.numV; rw [if_neg (by omega), if_pos hok]⟩⟩
      | true =>
        rw [seqV_ok hlo (by omega) hsl.symm hok] at HSq
        unfold tr at HSq
        simp only [Tre.mkB_data] at HSq
        refine ⟨0, Tre.seqN p y.next, fun wx => HSq.out wx, Or.inr ⟨rfl, rfl, ?_⟩⟩
        have hj : Pth.joined y.path.data.toList (Tre.seqN p y.next).data.toList = (Tre.seqP p y.next).data.toList := by unfold Tre.seqP; rw [mkB_list, hy]
        by_cases hc : Pth.faultI (Tre.seqP p y.next).data.toList = 0
        · rw [joinV_ok hyf hok hj hc]; unfold Tre.numV; rw [if_neg (by omega), if_neg (by rw [hok]; decide), if_neg (by omega)]
        · rw [joinV_long hyf hok hj rfl hc]; unfold Tre.numV; rw [if_neg (by omega), if_neg (by rw [hok]; decide), if_pos hc]
    have HSr : Hid (∀ wx : World, Calls Tryz.prog 97 #[.string (Tre.lastName p), .int .i64 y.next] wx fun e w' => e = .returned (.agg #[.int .i64 sc, .string st]) ∧ Ext wx w') := hsq
    have HC : Hid _ := hcase
    have hft := fieldT_text
    clear hsq hcase HSq hsl hlo hls hy hyf
    go_enter Tryz.func47, Tryz.ntmps47
    go_wp2
    have E1 : Hid (Ext w (w.alloc (.cells #[.int .i64 0, .string ⟨#[]⟩] 36))) := (Ext.refl _).alloc _
    have T1 : Hid (NWr (w.alloc (.cells #[.int .i64 0, .string ⟨#[]⟩] 36)) w.heap.size 0 ⟨#[]⟩) := nwr_new w 0 ⟨#[]⟩ 36
    have hw1 : w.heap.size < (w.alloc (.cells #[.int .i64 0, .string ⟨#[]⟩] 36)).heap.size := T1.out.1
    generalize w.alloc (.cells #[.int .i64 0, .string ⟨#[]⟩] 36) = w1 at *
    have y4 := ((Ext.cell E1.out).1 _ _ hb).trans h4
    have hb1 : b < w1.heap.size := by omega
    refine Code.wp_mono (Q := OnlyZ fun a W => ∃ (nb : Nat) (v10 : Value), a = { tmps := #[.pointer (some ⟨b, o, none⟩), .string p, undef, undef, .pointer (some ⟨w.heap.size, 0, none⟩), .pointer (some ⟨nb, 0, none⟩), .pointer (some ⟨b, o, none⟩), .pointer (some ⟨b, o, none⟩), .pointer (some ⟨b, o + 4, none⟩), .int .i64 y.next, v10, undef, .string p, .agg #[.int .i64 0, .string (Tre.lastName p)], .string (Tre.lastName p), .pointer (some ⟨b, o, none⟩), .pointer (some ⟨b, o, none⟩), .pointer (some ⟨b, o + 4, none⟩), .int .i64 y.next, .agg #[.int .i64 sc, .string st], undef, undef, undef, undef, undef, undef, undef, undef, undef, undef, undef], defers := [] } ∧ w.heap.size < nb ∧ Ext w W ∧ NWr W nb sc st ∧ NWr W w.heap.size 0 ⟨#[]⟩) ?_ ?_
    rotate_left
    · go_region_with (first
        | (go_at_call 98; refine (HNm.out _ (by first | exact E1.out.drew | exact E1.out | exact (E1.out.drew).alloc _ | exact E1.out.alloc _)).mono ?_; rintro e w2 ⟨rfl, hb2⟩; have X2 : Hid (Ext w1 w2) := (by first | exact ((Ext.refl _).drew).trans hb2 | exact hb2 | exact (((Ext.refl _).drew).alloc _).trans hb2 | exact ((Ext.refl _).alloc _).trans hb2); (first | (have B2 : Hid (NWr w2 w1.heap.size 0 ⟨#[]⟩) := (nwr_new w1.drew 0 ⟨#[]⟩ _).ext hb2) | (have B2 : Hid (NWr w2 w1.heap.size 0 ⟨#[]⟩) := (nwr_new w1 0 ⟨#[]⟩ _).ext hb2) | (have B2 := trivial)); have y4b := ((Ext.cell X2.out).1 _ _ hb1).trans y4; have x2 := X2.out.size; have hb2b : b < w2.heap.size := (by omega); clear hb2)
        | (go_at_call 97; refine (HSr.out _).mono ?_; rintro e w3 ⟨rfl, hb3⟩; have X3 : Hid (Ext w2 w3) := (by first | exact ((Ext.refl _).drew).trans hb3 | exact hb3 | exact (((Ext.refl _).drew).alloc _).trans hb3 | exact ((Ext.refl _).alloc _).trans hb3); (first | (have B3 : Hid (NWr w3 w1.heap.size 0 ⟨#[]⟩) := B2.out.ext X3.out) | (have B3 : Hid (NWr w3 w2.heap.size 0 ⟨#[]⟩) := (nwr_new w2.drew 0 ⟨#[]⟩ _).ext hb3) | (have B3 : Hid (NWr w3 w2.heap.size 0 ⟨#[]⟩) := (nwr_new w2 0 ⟨#[]⟩ _).ext hb3) | (have B3 := trivial)); have x3 := X3.out.size; (first | (obtain ⟨bl, b0, b1, bf0, bf1⟩ := B3.out) | skip); clear hb3))
      all_goals
        have E3 : Hid (Ext w w3) := (E1.out.trans X2.out).trans X3.out
        have T3 : Hid (NWr w3 w.heap.size 0 ⟨#[]⟩) := (T1.out.ext X2.out).ext X3.out
        first
          | exact ⟨w1.heap.size, _, rfl, by omega, nwr_ext (W := w3) (b := w1.heap.size) E3.out (by omega) sc st, nwr_put (W := w3) (b := w1.heap.size) B3.out sc st, nwr_other (W := w3) (b := w1.heap.size) T3.out (by omega) sc st⟩
          | exact ⟨w3.heap.size, _, rfl, by omega, E3.out.alloc _, nwr_new w3 sc st _, T3.out.ext ((Ext.refl _).alloc _)⟩
          | exact ⟨w2.heap.size, _, rfl, by omega, nwr_ext (W := w3) (b := w2.heap.size) E3.out (by omega) sc st, nwr_put (W := w3) (b := w2.heap.size) B3.out sc st, nwr_other (W := w3) (b := w2.heap.size) T3.out (by omega) sc st⟩
    rintro e fr W hN
    obtain ⟨rfl, hN⟩ := hN.out
    obtain ⟨nb, v10, rfl, hnb, hE, hB, hT⟩ := hN
    have EW : Hid (Ext w W) := hE
    have TW : Hid (NWr W w.heap.size 0 ⟨#[]⟩) := hT
    have BW : Hid (NWr W nb sc st) := hB
    have yW := ((Ext.cell hE).1 _ _ hb).trans h0
    have hbW : b < W.heap.size := Nat.lt_of_lt_of_le hb hE.size
    obtain ⟨bl, b0, b1, bf0, bf1⟩ := hB
    obtain ⟨tl, t0, t1, tf0, tf1⟩ := hT
    clear hE HNm HSr E1 T1 y4
    rcases HC.out with ⟨rfl, rfl, hv⟩ | ⟨rfl, rfl, hv⟩
    · have HV : Hid (Tre.numV p y = (5, [])) := hv
      clear hv HC HJ
      go_wp2
      refine bodyPost_ret (v := tr (5, [])) (by simp [results, Tryz.results47, go_sem, tr, mkB, *]) rfl ⟨by rw [HV.out], ?_⟩
      exact (EW.out.setCell (p := ⟨w.heap.size, 0, none⟩) (Nat.le_refl _) _).setCell (p := ⟨w.heap.size, 1, none⟩) (Nat.le_refl _) _
    · have HV : Hid (tr (Tre.numV p y) = tr (Pth.joinV y.path.data.toList (Tre.seqN p y.next).data.toList)) := hv
      clear hv HC
      generalize Pth.joinV y.path.data.toList (Tre.seqN p y.next).data.toList = J at *
      obtain ⟨jc, jt⟩ := J
      have HV2 : Hid (tr (Tre.numV p y) = .agg #[.int .i64 jc, .string (mkB jt)]) := HV.out
      unfold tr at HJ
      simp only at HJ
      clear HV
      generalize mkB jt = JT at *
      go_wp2
      go_region_held3 (fun X => X.cell? ⟨b, o, none⟩ = some (.string y.path) ∧ X.cell? ⟨nb, 1, none⟩ = some (.string (Tre.seqN p y.next))) (first | exact ⟨yW, b1⟩ | exact ⟨y5, b5⟩ | exact ⟨by rw [iset_ne _ _ _ _ _ _ (by omega), iset_ne _ _ _ _ _ _ (by omega)]; exact y5, by rw [iset_ne _ _ _ _ _ _ (by omega), iset_ne _ _ _ _ _ _ (by omega)]; exact b5⟩ | go_keep) (first | (have tk := EW; clear tk; go_at_call 99; refine (HJ.out _ (by first | exact EW.out.drew | exact EW.out)).mono ?_; rintro e w5 ⟨rfl, hb5⟩; have X5 : Hid (Ext W w5) := (by first | exact ((Ext.refl _).drew).trans hb5 | exact hb5); have E5 : Hid (Ext w w5) := EW.out.trans X5.out; have y5 := ((Ext.cell X5.out).1 _ _ hbW).trans yW; have b5 := ((Ext.cell X5.out).1 _ _ bl).trans b1; obtain ⟨sl, s0, s1, sf0, sf1⟩ := TW.out.ext X5.out; clear hb5 X5 EW t0 t1 tf0 tf1 tl))
      go_wp2
      refine bodyPost_ret (v := .agg #[.int .i64 jc, .string JT]) (by simp [results, Tryz.results47, go_sem, *]) rfl ⟨by rw [HV2.out], ?_⟩
      exact (E5.out.setCell (p := ⟨w.heap.size, 0, none⟩) (Nat.le_refl _) _).setCell (p := ⟨w.heap.size, 1, none⟩) (Nat.le_refl _) _
end Go.Proofs.YtmiffefnpendoaaGreatDoor

/- The program's KidsZ. -/
namespace Go.Proofs.YtmiffefnpendoaaGreatDoor
open Go.RowKit

set_option maxHeartbeats 1000000 in
set_option maxRecDepth 100000 in
theorem implKidsZ_any (v : Value) (zs : List Zn) (p : ByteArray) (w : World) (hg : Gd w) (hS : NSlice w v zs) :
    Calls Tryz.prog 11 #[v, .string p] w (XRet w (Tre.kidsV zs p).1 (Tre.kidsV zs p).2) := by
  have HL : Hid (∀ wx : World, Ext w wx → Calls Tryz.prog 42 #[v, .string p] wx fun e w' => e = .returned (.int .i64 (Tre.asked zs p)) ∧ Ext wx w') := fun wx h => treeOrPath_any v zs p wx (hg.ext h) (hS.ext h)
  have HS : Hid (NSlice w v zs) := hS
  have HG0 : Hid (Gd w) := hg
  obtain ⟨a, cap, rfl, hlc, hcm, hx⟩ := hS
  by_cases h0 : Tre.asked zs p ≠ 0
  · rw [Tre.kidsV_bad rfl h0]
    generalize Tre.asked zs p = F at *
    go_enter Tryz.func11, Tryz.ntmps11
    go_wp2_with fail
    refine (HL.out _ ((Ext.refl _).alloc _)).mono ?_
    rintro e w2 ⟨rfl, hb⟩
    have HB : Hid (Ext w w2) := ((Ext.refl _).alloc _).trans hb
    obtain ⟨q, q0, q1, f0, f1⟩ := (XBox.new w _).ext hb
    clear hb
    go_wp2
    exact bodyPost_ret (v := xr F (.slice none 0 0)) (by simp [results, Tryz.results11, go_sem, xr, q0, q1]) rfl (xret_bad _ (HB.out.box2 _ _))
  · have h00 : Tre.asked zs p = 0 := by omega
    rw [h00] at HL
    obtain ⟨h20, hU, hpos, h24⟩ := Tre.asked_len h00
    have HF : Hid (zs.length ≤ 1048576 ∧ ∀ z ∈ zs, Pth.faultI z.path.data.toList = 0) := ⟨by omega, fun z hz => (Tre.fault_nums (Tre.asked_fault h00).1 z hz).1⟩
    obtain ⟨b, off, rfl, hb, hN⟩ := hx hpos
    have HN : Hid (∀ wx : World, Ext w wx → Calls Tryz.prog 53 #[.slice (some ⟨b, off, none⟩) zs.length cap, .string p] wx fun e w' => e = .returned (ptrV b off zs p) ∧ Ext wx w') := fun wx h => findNode_any b off cap zs p wx (HS.out.ext h) hU (by omega)
    clear hx hN hb
    cases hh : Tre.has zs p with
    | false =>
      rw [Tre.kidsV_none h00 (Tre.has_not hh)]
      rw [ptrV_miss hh] at HN
      clear hh hU h24
      go_enter Tryz.func11, Tryz.ntmps11
      go_wp2_with fail
      refine (HL.out _ ((Ext.refl _).alloc _)).mono ?_
      rintro e w2 ⟨rfl, hb⟩
      have HB : Hid (Ext w w2) := ((Ext.refl _).alloc _).trans hb
      have HQ : Hid (XBox w2 w.heap.size) := (XBox.new w _).ext hb
      clear hb
      go_wp2_with fail
      refine (HN.out _ HB.out).mono ?_
      rintro e w3 ⟨rfl, hb⟩
      have HB3 : Hid (Ext w w3) := HB.out.trans hb
      obtain ⟨q, q0, q1, f0, f1⟩ := HQ.out.ext hb
      clear hb
      go_wp2
      exact bodyPost_ret (v := xr 4 (.slice none 0 0)) (by simp [results, Tryz.results11, go_sem, xr, q0, q1]) rfl (xret_bad _ (HB3.out.box2 _ _))
    | true =>
      have ha : ¬ Tre.atI zs p < 0 := by obtain ⟨z, h1, _⟩ := Tre.has_at hU hh; omega
      rw [Tre.kidsV_ok h00 ha]
      rw [ptrV_hit hh rfl] at HN
      have HK : Hid (∀ wx : World, Ext w wx → Calls Tryz.prog 54 #[.slice (some ⟨b, off, none⟩) zs.length cap, .string p] wx fun e w' => ∃ v' g, e = .returned v' ∧ wx.heap.size ≤ g ∧ TOwn w' v' g (Tre.kids zs p) ∧ Ext wx w') := fun wx h => kidNames_any _ zs p wx (HG0.out.ext h) (HS.out.ext h) HF.out.1 HF.out.2
      generalize Tre.kids zs p = rs at *
      generalize Tre.cut zs p.data.toList = k at *
      clear hh hU h24 ha
      go_enter Tryz.func11, Tryz.ntmps11
      go_wp2_with fail
      refine (HL.out _ ((Ext.refl _).alloc _)).mono ?_
      rintro e w2 ⟨rfl, hb⟩
      have HB : Hid (Ext w w2) := ((Ext.refl _).alloc _).trans hb
      have HQ : Hid (XBox w2 w.heap.size) := (XBox.new w _).ext hb
      clear hb
      go_wp2_with fail
      refine (HN.out _ HB.out).mono ?_
      rintro e w3 ⟨rfl, hb⟩
      have HB3 : Hid (Ext w w3) := HB.out.trans hb
      have HQ3 : Hid (XBox w3 w.heap.size) := HQ.out.ext hb
      clear hb
      go_wp2_with fail
      refine (HK.out _ HB3.out).mono ?_
      rintro e w4 ⟨v3, g, rfl, hg, hO, hb⟩
      obtain ⟨a3, cap3, rfl, -⟩ := id hO
      have HO : Hid (TOwn w4 (.slice a3 rs.length cap3) g rs) := hO
      have HG : Hid (w.heap.size + 1 ≤ g) := by have := HQ3.out.1; show _ ≤ _; omega
      obtain ⟨q, q0, q1, f0, f1⟩ := HQ3.out.ext hb
      have HB4 : Hid (Ext w w4) := HB3.out.trans hb
      clear hb hO hg
      go_wp2
      exact bodyPost_ret (v := xr 0 (.slice a3 rs.length cap3)) (by simp [results, Tryz.results11, go_sem, xr, q0, q1]) rfl (xret_own 0 HO.out HG.out HB4.out _ _)
end Go.Proofs.YtmiffefnpendoaaGreatDoor

/- The program's CreateZ. -/
namespace Go.Proofs.YtmiffefnpendoaaGreatDoor
open Go.RowKit
/-- A node in a box of its own; its path may be written. -/
def ZW (w : World) (b : Nat) (z : Zn) : Prop := b < w.heap.size ∧ w.cell? ⟨b, 0, none⟩ = some (.string z.path) ∧ w.cell? ⟨b, 1, none⟩ = some (.int .i64 z.data) ∧ w.cell? ⟨b, 2, none⟩ = some (.int .i64 z.version) ∧ w.cell? ⟨b, 3, none⟩ = some (.int .i64 z.owner) ∧ w.cell? ⟨b, 4, none⟩ = some (.int .i64 z.next) ∧ w.frozen? ⟨b, 0, none⟩ = false
theorem ZW.ext {w w' : World} {b : Nat} {z : Zn} (h : ZW w b z) (he : Ext w w') : ZW w' b z := by
  obtain ⟨hc, hf⟩ := Ext.cell he
  obtain ⟨hb, c0, c1, c2, c3, c4, f0⟩ := h
  exact ⟨Nat.lt_of_lt_of_le hb he.size, (hc _ _ hb).trans c0, (hc _ _ hb).trans c1, (hc _ _ hb).trans c2, (hc _ _ hb).trans c3, (hc _ _ hb).trans c4, (hf _ _ hb).trans f0⟩
theorem zw_new (w : World) (z : Zn) (t : TypeId) : ZW (w.alloc (.cells #[.string z.path, .int .i64 z.data, .int .i64 z.version, .int .i64 z.owner, .int .i64 z.next] t)) w.heap.size z := ⟨by simp, by simp, by simp, by simp, by simp, by simp, by simp⟩
theorem ZW.path {w : World} {b : Nat} {z : Zn} (h : ZW w b z) (p : ByteArray) : ZW (w.setCell ⟨b, 0, none⟩ (.string p)) b { z with path := p } := by
  obtain ⟨hb, c0, c1, c2, c3, c4, f0⟩ := h
  exact ⟨by simpa using hb, iset_eq _ _ _ _ ⟨_, c0⟩, by rw [iset_ne _ _ _ _ _ _ (by omega)]; exact c1, by rw [iset_ne _ _ _ _ _ _ (by omega)]; exact c2, by rw [iset_ne _ _ _ _ _ _ (by omega)]; exact c3, by rw [iset_ne _ _ _ _ _ _ (by omega)]; exact c4, by simpa using f0⟩
theorem ZW.other {w : World} {b g k : Nat} {z : Zn} {v : Value} (h : ZW w b z) (hne : g ≠ b) : ZW (w.setCell ⟨g, k, none⟩ v) b z := by
  obtain ⟨hb, c0, c1, c2, c3, c4, f0⟩ := h
  exact ⟨by simpa using hb, by rw [iset_ne _ _ _ _ _ _ (Or.inl hne)]; exact c0, by rw [iset_ne _ _ _ _ _ _ (Or.inl hne)]; exact c1, by rw [iset_ne _ _ _ _ _ _ (Or.inl hne)]; exact c2, by rw [iset_ne _ _ _ _ _ _ (Or.inl hne)]; exact c3, by rw [iset_ne _ _ _ _ _ _ (Or.inl hne)]; exact c4, by simpa using f0⟩
theorem RBox.other {w : World} {b g k : Nat} {v : Value} (h : RBox w b) (hne : g ≠ b) : RBox (w.setCell ⟨g, k, none⟩ v) b := by
  obtain ⟨hb, c0, c1, c2, f0, f1, f2⟩ := h
  exact ⟨by simpa using hb, by rw [iset_ne _ _ _ _ _ _ (Or.inl hne)]; exact c0, by rw [iset_ne _ _ _ _ _ _ (Or.inl hne)]; exact c1, by rw [iset_ne _ _ _ _ _ _ (Or.inl hne)]; exact c2, by simpa using f0, by simpa using f1, by simpa using f2⟩
theorem shape_setCell_ne (w : World) {b g k : Nat} (hne : b ≠ g) (v : Value) : (w.setCell ⟨b, k, none⟩ v).shape? g = w.shape? g := by
  unfold World.shape? World.setCell
  simp [Array.getElem?_modify, hne]
theorem Wide.other {w : World} {g off cap b k : Nat} {zs : List Zn} {v : Value} (h : Wide w g off cap zs) (hne : b ≠ g) : Wide (w.setCell ⟨b, k, none⟩ v) g off cap zs := by
  obtain ⟨h1, h2, h3, h4, h5, t, c, h6, h7⟩ := h
  refine ⟨h1, h2, h3, ⟨by simpa using h4.1, fun j hj => ?_⟩, fun i z hz => ?_, t, c, ?_, h7⟩
  · rw [iset_ne _ _ _ _ _ _ (Or.inl hne)]; exact ⟨(h4.2 j hj).1, by simpa using (h4.2 j hj).2⟩
  · obtain ⟨c0, c1, c2, c3, c4⟩ := h5 i z hz
    refine ⟨?_, ?_, ?_, ?_, ?_⟩ <;> rw [iset_ne _ _ _ _ _ _ (Or.inl hne)] <;> assumption
  · rw [← h6]
    exact shape_setCell_ne w hne v
theorem alloc_lt (w : World) (o : Obj) : w.heap.size < (w.alloc o).heap.size := by simp
theorem alloc_new (w : World) (cs : Array Value) (t : TypeId) : (w.alloc (.cells cs t)).heap[w.heap.size]? = some (.cells cs t (0, 0)) := by show (w.heap.push _)[w.heap.size]? = _; exact Array.getElem?_push_size
namespace Tre
theorem set_next_at (zs : List Zn) {k : Nat} {y : Zn} (hy : zs[k]? = some y) (n : Int) (p : ByteArray) : atI (zs.set k { y with next := n }) p = atI zs p := by
  have hm : (zs.set k { y with next := n }).map (·.path) = zs.map (·.path) := by
    apply List.ext_getElem?
    intro i
    rw [List.getElem?_map, List.getElem?_map, List.getElem?_set]
    by_cases hik : k = i
    · subst hik
      have hl := (List.getElem?_eq_some_iff.1 hy).1
      rw [if_pos rfl, if_pos hl, hy]; rfl
    · rw [if_neg hik]
  have hf : ∀ l : List Zn, l.findIdx? (isAt p) = (l.map (·.path)).findIdx? (fun b => isAt p ⟨b, 0, 0, 0, 0⟩) := fun l => by
    rw [List.findIdx?_map]; rfl
  unfold atI
  rw [hf, hf, hm]
theorem set_next_up {zs : List Zn} {k : Nat} {y : Zn} (hu : Up zs) (hy : zs[k]? = some y) (n : Int) : Up (zs.set k { y with next := n }) := by
  have hl := (List.getElem?_eq_some_iff.1 hy).1
  have hg : ∀ (i : Nat) z, (zs.set k { y with next := n })[i]? = some z → ∃ z', zs[i]? = some z' ∧ key z' = key z := fun i z hz => by
    rw [List.getElem?_set] at hz
    by_cases hik : k = i
    · subst hik
      rw [if_pos rfl, if_pos hl] at hz
      injection hz with hz
      subst hz
      exact ⟨y, hy, rfl⟩
    · rw [if_neg hik] at hz
      exact ⟨z, hz, rfl⟩
  intro i a b ha hb
  obtain ⟨a', ha', ea⟩ := hg i a ha
  obtain ⟨b', hb', eb⟩ := hg (i + 1) b hb
  rw [← ea, ← eb]
  exact hu i a' b' ha' hb'
theorem okNums_next {z : Zn} (h : okNums z = true) : 0 ≤ z.next ∧ z.next ≤ 100 := by
  unfold okNums at h
  simp only [Bool.and_eq_true, decide_eq_true_eq] at h
  omega
theorem seqT_bad {zs : List Zn} {p : ByteArray} {k : Nat} {y : Zn} : (seqT zs p k y).1 = (numV p y).1 := by
  unfold seqT numV
  split
  · rfl
  · split
    · rfl
    · split <;> rfl
theorem seqT_ok {zs : List Zn} {p : ByteArray} {k : Nat} {y : Zn} (h : (numV p y).1 = 0) : seqT zs p k y = (0, seqP p y.next, zs.set k { y with next := y.next + 1 }) ∧ (numV p y).2 = (seqP p y.next).data.toList := by
  unfold numV at h ⊢
  unfold seqT
  split at h
  · cases h
  · rename_i h1
    split at h
    · cases h
    · rename_i h2
      split at h
      · rename_i h3; exact absurd h h3
      · rename_i h3
        rw [if_neg h1, if_neg h2, if_neg h3, if_neg h1, if_neg h2, if_neg h3]
        exact ⟨rfl, rfl⟩
end Tre

set_option maxHeartbeats 8000000 in
set_option maxRecDepth 100000 in
theorem implCreateZ_any (v : Value) (zs : List Zn) (p : ByteArray) (d o : Int) (q : Bool) (w : World) (hg : Gd w) (hS : NSlice w v zs) :
    Calls Tryz.prog 8 #[v, .string p, .int .i64 d, .int .i64 o, .bool q] w (ZRet w (Tre.createV zs p d o q).1 (Tre.createV zs p d o q).2.1 (Tre.createV zs p d o q).2.2) := by
  have HL : Hid (∀ wx : World, Ext w wx → Calls Tryz.prog 42 #[v, .string p] wx fun e w' => e = .returned (.int .i64 (Tre.asked zs p)) ∧ Ext wx w') := fun wx h => treeOrPath_any v zs p wx (hg.ext h) (hS.ext h)
  have HD : Hid (∀ wx : World, Calls Tryz.prog 43 #[.int .i64 d, .int .i64 9999] wx fun e w' => e = .returned (.bool (Tre.okData d)) ∧ w' = wx) := isUpTo_any d 9999
  have HO : Hid (∀ wx : World, Calls Tryz.prog 43 #[.int .i64 o, .int .i64 9] wx fun e w' => e = .returned (.bool (Tre.okOwner o)) ∧ w' = wx) := isUpTo_any o 9
  have HS : Hid (NSlice w v zs) := hS
  have HG : Hid (Gd w) := hg
  obtain ⟨a0, cap0, rfl, -⟩ := hS
  clear hg
  generalize hF : Tre.asked zs p = Fc at *
  have HFc : Hid (Tre.asked zs p = Fc) := hF
  clear hF
  go_enter Tryz.func8, Tryz.ntmps8
  go_wp2_with fail
  refine (HL.out _ ((Ext.refl _).alloc _)).mono ?_
  rintro e w2 ⟨rfl, hb⟩
  have E2 : Hid (Ext w w2) := ((Ext.refl _).alloc _).trans hb
  have Q2 : Hid (RBox w2 w.heap.size) := (RBox.new w _).ext hb
  clear hb HL
  by_cases h0 : Fc = 0
  rotate_left
  · have HRb : Hid (Tre.createV zs p d o q = (Fc, ⟨#[]⟩, [])) := by show _ = _; unfold Tre.createV; rw [HFc.out, if_pos h0]
    obtain ⟨q, q0, q1, q2, f0, f1, f2⟩ := Q2.out
    go_wp2
    exact bodyPost_ret (v := zr Fc ⟨#[]⟩ (.slice none 0 0)) (by simp [results, Tryz.results8, go_sem, zr, q0, q1, q2]) rfl (by rw [HRb.out]; exact zret_bad _ _ (E2.out.box3 _ _ _))
  subst h0
  have hA := HFc.out
  have HC : Hid (Tre.createV zs p d o q = Tre.createT zs p d o q) := by show _ = _; unfold Tre.createV; rw [hA, if_neg (by omega)]
  obtain ⟨h20, hU, hpos, h24⟩ := Tre.asked_len hA
  have hpf : Pth.faultI p.data.toList = 0 := (Tre.asked_fault hA).2
  have HNum : Hid (∀ z ∈ zs, Pth.faultI z.path.data.toList = 0 ∧ Tre.okNums z = true) := Tre.fault_nums (Tre.asked_fault hA).1
  have H24 : Hid (∀ z ∈ zs, z.path.size ≤ 24) := h24
  have HU : Hid (Tre.Up zs) := hU
  clear HFc hA h24 hU
  cases hd : Tre.okData d with
  | false =>
    have HR3 : Hid (Tre.createV zs p d o q = (3, ⟨#[]⟩, [])) := by show _ = _; rw [HC.out, Tre.createT_range (by rw [hd]; rfl)]
    rw [hd] at HD
    clear hd
    go_wp2_with fail
    refine (HD.out _).mono ?_
    rintro e w3 ⟨rfl, hw⟩
    rw [hw]
    clear hw w3
    obtain ⟨q, q0, q1, q2, f0, f1, f2⟩ := Q2.out
    go_wp2
    exact bodyPost_ret (v := zr 3 ⟨#[]⟩ (.slice none 0 0)) (by simp [results, Tryz.results8, go_sem, zr, q0, q1, q2]) rfl (by rw [HR3.out]; exact zret_bad _ _ (E2.out.box3 _ _ _))
  | true =>
  rw [hd] at HD
  cases ho : Tre.okOwner o with
  | false =>
    have HR3 : Hid (Tre.createV zs p d o q = (3, ⟨#[]⟩, [])) := by show _ = _; rw [HC.out, Tre.createT_range (by rw [hd, ho]; rfl)]
    rw [ho] at HO
    clear hd ho
    go_wp2_with fail
    refine (HD.out _).mono ?_
    rintro e w3 ⟨rfl, hw⟩
    rw [hw]
    clear hw w3
    go_wp2_with fail
    refine (HO.out _).mono ?_
    rintro e w3 ⟨rfl, hw⟩
    rw [hw]
    clear hw w3
    obtain ⟨q, q0, q1, q2, f0, f1, f2⟩ := Q2.out
    go_wp2
    exact bodyPost_ret (v := zr 3 ⟨#[]⟩ (.slice none 0 0)) (by simp [results, Tryz.results8, go_sem, zr, q0, q1, q2]) rfl (by rw [HR3.out]; exact zret_bad _ _ (E2.out.box3 _ _ _))
  | true =>
  rw [ho] at HO
  have hdo : (Tre.okData d && Tre.okOwner o) = true := by rw [hd, ho]; rfl
  clear hd ho
  go_wp2_with fail
  refine (HD.out _).mono ?_
  rintro e w3 ⟨rfl, hw⟩
  rw [hw]
  clear hw w3
  go_wp2_with fail
  refine (HO.out _).mono ?_
  rintro e w3 ⟨rfl, hw⟩
  rw [hw]
  clear hw w3
  cases ht : (p.toList == [47]) with
  | true =>
    have HR1 : Hid (Tre.createV zs p d o q = (1, ⟨#[]⟩, [])) := by show _ = _; rw [HC.out, Tre.createT_top hdo ht]
    obtain ⟨q, q0, q1, q2, f0, f1, f2⟩ := Q2.out
    go_wp2
    exact bodyPost_ret (v := zr 1 ⟨#[]⟩ (.slice none 0 0)) (by simp [results, Tryz.results8, go_sem, zr, q0, q1, q2]) rfl (by rw [HR1.out]; exact zret_bad _ _ (E2.out.box3 _ _ _))
  | false =>
  have HCp : Hid (∀ wx : World, Ext w wx → Calls Tryz.prog 44 #[.slice a0 zs.length cap0] wx fun e w' => ∃ g off cap', e = .returned (.slice (some ⟨g, off, none⟩) zs.length cap') ∧ wx.heap.size ≤ g ∧ Wide w' g off cap' zs ∧ Ext wx w') := fun wx h => copyNodes_wide _ zs wx (HS.out.ext h) (by omega) hpos (fun z hz => by have := H24.out z hz; omega)
  go_wp2_with fail
  refine (HCp.out _ E2.out).mono ?_
  rintro e w4 ⟨g, off, cap, rfl, hg4, hW4, hb⟩
  have E4 : Hid (Ext w w4) := E2.out.trans hb
  have Q4 : Hid (RBox w4 w.heap.size) := Q2.out.ext hb
  have W4 : Hid (Wide w4 g off cap zs) := hW4
  have hgw : w.heap.size < g := by have := Q2.out.1; omega
  have hcm := hW4.2.1
  unfold maxLen at hcm
  clear hb hW4 hg4 HCp E2 Q2
  have hpt : ¬ p.data.toList = [47] := by rw [beq_top] at ht; simpa using ht
  have HFp : Hid (∀ wx : World, Ext w4 wx → Calls Tryz.prog 45 #[.slice (some ⟨g, off, none⟩) zs.length cap, .string p] wx fun e w' => e = .returned (ptrV g off zs (Tre.par p)) ∧ Ext wx w') := fun wx h => findParent_any g off cap zs p wx (HG.out.ext (E4.out.trans h)) hpf hpt (W4.out.ext h).slice HU.out (by omega)
  cases hh : Tre.has zs (Tre.par p) with
  | false =>
    have HR4 : Hid (Tre.createV zs p d o q = (4, ⟨#[]⟩, [])) := by show _ = _; rw [HC.out, Tre.createT_none hdo ht (Tre.has_not hh)]
    rw [ptrV_miss hh] at HFp
    go_wp2_with fail
    refine (HFp.out _ (Ext.refl _)).mono ?_
    rintro e w5 ⟨rfl, hb⟩
    have E5 : Hid (Ext w w5) := E4.out.trans hb
    have Q5 : Hid (RBox w5 w.heap.size) := Q4.out.ext hb
    clear hb
    obtain ⟨q, q0, q1, q2, f0, f1, f2⟩ := Q5.out
    go_wp2
    exact bodyPost_ret (v := zr 4 ⟨#[]⟩ (.slice none 0 0)) (by simp [results, Tryz.results8, go_sem, zr, q0, q1, q2]) rfl (by rw [HR4.out]; exact zret_bad _ _ (E5.out.box3 _ _ _))
  | true =>
  obtain ⟨y, hat, hyk, hkey⟩ := Tre.has_at HU.out hh
  rw [ptrV_hit hh rfl] at HFp
  generalize hkc : Tre.cut zs (Tre.par p).data.toList = k at *
  clear hkc hh
  have hyp : y.path = Tre.par p := ba_eq hkey
  have hkl := (List.getElem?_eq_some_iff.1 hyk).1
  obtain ⟨hyf, hyn⟩ := HNum.out y (List.mem_of_getElem? hyk)
  have HCs : Hid _ := Tre.createT_some (q := q) hdo ht hat hyk
  have HYK : Hid (zs[k]? = some y) := hyk
  clear hat hkey hdo
  go_wp2_with fail
  refine (HFp.out _ (Ext.refl _)).mono ?_
  rintro e w5 ⟨rfl, hb⟩
  have E5 : Hid (Ext w w5) := E4.out.trans hb
  have Q5 : Hid (RBox w5 w.heap.size) := Q4.out.ext hb
  have W5 : Hid (Wide w5 g off cap zs) := W4.out.ext hb
  clear hb E4 Q4 W4 HFp
  obtain ⟨y0, y1, y2, y3, y4⟩ := W5.out.2.2.2.2.1 k y hyk
  clear hyk
  by_cases hyo : y.owner = 0
  rotate_left
  · have HR8 : Hid (Tre.createV zs p d o q = (8, ⟨#[]⟩, [])) := by show _ = _; rw [HC.out, HCs.out, if_pos hyo]
    obtain ⟨q, q0, q1, q2, f0, f1, f2⟩ := Q5.out
    go_wp2
    exact bodyPost_ret (v := zr 8 ⟨#[]⟩ (.slice none 0 0)) (by simp [results, Tryz.results8, go_sem, zr, q0, q1, q2]) rfl (by rw [HR8.out]; exact zret_bad _ _ (E5.out.box3 _ _ _))
  have HCl : Hid (∀ wx : World, Calls Tryz.prog 46 #[.string p] wx fun e w' => e = .returned (.string p) ∧ Ext wx w') := fun wx => clone_any p wx (by have hp := Pth.faultI_len hpf; rw [len_eq] at hp; omega)
  go_wp2_with fail
  refine (HCl.out _).mono ?_
  rintro e w6 ⟨rfl, hb⟩
  have E6 : Hid (Ext w w6) := E5.out.trans hb
  have Q6 : Hid (RBox w6 w.heap.size) := Q5.out.ext hb
  have W6 : Hid (Wide w6 g off cap zs) := W5.out.ext hb
  have hgl6 := W6.out.2.2.2.1.1
  clear hb E5 Q5 W5 y0 y1 y2 y3 y4 HCl
  cases q with
  | false =>
    have HFin : Hid (Tre.createV zs p d o false = Tre.finT zs p zs d o) := by show _ = _; rw [HC.out, HCs.out, if_neg (by omega), if_neg (by decide)]
    obtain ⟨bs, hbs⟩ : ∃ bs, bs = zs := ⟨_, rfl⟩
    have HAt : Hid (∀ x, Tre.atI bs x = Tre.atI zs x) := fun x => by rw [hbs]
    have HLb : Hid (bs.length = zs.length) := by show _ = _; rw [hbs]
    have HUb : Hid (Tre.Up bs) := by show Tre.Up _; rw [hbs]; exact HU.out
    have WDb : Hid (Wide w6 g off cap bs) := by show Wide _ _ _ _ _; rw [hbs]; exact W6.out
    have HFin' : Hid (Tre.createV zs p d o false = Tre.finT zs p bs d o) := by show _ = _; rw [hbs]; exact HFin.out
    have EWb := E6
    have QWb := Q6
    have HPl : Hid (∀ wx : World, Ext w6 wx → Calls Tryz.prog 48 #[.slice (some ⟨g, off, none⟩) zs.length cap, .string p] wx fun e w' => e = .returned (.tuple #[.int .i64 (Tre.cut bs p.data.toList : Nat), .bool (Tre.has bs p)]) ∧ Ext wx w') := fun wx h => by
      have h2 := placeOf_any _ bs p wx (WDb.out.ext h).slice HUb.out (by have := HLb.out; omega)
      rw [HLb.out] at h2
      exact h2
    have hq6 := Q6.out.1
    clear HC HCs HFin hbs E6 Q6 W6
    have HFin := HFin'; clear HFin'
    have hhb : Tre.has bs p = Tre.has zs p := by unfold Tre.has; rw [HAt.out]
    generalize hkk : Tre.cut bs p.data.toList = kk at *
    have HKK : Hid (Tre.cut bs p.data.toList = kk) := hkk
    have hkle : kk ≤ bs.length := by rw [← hkk]; exact Tre.cut_le _ _
    rw [hhb] at HPl
    clear hkk hhb
    have hlen := HLb.out
    go_wp2_with fail
    refine (HPl.out _ ((Ext.refl _).alloc _)).mono ?_
    rintro e w9 ⟨rfl, hb9⟩
    have E9 : Hid (Ext w w9) := (EWb.out.alloc _).trans hb9
    have Q9 : Hid (RBox w9 w.heap.size) := QWb.out.ext (((Ext.refl _).alloc _).trans hb9)
    have WD9 : Hid (Wide w9 g off cap bs) := WDb.out.ext (((Ext.refl _).alloc _).trans hb9)
    have MB9 : Hid (ZW w9 w6.heap.size ⟨p, d, 0, o, 0⟩) := zw_new w6 ⟨p, d, 0, o, 0⟩ _ |>.ext hb9
    clear hb9 WDb EWb QWb HPl
    cases hh : Tre.has zs p with
    | true =>
      have HR6 : Hid (Tre.createV zs p d o false = (6, ⟨#[]⟩, [])) := by show _ = _; rw [HFin.out, Tre.finT_taken (by simpa [Tre.has] using hh)]
      obtain ⟨q, q0, q1, q2, f0, f1, f2⟩ := Q9.out
      go_wp2
      exact bodyPost_ret (v := zr 6 ⟨#[]⟩ (.slice none 0 0)) (by simp [results, Tryz.results8, go_sem, zr, q0, q1, q2]) rfl (by rw [HR6.out]; exact zret_bad _ _ (E9.out.box3 _ _ _))
    | false =>
    have hnh : ¬ 0 ≤ Tre.atI zs p := by simpa [Tre.has] using hh
    by_cases h20e : zs.length = 20
    · have HR2 : Hid (Tre.createV zs p d o false = (2, ⟨#[]⟩, [])) := by show _ = _; rw [HFin.out, Tre.finT_many hnh (by omega)]
      have hl20 : ((zs.length : Nat) : Int) = 20 := by omega
      obtain ⟨q, q0, q1, q2, f0, f1, f2⟩ := Q9.out
      go_wp2
      exact bodyPost_ret (v := zr 2 ⟨#[]⟩ (.slice none 0 0)) (by simp [results, Tryz.results8, go_sem, zr, q0, q1, q2]) rfl (by rw [HR2.out]; exact zret_bad _ _ (E9.out.box3 _ _ _))
    have HR0 : Hid (Tre.createV zs p d o false = (0, p, bs.take kk ++ ⟨p, d, 0, o, 0⟩ :: bs.drop kk)) := by
      show _ = _
      rw [HFin.out, Tre.finT_ok hnh (by omega)]
      unfold Tre.putT
      rw [show Tre.cut bs (Tre.key ⟨p, d, 0, o, 0⟩) = kk from HKK.out]
    have hl20 : ¬ ((zs.length : Nat) : Int) = 20 := by omega
    obtain ⟨ml, m0, m1, m2, m3, m4, mf⟩ := MB9.out
    have hgl := WD9.out.2.2.2.1.1
    have HIn : Hid (∀ (wx : World), Ext w9 wx → w9.heap.size < wx.heap.size → wx.heap[w9.heap.size]? = some (.cells #[.string p, .int .i64 d, .int .i64 0, .int .i64 o, .int .i64 0] 39 (0, 0)) → Calls Tryz.prog 49 #[.slice (some ⟨g, off, none⟩) zs.length cap, .int .i64 kk, .slice (some ⟨w9.heap.size, 0, none⟩) 1 1] wx fun e w' => ∃ a cap g', e = .returned (.slice a (bs.length + 1) cap) ∧ g ≤ g' ∧ Own w' (.slice a (bs.length + 1) cap) g' (bs.take kk ++ ⟨p, d, 0, o, 0⟩ :: bs.drop kk) ∧ Upd g wx w') := fun wx he hlt hv => by
      have h := insertZ_any g off cap kk w9.heap.size bs ⟨p, d, 0, o, 0⟩ wx (WD9.out.ext he) (by omega) hkle (by omega) hlt hv
      rw [show Value.slice (some ⟨g, off, none⟩) bs.length cap = Value.slice (some ⟨g, off, none⟩) zs.length cap from by rw [hlen]] at h
      exact h
    have hmg : w6.heap.size ≠ g := by omega
    have hmw : w6.heap.size ≠ w.heap.size := by omega
    clear HKK hkle hh hnh HFin MB9 mf
    go_wp2
    go_region_held3 (fun X => X.cell? ⟨w6.heap.size, 0, none⟩ = some (.string p) ∧ X.cell? ⟨w6.heap.size, 1, none⟩ = some (.int .i64 d) ∧ X.cell? ⟨w6.heap.size, 2, none⟩ = some (.int .i64 0) ∧ X.cell? ⟨w6.heap.size, 3, none⟩ = some (.int .i64 o) ∧ X.cell? ⟨w6.heap.size, 4, none⟩ = some (.int .i64 0)) (first | exact ⟨m0, m1, m2, m3, m4⟩ | exact ⟨n0, n1, n2, n3, n4⟩ | exact ⟨by rw [alloc_cell _ _ _ _ ml]; exact m0, by rw [alloc_cell _ _ _ _ ml]; exact m1, by rw [alloc_cell _ _ _ _ ml]; exact m2, by rw [alloc_cell _ _ _ _ ml]; exact m3, by rw [alloc_cell _ _ _ _ ml]; exact m4⟩ | exact ⟨(alloc_cell w9.drew _ _ _ ml).trans m0, (alloc_cell w9.drew _ _ _ ml).trans m1, (alloc_cell w9.drew _ _ _ ml).trans m2, (alloc_cell w9.drew _ _ _ ml).trans m3, (alloc_cell w9.drew _ _ _ ml).trans m4⟩ | exact ⟨by rw [iset_ne _ _ _ _ _ _ (by omega), iset_ne _ _ _ _ _ _ (by omega), iset_ne _ _ _ _ _ _ (by omega)]; exact n0, by rw [iset_ne _ _ _ _ _ _ (by omega), iset_ne _ _ _ _ _ _ (by omega), iset_ne _ _ _ _ _ _ (by omega)]; exact n1, by rw [iset_ne _ _ _ _ _ _ (by omega), iset_ne _ _ _ _ _ _ (by omega), iset_ne _ _ _ _ _ _ (by omega)]; exact n2, by rw [iset_ne _ _ _ _ _ _ (by omega), iset_ne _ _ _ _ _ _ (by omega), iset_ne _ _ _ _ _ _ (by omega)]; exact n3, by rw [iset_ne _ _ _ _ _ _ (by omega), iset_ne _ _ _ _ _ _ (by omega), iset_ne _ _ _ _ _ _ (by omega)]; exact n4⟩ | go_keep) (first | (have tk := E9; clear tk; go_at_call 49; have hz1 := HIn.out _ (((Ext.refl w9).alloc (Obj.cells #[.string p, .int .i64 d, .int .i64 0, .int .i64 o, .int .i64 0] 39)).drew) (alloc_lt w9 _) (alloc_new w9 _ _); refine hz1.mono ?_; rintro e w10 ⟨a10, cap10, g10, rfl, hg10, hO10, hU10⟩; have X10 : Hid (Upd g w9 w10) := (Upd.ext (((Ext.refl w9).alloc (Obj.cells #[.string p, .int .i64 d, .int .i64 0, .int .i64 o, .int .i64 0] 39)).drew) (by omega)).trans hU10; have E10 : Hid (Ext w w10) := X10.out.to_ext E9.out (by omega); have O10 : Hid (Own w10 (.slice a10 (bs.length + 1) cap10) g10 (bs.take kk ++ ⟨p, d, 0, o, 0⟩ :: bs.drop kk)) := hO10; obtain ⟨r, r0, r1, r2, rf0, rf1, rf2⟩ := Q9.out.updS X10.out (by omega); have n0 := (X10.out.at_ne _ _ hmg ml).1.trans m0; have n1 := (X10.out.at_ne _ _ hmg ml).1.trans m1; have n2 := (X10.out.at_ne _ _ hmg ml).1.trans m2; have n3 := (X10.out.at_ne _ _ hmg ml).1.trans m3; have n4 := (X10.out.at_ne _ _ hmg ml).1.trans m4; have hm10 := X10.out.2.1; clear hz1 E9 Q9 WD9 X10 hU10 hO10 m0 m1 m2 m3 m4))
    go_wp2
    exact bodyPost_ret (v := zr 0 p (.slice a10 (zs.length + 1) cap10)) (by simp [results, Tryz.results8, go_sem, zr, r0, r1, r2]) rfl (by rw [HR0.out]; have h := O10.out; rw [hlen] at h; exact zret_own 0 p h (by omega) E10.out _ _ _)
  | true =>
    have HNu : Hid (∀ wx : World, Ext w6 wx → Calls Tryz.prog 47 #[.pointer (some ⟨g, off + k * 5, none⟩), .string p] wx fun e w' => e = .returned (tr (Tre.numV p y)) ∧ Ext wx w') := fun wx h => by
      obtain ⟨y0, y1, y2, y3, y4⟩ := (W6.out.ext h).2.2.2.2.1 k y HYK.out
      have hn := Tre.okNums_next hyn
      exact numberedPath_any g (off + k * 5) y p wx (HG.out.ext (E6.out.trans h)) (Nat.lt_of_lt_of_le hgl6 h.size) y0 y4 hpf hpt hyp hyf hn.1 hn.2
    have HCr : Hid (Tre.createV zs p d o true = if (Tre.numV p y).1 ≠ 0 then ((Tre.numV p y).1, ⟨#[]⟩, []) else Tre.finT zs (Tre.seqT zs p k y).2.1 (Tre.seqT zs p k y).2.2 d o) := by
      show _ = _
      rw [HC.out, HCs.out, if_neg (by omega), if_pos rfl, Tre.seqT_bad]
    have hsk := Tre.seqT_ok (zs := zs) (p := p) (k := k) (y := y)
    generalize hnv : Tre.numV p y = N at *
    obtain ⟨nc, nt⟩ := N
    have HSK : Hid (nc = 0 → Tre.seqT zs p k y = (0, Tre.seqP p y.next, zs.set k { y with next := y.next + 1 }) ∧ nt = (Tre.seqP p y.next).data.toList) := hsk
    unfold tr at HNu
    simp only at HNu HCr
    clear hsk hnv HC HCs
    have hq6 := Q6.out.1
    go_wp2_with fail
    refine (HNu.out _ ((Ext.refl _).alloc _)).mono ?_
    rintro e w7 ⟨rfl, hb7⟩
    have E7 : Hid (Ext w w7) := (E6.out.alloc _).trans hb7
    have Q7 : Hid (RBox w7 w.heap.size) := Q6.out.ext (((Ext.refl _).alloc _).trans hb7)
    have W7 : Hid (Wide w7 g off cap zs) := W6.out.ext (((Ext.refl _).alloc _).trans hb7)
    have M7 : Hid (ZW w7 w6.heap.size ⟨p, d, 0, o, 0⟩) := (zw_new w6 ⟨p, d, 0, o, 0⟩ _).ext hb7
    have hs7 := hb7.size
    simp only [World.size_alloc] at hs7
    clear hb7 E6 Q6 W6 HNu
    by_cases hnc : nc = 0
    rotate_left
    · have HRn : Hid (Tre.createV zs p d o true = (nc, ⟨#[]⟩, [])) := by show _ = _; rw [HCr.out, if_pos hnc]
      obtain ⟨q, q0, q1, q2, f0, f1, f2⟩ := Q7.out
      have hal := alloc_cell
      have haf := alloc_frozen
      go_wp2
      exact bodyPost_ret (v := zr nc ⟨#[]⟩ (.slice none 0 0)) (by simp [results, Tryz.results8, go_sem, zr, q0, q1, q2, q, alloc_cell]) rfl (by rw [HRn.out]; exact zret_bad _ _ (by first | exact (E7.out.box3 _ _ _).alloc _ | exact (E7.out.alloc _).box3 _ _ _))
    subst hnc
    obtain ⟨hsq, rfl⟩ := HSK.out rfl
    obtain ⟨P, hP⟩ : ∃ P, P = Tre.seqP p y.next := ⟨_, rfl⟩
    obtain ⟨bs, hbs⟩ : ∃ bs, bs = zs.set k { y with next := y.next + 1 } := ⟨_, rfl⟩
    have HFin : Hid (Tre.createV zs p d o true = Tre.finT zs P bs d o) := by show _ = _; rw [HCr.out, if_neg (by simp), hsq, hP, hbs]
    have HAt : Hid (∀ x, Tre.atI bs x = Tre.atI zs x) := fun x => by rw [hbs]; exact Tre.set_next_at zs HYK.out _ x
    have HLb : Hid (bs.length = zs.length) := by show _ = _; rw [hbs]; simp
    have HUb : Hid (Tre.Up bs) := by show Tre.Up _; rw [hbs]; exact Tre.set_next_up HU.out HYK.out _
    have hmt : mkB (Tre.seqP p y.next).data.toList = P := by rw [hP]; exact Tre.mkB_data _
    rw [hmt]
    have hnx := Tre.okNums_next hyn
    have hwr : IntKind.i64.wrap (y.next + 1) = y.next + 1 := by rw [IntKind.wrap_i64]; omega
    have h6w : w.heap.size ≤ w6.heap.size := by omega
    have hgw2 : w.heap.size ≤ g := by omega
    have WDb : Hid (Wide ((w7.setCell ⟨w6.heap.size, 0, none⟩ (.string P)).setCell ⟨g, off + k * 5 + 4, none⟩ (.int .i64 (y.next + 1))) g off cap bs) := by
      show Wide _ _ _ _ _
      rw [hbs]
      exact Wide.field (W7.out.other (by omega)) HYK.out 4 (by omega) _ { y with next := y.next + 1 } rfl
    have MBb : Hid (ZW ((w7.setCell ⟨w6.heap.size, 0, none⟩ (.string P)).setCell ⟨g, off + k * 5 + 4, none⟩ (.int .i64 (y.next + 1))) w6.heap.size ⟨P, d, 0, o, 0⟩) := (M7.out.path P).other (by omega)
    have QWb : Hid (RBox ((w7.setCell ⟨w6.heap.size, 0, none⟩ (.string P)).setCell ⟨g, off + k * 5 + 4, none⟩ (.int .i64 (y.next + 1))) w.heap.size) := (Q7.out.other (by omega)).other (by omega)
    have EWb : Hid (Ext w ((w7.setCell ⟨w6.heap.size, 0, none⟩ (.string P)).setCell ⟨g, off + k * 5 + 4, none⟩ (.int .i64 (y.next + 1)))) := (E7.out.setCell (p := ⟨w6.heap.size, 0, none⟩) h6w _).setCell (p := ⟨g, off + k * 5 + 4, none⟩) hgw2 _
    have HPl : Hid (∀ wx : World, Ext ((w7.setCell ⟨w6.heap.size, 0, none⟩ (.string P)).setCell ⟨g, off + k * 5 + 4, none⟩ (.int .i64 (y.next + 1))) wx → Calls Tryz.prog 48 #[.slice (some ⟨g, off, none⟩) zs.length cap, .string P] wx fun e w' => e = .returned (.tuple #[.int .i64 (Tre.cut bs P.data.toList : Nat), .bool (Tre.has bs P)]) ∧ Ext wx w') := fun wx h => by
      have h2 := placeOf_any _ bs P wx (WDb.out.ext h).slice HUb.out (by have := HLb.out; omega)
      rw [HLb.out] at h2
      exact h2
    obtain ⟨ml, m0, m1, m2, m3, m4, mf⟩ := M7.out
    obtain ⟨y0, y1, y2, y3, y4⟩ := W7.out.2.2.2.2.1 k y HYK.out
    have yf := (W7.out.2.2.2.1.2 (k * 5 + 4) (by have := W7.out.1; omega)).2
    rw [← Nat.add_assoc] at yf
    have hal := alloc_cell
    have haf := alloc_frozen
    have hgl7 : g < w7.heap.size := W7.out.2.2.2.1.1
    clear HCr HSK hsq hP hbs hmt E7 Q7 W7 M7
    have hhb : Tre.has bs P = Tre.has zs P := by unfold Tre.has; rw [HAt.out]
    generalize hkk : Tre.cut bs P.data.toList = kk at *
    have HKK : Hid (Tre.cut bs P.data.toList = kk) := hkk
    have hkle : kk ≤ bs.length := by rw [← hkk]; exact Tre.cut_le _ _
    rw [hhb] at HPl
    clear hkk hhb
    have hlen := HLb.out
    go_wp2_with fail
    refine (HPl.out _ ((Ext.refl _).alloc _)).mono ?_
    rintro e w9 ⟨rfl, hb9⟩
    have E9 : Hid (Ext w w9) := (EWb.out.alloc _).trans hb9
    have Q9 : Hid (RBox w9 w.heap.size) := QWb.out.ext (((Ext.refl _).alloc _).trans hb9)
    have WD9 : Hid (Wide w9 g off cap bs) := WDb.out.ext (((Ext.refl _).alloc _).trans hb9)
    have MB9 : Hid (ZW w9 w6.heap.size ⟨P, d, 0, o, 0⟩) := MBb.out.ext (((Ext.refl _).alloc _).trans hb9)
    clear hb9 ml m0 m1 m2 m3 m4 mf y0 y1 y2 y3 y4 yf hal haf MBb WDb EWb QWb HPl
    cases hh : Tre.has zs P with
    | true =>
      have HR6 : Hid (Tre.createV zs p d o true = (6, ⟨#[]⟩, [])) := by show _ = _; rw [HFin.out, Tre.finT_taken (by simpa [Tre.has] using hh)]
      obtain ⟨q, q0, q1, q2, f0, f1, f2⟩ := Q9.out
      go_wp2
      exact bodyPost_ret (v := zr 6 ⟨#[]⟩ (.slice none 0 0)) (by simp [results, Tryz.results8, go_sem, zr, q0, q1, q2]) rfl (by rw [HR6.out]; exact zret_bad _ _ (E9.out.box3 _ _ _))
    | false =>
    have hnh : ¬ 0 ≤ Tre.atI zs P := by simpa [Tre.has] using hh
    by_cases h20e : zs.length = 20
    · have HR2 : Hid (Tre.createV zs p d o true = (2, ⟨#[]⟩, [])) := by show _ = _; rw [HFin.out, Tre.finT_many hnh (by omega)]
      have hl20 : ((zs.length : Nat) : Int) = 20 := by omega
      obtain ⟨q, q0, q1, q2, f0, f1, f2⟩ := Q9.out
      go_wp2
      exact bodyPost_ret (v := zr 2 ⟨#[]⟩ (.slice none 0 0)) (by simp [results, Tryz.results8, go_sem, zr, q0, q1, q2]) rfl (by rw [HR2.out]; exact zret_bad _ _ (E9.out.box3 _ _ _))
    have HR0 : Hid (Tre.createV zs p d o true = (0, P, bs.take kk ++ ⟨P, d, 0, o, 0⟩ :: bs.drop kk)) := by
      show _ = _
      rw [HFin.out, Tre.finT_ok hnh (by omega)]
      unfold Tre.putT
      rw [show Tre.cut bs (Tre.key ⟨P, d, 0, o, 0⟩) = kk from HKK.out]
    have hl20 : ¬ ((zs.length : Nat) : Int) = 20 := by omega
    obtain ⟨ml, m0, m1, m2, m3, m4, mf⟩ := MB9.out
    have hgl := WD9.out.2.2.2.1.1
    have HIn : Hid (∀ (wx : World), Ext w9 wx → w9.heap.size < wx.heap.size → wx.heap[w9.heap.size]? = some (.cells #[.string P, .int .i64 d, .int .i64 0, .int .i64 o, .int .i64 0] 39 (0, 0)) → Calls Tryz.prog 49 #[.slice (some ⟨g, off, none⟩) zs.length cap, .int .i64 kk, .slice (some ⟨w9.heap.size, 0, none⟩) 1 1] wx fun e w' => ∃ a cap g', e = .returned (.slice a (bs.length + 1) cap) ∧ g ≤ g' ∧ Own w' (.slice a (bs.length + 1) cap) g' (bs.take kk ++ ⟨P, d, 0, o, 0⟩ :: bs.drop kk) ∧ Upd g wx w') := fun wx he hlt hv => by
      have h := insertZ_any g off cap kk w9.heap.size bs ⟨P, d, 0, o, 0⟩ wx (WD9.out.ext he) (by omega) hkle (by omega) hlt hv
      rw [show Value.slice (some ⟨g, off, none⟩) bs.length cap = Value.slice (some ⟨g, off, none⟩) zs.length cap from by rw [hlen]] at h
      exact h
    have hmg : w6.heap.size ≠ g := by omega
    have hmw : w6.heap.size ≠ w.heap.size := by omega
    clear HKK hkle hh hnh HFin MB9 mf
    go_wp2
    go_region_held3 (fun X => X.cell? ⟨w6.heap.size, 0, none⟩ = some (.string P) ∧ X.cell? ⟨w6.heap.size, 1, none⟩ = some (.int .i64 d) ∧ X.cell? ⟨w6.heap.size, 2, none⟩ = some (.int .i64 0) ∧ X.cell? ⟨w6.heap.size, 3, none⟩ = some (.int .i64 o) ∧ X.cell? ⟨w6.heap.size, 4, none⟩ = some (.int .i64 0)) (first | exact ⟨m0, m1, m2, m3, m4⟩ | exact ⟨n0, n1, n2, n3, n4⟩ | exact ⟨by rw [alloc_cell _ _ _ _ ml]; exact m0, by rw [alloc_cell _ _ _ _ ml]; exact m1, by rw [alloc_cell _ _ _ _ ml]; exact m2, by rw [alloc_cell _ _ _ _ ml]; exact m3, by rw [alloc_cell _ _ _ _ ml]; exact m4⟩ | exact ⟨(alloc_cell w9.drew _ _ _ ml).trans m0, (alloc_cell w9.drew _ _ _ ml).trans m1, (alloc_cell w9.drew _ _ _ ml).trans m2, (alloc_cell w9.drew _ _ _ ml).trans m3, (alloc_cell w9.drew _ _ _ ml).trans m4⟩ | exact ⟨by rw [iset_ne _ _ _ _ _ _ (by omega), iset_ne _ _ _ _ _ _ (by omega), iset_ne _ _ _ _ _ _ (by omega)]; exact n0, by rw [iset_ne _ _ _ _ _ _ (by omega), iset_ne _ _ _ _ _ _ (by omega), iset_ne _ _ _ _ _ _ (by omega)]; exact n1, by rw [iset_ne _ _ _ _ _ _ (by omega), iset_ne _ _ _ _ _ _ (by omega), iset_ne _ _ _ _ _ _ (by omega)]; exact n2, by rw [iset_ne _ _ _ _ _ _ (by omega), iset_ne _ _ _ _ _ _ (by omega), iset_ne _ _ _ _ _ _ (by omega)]; exact n3, by rw [iset_ne _ _ _ _ _ _ (by omega), iset_ne _ _ _ _ _ _ (by omega), iset_ne _ _ _ _ _ _ (by omega)]; exact n4⟩ | go_keep) (first | (have tk := E9; clear tk; go_at_call 49; have hz1 := HIn.out _ (((Ext.refl w9).alloc (Obj.cells #[.string P, .int .i64 d, .int .i64 0, .int .i64 o, .int .i64 0] 39)).drew) (alloc_lt w9 _) (alloc_new w9 _ _); refine hz1.mono ?_; rintro e w10 ⟨a10, cap10, g10, rfl, hg10, hO10, hU10⟩; have X10 : Hid (Upd g w9 w10) := (Upd.ext (((Ext.refl w9).alloc (Obj.cells #[.string P, .int .i64 d, .int .i64 0, .int .i64 o, .int .i64 0] 39)).drew) (by omega)).trans hU10; have E10 : Hid (Ext w w10) := X10.out.to_ext E9.out (by omega); have O10 : Hid (Own w10 (.slice a10 (bs.length + 1) cap10) g10 (bs.take kk ++ ⟨P, d, 0, o, 0⟩ :: bs.drop kk)) := hO10; obtain ⟨r, r0, r1, r2, rf0, rf1, rf2⟩ := Q9.out.updS X10.out (by omega); have n0 := (X10.out.at_ne _ _ hmg ml).1.trans m0; have n1 := (X10.out.at_ne _ _ hmg ml).1.trans m1; have n2 := (X10.out.at_ne _ _ hmg ml).1.trans m2; have n3 := (X10.out.at_ne _ _ hmg ml).1.trans m3; have n4 := (X10.out.at_ne _ _ hmg ml).1.trans m4; have hm10 := X10.out.2.1; clear hz1 E9 Q9 WD9 X10 hU10 hO10 m0 m1 m2 m3 m4))
    go_wp2
    exact bodyPost_ret (v := zr 0 P (.slice a10 (zs.length + 1) cap10)) (by simp [results, Tryz.results8, go_sem, zr, r0, r1, r2]) rfl (by rw [HR0.out]; have h := O10.out; rw [hlen] at h; exact zret_own 0 P h (by omega) E10.out _ _ _)
end Go.Proofs.YtmiffefnpendoaaGreatDoor
