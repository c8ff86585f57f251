/- laws.FnSessions, walked: it answers true at every code. -/
import Derived.Test.YtjlmkjcahnnjpaaE17
import Derived.Deep.RegionHeld3
import Derived.BigGuardPart
namespace Go.Proofs.Ytjlmkjcahnnjpaa
open Go.RowKit

set_option maxHeartbeats 400000 in
theorem lawSessions_big (ad : Option Addr) (len cap : Nat) (w : World) (hl : 1048576 < len) :
    Calls Try.prog 3 #[.slice ad len cap] w fun e w' => e = .returned (.bool true) ∧ Ext w w' := by
  have hbig : decide (1048576 < len) = true := by simpa using hl
  have hB := lwBigE_any ad len cap w
  rw [hbig] at hB
  clear hbig
  go_enter Try.func3, Try.ntmps3
  go_wp2_with fail
  refine hB.mono ?_
  rintro e w0 ⟨rfl, hw⟩
  subst hw
  clear hB
  go_wp2
  go_ret
  exact ⟨rfl, Ext.refl _⟩

/-- How the law stands behind OpenSession: the list, the answer's block, what it holds. -/
def LSt (w : World) (R : Nat) (c : Int) (v rv : Value) (l rs : List Se) (wx : World) : Prop := EBoxAt wx R c rv ∧ ESlice wx v l ∧ ESlice wx rv rs ∧ Ext w wx
theorem LSt.ext {w wx wy : World} {R : Nat} {c : Int} {v rv : Value} {l rs : List Se} (h : LSt w R c v rv l rs wx) (he : Ext wx wy) : LSt w R c v rv l rs wy :=
  ⟨h.1.ext he, h.2.1.ext he, h.2.2.1.ext he, h.2.2.2.trans he⟩

set_option maxHeartbeats 8000000 in
set_option maxRecDepth 100000 in
theorem lawSessions (cv : Value) (w : World) (hc : CodeOk w w.heap.size cv) :
    Calls Try.prog 3 #[cv] w fun e w' => e = .returned (.bool true) ∧ Ext w w' := by
  have hc' := hc
  obtain ⟨ad, len, cap, rfl, hl, -⟩ := hc'
  have HD : Hid (Calls Try.prog 10 #[.slice ad len cap] w (DrawnE w)) := drawOpenSession_any _ w hc
  have hbig : decide (1048576 < len) = false := by simpa using hl
  have hB := lwBigE_any ad len cap w
  rw [hbig] at hB
  clear hc hbig
  go_enter Try.func3, Try.ntmps3
  go_wp2_with fail
  refine hB.mono ?_
  rintro e w0 ⟨rfl, hw⟩
  subst hw
  clear hB
  go_wp2_with fail
  refine HD.out.mono ?_
  rintro e w1 ⟨v, l, i, n, rfl, hv, hS, hl7, hb⟩
  have HV : Hid (SomeS v) := hv
  have HS1 : Hid (ESlice w1 v l ∧ Ext w0 w1) := ⟨hS, hb⟩
  obtain ⟨a1, cap1, rfl, -⟩ := hS
  clear hv hb HD
  obtain ⟨ro, hro⟩ : ∃ r, Ses.openV l i n = r := ⟨_, rfl⟩
  have HRO : Hid (Ses.openV l i n = ro) := hro
  have HOp : Hid (∀ wx, ESlice wx (.slice a1 l.length cap1) l → Calls Try.prog 11 #[.slice a1 l.length cap1, .int .i64 i, .int .i64 n] wx (ERet wx ro.1 ro.2)) := fun wx h => by rw [← hro]; exact implOpenSession_any _ l i n wx h
  have HSp : Hid (∀ wx, ESlice wx (.slice a1 l.length cap1) l → Calls Try.prog 13 #[.slice a1 l.length cap1, .int .i64 i, .int .i64 n] wx (ERet wx ro.1 ro.2)) := fun wx h => by rw [← hro]; exact specOpenSession_any _ l i n wx HV.out h
  clear hro
  obtain ⟨c, rs⟩ := ro
  go_wp2_with fail
  refine (HOp.out _ HS1.out.1).mono ?_
  rintro e w2 ⟨rv, g, rfl, -, hO, hb⟩
  obtain ⟨a2, cap2, rfl, -⟩ := id hO
  have HL2 : Hid (∀ t, LSt w0 w2.heap.size c (.slice a1 l.length cap1) (.slice a2 rs.length cap2) l rs (w2.alloc (.cells #[.int .i64 c, .slice a2 rs.length cap2] t))) := fun t => ⟨eboxAt_new _ _ _ _, (HS1.out.1.ext hb).ext ((Ext.refl _).alloc _), hO.slice.ext ((Ext.refl _).alloc _), (HS1.out.2.trans hb).alloc _⟩
  clear hO hb HOp
  unfold er
  by_cases hc0 : c = 0
  · subst hc0
    obtain ⟨hrs, hri, hi, hn, hh, hl6, ho⟩ := opened_facts HRO.out
    obtain ⟨s1, s2, s3⟩ := opened_split HRO.out
    have HSs : Hid (∀ wx, ESlice wx (.slice a2 rs.length cap2) rs → Calls Try.prog 16 #[.slice a2 rs.length cap2, .int .i64 n] wx (SRet wx (Ses.splitV rs n).1 (Ses.splitV rs n).2.1 (Ses.splitV rs n).2.2)) := fun wx h => implSplitSessions_any _ rs n wx h
    have HF : Hid (∀ wx, ESlice wx (.slice a2 rs.length cap2) rs → Calls Try.prog 17 #[.slice a2 rs.length cap2] wx fun e w' => e = .returned (.int .i64 0) ∧ Ext wx w') := fun wx h => by have := implSessionsFault_any _ rs wx h; rw [opened_fault HRO.out] at this; exact this
    have HLr : Hid (∀ (m : Int) wx, 0 ≤ m ∧ m ≤ 9000 → ESlice wx (.slice a2 rs.length cap2) rs → Calls Try.prog 15 #[.slice a2 rs.length cap2, .int .i64 i, .int .i64 m] wx fun e w' => e = .returned (.bool (decide (m ≤ n + 10))) ∧ Ext wx w') := fun m wx hm h => by have := implLiveSession_any _ rs i m wx h; rw [opened_live HRO.out hm] at this; exact this
    have HLl : Hid (∀ wx, ESlice wx (.slice a1 l.length cap1) l → Calls Try.prog 15 #[.slice a1 l.length cap1, .int .i64 i, .int .i64 n] wx fun e w' => e = .returned (.bool false) ∧ Ext wx w') := fun wx h => by have := implLiveSession_any _ l i n wx h; rw [opened_dead HRO.out] at this; exact this
    have HTk : Hid (∀ wx, ESlice wx (.slice a2 rs.length cap2) rs → Calls Try.prog 11 #[.slice a2 rs.length cap2, .int .i64 i, .int .i64 n] wx (ERet wx 6 [])) := fun wx h => by have := implOpenSession_any _ rs i n wx h; rw [opened_taken HRO.out] at this; exact this
    rw [s1] at HSs
    obtain ⟨ls, hls⟩ : ∃ x, x = (Ses.splitV rs n).2.1 := ⟨_, rfl⟩
    obtain ⟨os, hos⟩ : ∃ x, x = (Ses.splitV rs n).2.2 := ⟨_, rfl⟩
    rw [← hls, ← hos] at s2
    rw [← hls, ← hos] at HSs
    rw [← hos] at s3
    have HN : Hid (i ∉ os) := s3
    have hlen : rs.length ≤ 7 := by rw [hrs]; have := putSe_len ⟨i, n + 10⟩ l; omega
    clear hls hos s1 s3 hrs hri hh hl6 ho HRO HSp
    go_wp2_with fail
    refine (HSs.out _ (HL2.out _).2.2.1).mono ?_
    rintro e w3 ⟨sv, su, g3, h3, rfl, -, -, -, hO, hI, hb⟩
    obtain ⟨a3, cap3, rfl, -⟩ := id hO
    obtain ⟨b3, cb3, rfl, -⟩ := id hI
    have HL3 : Hid (LSt w0 w2.heap.size 0 (.slice a1 l.length cap1) (.slice a2 rs.length cap2) l rs w3) := (HL2.out _).ext hb
    have HI3 : Hid (ISlice w3 (.slice b3 os.length cb3) os) := hI.slice
    clear hO hI hb HL2 HSs
    unfold sr
    have hs2 : ((ls.length : Nat) : Int) + ((os.length : Nat) : Int) = ((rs.length : Nat) : Int) := by omega
    have hf6 : ∀ (c : Int) (u : Value) (w : World), (Instr.field 28 (.agg #[.int .i64 c, u]) 0).run Try.prog w = .ok (.int .i64 c) w := fun _ _ _ => by kernel_rfl
    obtain ⟨en, hen⟩ : ∃ en, n + 10 = en := ⟨_, rfl⟩
    have HEn : Hid (n + 10 = en) := hen
    have hen1 : 0 ≤ en ∧ en ≤ 9010 := by omega
    by_cases hq1 : (9000 : Int) < en
    · have hd1 : decide ((9000 : Int) < en) = true := by simpa using hq1
      have hd2 : decide ((9000 : Int) ≤ en) = true := by simp; omega
      clear hq1
      obtain ⟨x0, x1, x2⟩ := HL3.out.1
      go_wp2_with fail
      refine (HF.out _ (HL3.out.ext ((Ext.refl _).alloc _)).2.2.1).mono ?_
      rintro e w4 ⟨rfl, hb⟩
      clear hen
      have HL4 : Hid (LSt w0 w2.heap.size 0 (.slice a1 l.length cap1) (.slice a2 rs.length cap2) l rs w4) := (HL3.out.ext ((Ext.refl _).alloc _)).ext hb
      have HB4 : Hid (SBoxAt w4 w3.heap.size 0 (.slice a3 ls.length cap3) (.slice b3 os.length cb3)) := (sboxAt_new _ _ _ _ _).ext hb
      have HI4 : Hid (ISlice w4 (.slice b3 os.length cb3) os) := (HI3.out.ext ((Ext.refl _).alloc _)).ext hb
      clear hb x0 x1 x2
      obtain ⟨x0, x1, x2⟩ := HL4.out.1
      obtain ⟨y0, y1, y2, y3⟩ := HB4.out
      go_wp2_with fail
      refine (HLr.out n _ hn HL4.out.2.2.1).mono ?_
      rintro e w5 ⟨rfl, hb⟩
      have HL5 : Hid (LSt w0 w2.heap.size 0 (.slice a1 l.length cap1) (.slice a2 rs.length cap2) l rs w5) := HL4.out.ext hb
      have HB5 : Hid (SBoxAt w5 w3.heap.size 0 (.slice a3 ls.length cap3) (.slice b3 os.length cb3)) := HB4.out.ext hb
      have HI5 : Hid (ISlice w5 (.slice b3 os.length cb3) os) := HI4.out.ext hb
      clear hb x0 x1 x2 y0 y1 y2 y3 HL4 HB4 HI4
      obtain ⟨x0, x1, x2⟩ := HL5.out.1
      obtain ⟨y0, y1, y2, y3⟩ := HB5.out
      rw [decide_eq_true (show n ≤ n + 10 by omega)]
      go_wp2_with fail
      refine (HLl.out _ HL5.out.2.1).mono ?_
      rintro e w6 ⟨rfl, hb⟩
      have HL6 : Hid (LSt w0 w2.heap.size 0 (.slice a1 l.length cap1) (.slice a2 rs.length cap2) l rs w6) := HL5.out.ext hb
      have HB6 : Hid (SBoxAt w6 w3.heap.size 0 (.slice a3 ls.length cap3) (.slice b3 os.length cb3)) := HB5.out.ext hb
      have HI6 : Hid (ISlice w6 (.slice b3 os.length cb3) os) := HI5.out.ext hb
      clear hb x0 x1 x2 y0 y1 y2 y3 HL5 HB5 HI5
      obtain ⟨x0, x1, x2⟩ := HL6.out.1
      obtain ⟨y0, y1, y2, y3⟩ := HB6.out
      dsimp only
      iterate 3 (first | go_values | go_skip | go_guarded | go_step | go_upon | go_back)
      dsimp only [List.append]
      go_wp2_with fail
      refine (lwHas_any _ os i _ HI6.out HN.out).mono ?_
      rintro e w7 ⟨rfl, hw⟩
      have hb : Ext w6 w7 := by rw [hw]; exact Ext.refl _
      clear hw
      have HL7 : Hid (LSt w0 w2.heap.size 0 (.slice a1 l.length cap1) (.slice a2 rs.length cap2) l rs w7) := HL6.out.ext hb
      have HB7 : Hid (SBoxAt w7 w3.heap.size 0 (.slice a3 ls.length cap3) (.slice b3 os.length cb3)) := HB6.out.ext hb
      have HI7 : Hid (ISlice w7 (.slice b3 os.length cb3) os) := HI6.out.ext hb
      clear x0 x1 x2 y0 y1 y2 y3 HL6 HB6 HI6
      clear hb
      obtain ⟨x0, x1, x2⟩ := HL7.out.1
      obtain ⟨y0, y1, y2, y3⟩ := HB7.out
      go_wp2_with fail
      refine (HTk.out _ HL7.out.2.2.1).mono ?_
      rintro e w8 ⟨v9, g9, rfl, -, hO, hb⟩
      have HE : Hid (Ext w0 w8) := HL7.out.2.2.2.trans hb
      obtain ⟨a9, cap9, rfl, -⟩ := hO
      clear hb
      unfold er
      go_wp2
      go_ret
      exact ⟨rfl, HE.out⟩
    · have hd1 : decide ((9000 : Int) < en) = false := by simpa using hq1
      by_cases hq2 : (9000 : Int) ≤ en
      · have hd2 : decide ((9000 : Int) ≤ en) = true := by simpa using hq2
        obtain ⟨x0, x1, x2⟩ := HL3.out.1
        go_wp2_with fail
        refine (HF.out _ (HL3.out.ext ((Ext.refl _).alloc _)).2.2.1).mono ?_
        rintro e w4 ⟨rfl, hb⟩
        clear hen
        have HL4 : Hid (LSt w0 w2.heap.size 0 (.slice a1 l.length cap1) (.slice a2 rs.length cap2) l rs w4) := (HL3.out.ext ((Ext.refl _).alloc _)).ext hb
        have HB4 : Hid (SBoxAt w4 w3.heap.size 0 (.slice a3 ls.length cap3) (.slice b3 os.length cb3)) := (sboxAt_new _ _ _ _ _).ext hb
        have HI4 : Hid (ISlice w4 (.slice b3 os.length cb3) os) := (HI3.out.ext ((Ext.refl _).alloc _)).ext hb
        clear hb x0 x1 x2
        obtain ⟨x0, x1, x2⟩ := HL4.out.1
        obtain ⟨y0, y1, y2, y3⟩ := HB4.out
        go_wp2_with fail
        refine (HLr.out n _ hn HL4.out.2.2.1).mono ?_
        rintro e w5 ⟨rfl, hb⟩
        have HL5 : Hid (LSt w0 w2.heap.size 0 (.slice a1 l.length cap1) (.slice a2 rs.length cap2) l rs w5) := HL4.out.ext hb
        have HB5 : Hid (SBoxAt w5 w3.heap.size 0 (.slice a3 ls.length cap3) (.slice b3 os.length cb3)) := HB4.out.ext hb
        have HI5 : Hid (ISlice w5 (.slice b3 os.length cb3) os) := HI4.out.ext hb
        clear hb x0 x1 x2 y0 y1 y2 y3 HL4 HB4 HI4
        obtain ⟨x0, x1, x2⟩ := HL5.out.1
        obtain ⟨y0, y1, y2, y3⟩ := HB5.out
        rw [decide_eq_true (show n ≤ n + 10 by omega)]
        go_wp2_with fail
        refine (HLl.out _ HL5.out.2.1).mono ?_
        rintro e w6 ⟨rfl, hb⟩
        have HL6 : Hid (LSt w0 w2.heap.size 0 (.slice a1 l.length cap1) (.slice a2 rs.length cap2) l rs w6) := HL5.out.ext hb
        have HB6 : Hid (SBoxAt w6 w3.heap.size 0 (.slice a3 ls.length cap3) (.slice b3 os.length cb3)) := HB5.out.ext hb
        have HI6 : Hid (ISlice w6 (.slice b3 os.length cb3) os) := HI5.out.ext hb
        clear hb x0 x1 x2 y0 y1 y2 y3 HL5 HB5 HI5
        obtain ⟨x0, x1, x2⟩ := HL6.out.1
        obtain ⟨y0, y1, y2, y3⟩ := HB6.out
        dsimp only
        iterate 3 (first | go_values | go_skip | go_guarded | go_step | go_upon | go_back)
        dsimp only [List.append]
        go_wp2_with fail
        refine (HLr.out en _ (by omega) HL6.out.2.2.1).mono ?_
        rintro e w7 ⟨rfl, hb⟩
        have HL7 : Hid (LSt w0 w2.heap.size 0 (.slice a1 l.length cap1) (.slice a2 rs.length cap2) l rs w7) := HL6.out.ext hb
        have HB7 : Hid (SBoxAt w7 w3.heap.size 0 (.slice a3 ls.length cap3) (.slice b3 os.length cb3)) := HB6.out.ext hb
        have HI7 : Hid (ISlice w7 (.slice b3 os.length cb3) os) := HI6.out.ext hb
        clear hb x0 x1 x2 y0 y1 y2 y3 HL6 HB6 HI6
        obtain ⟨x0, x1, x2⟩ := HL7.out.1
        obtain ⟨y0, y1, y2, y3⟩ := HB7.out
        rw [decide_eq_true (show en ≤ n + 10 by have := HEn.out; omega)]
        go_wp2_with fail
        refine (lwHas_any _ os i _ HI7.out HN.out).mono ?_
        rintro e w8 ⟨rfl, hw⟩
        have hb : Ext w7 w8 := by rw [hw]; exact Ext.refl _
        clear hw
        have HL8 : Hid (LSt w0 w2.heap.size 0 (.slice a1 l.length cap1) (.slice a2 rs.length cap2) l rs w8) := HL7.out.ext hb
        have HB8 : Hid (SBoxAt w8 w3.heap.size 0 (.slice a3 ls.length cap3) (.slice b3 os.length cb3)) := HB7.out.ext hb
        have HI8 : Hid (ISlice w8 (.slice b3 os.length cb3) os) := HI7.out.ext hb
        clear x0 x1 x2 y0 y1 y2 y3 HL7 HB7 HI7
        clear hb
        obtain ⟨x0, x1, x2⟩ := HL8.out.1
        obtain ⟨y0, y1, y2, y3⟩ := HB8.out
        go_wp2_with fail
        refine (HTk.out _ HL8.out.2.2.1).mono ?_
        rintro e w9 ⟨v9, g9, rfl, -, hO, hb⟩
        have HE : Hid (Ext w0 w9) := HL8.out.2.2.2.trans hb
        obtain ⟨a9, cap9, rfl, -⟩ := hO
        clear hb
        unfold er
        go_wp2
        go_ret
        exact ⟨rfl, HE.out⟩
      · have hd2 : decide ((9000 : Int) ≤ en) = false := by simpa using hq2
        obtain ⟨x0, x1, x2⟩ := HL3.out.1
        go_wp2_with fail
        refine (HF.out _ (HL3.out.ext ((Ext.refl _).alloc _)).2.2.1).mono ?_
        rintro e w4 ⟨rfl, hb⟩
        clear hen
        have HL4 : Hid (LSt w0 w2.heap.size 0 (.slice a1 l.length cap1) (.slice a2 rs.length cap2) l rs w4) := (HL3.out.ext ((Ext.refl _).alloc _)).ext hb
        have HB4 : Hid (SBoxAt w4 w3.heap.size 0 (.slice a3 ls.length cap3) (.slice b3 os.length cb3)) := (sboxAt_new _ _ _ _ _).ext hb
        have HI4 : Hid (ISlice w4 (.slice b3 os.length cb3) os) := (HI3.out.ext ((Ext.refl _).alloc _)).ext hb
        clear hb x0 x1 x2
        obtain ⟨x0, x1, x2⟩ := HL4.out.1
        obtain ⟨y0, y1, y2, y3⟩ := HB4.out
        go_wp2_with fail
        refine (HLr.out n _ hn HL4.out.2.2.1).mono ?_
        rintro e w5 ⟨rfl, hb⟩
        have HL5 : Hid (LSt w0 w2.heap.size 0 (.slice a1 l.length cap1) (.slice a2 rs.length cap2) l rs w5) := HL4.out.ext hb
        have HB5 : Hid (SBoxAt w5 w3.heap.size 0 (.slice a3 ls.length cap3) (.slice b3 os.length cb3)) := HB4.out.ext hb
        have HI5 : Hid (ISlice w5 (.slice b3 os.length cb3) os) := HI4.out.ext hb
        clear hb x0 x1 x2 y0 y1 y2 y3 HL4 HB4 HI4
        obtain ⟨x0, x1, x2⟩ := HL5.out.1
        obtain ⟨y0, y1, y2, y3⟩ := HB5.out
        rw [decide_eq_true (show n ≤ n + 10 by omega)]
        go_wp2_with fail
        refine (HLl.out _ HL5.out.2.1).mono ?_
        rintro e w6 ⟨rfl, hb⟩
        have HL6 : Hid (LSt w0 w2.heap.size 0 (.slice a1 l.length cap1) (.slice a2 rs.length cap2) l rs w6) := HL5.out.ext hb
        have HB6 : Hid (SBoxAt w6 w3.heap.size 0 (.slice a3 ls.length cap3) (.slice b3 os.length cb3)) := HB5.out.ext hb
        have HI6 : Hid (ISlice w6 (.slice b3 os.length cb3) os) := HI5.out.ext hb
        clear hb x0 x1 x2 y0 y1 y2 y3 HL5 HB5 HI5
        obtain ⟨x0, x1, x2⟩ := HL6.out.1
        obtain ⟨y0, y1, y2, y3⟩ := HB6.out
        dsimp only
        iterate 3 (first | go_values | go_skip | go_guarded | go_step | go_upon | go_back)
        dsimp only [List.append]
        go_wp2_with fail
        refine (HLr.out en _ (by omega) HL6.out.2.2.1).mono ?_
        rintro e w7 ⟨rfl, hb⟩
        have HL7 : Hid (LSt w0 w2.heap.size 0 (.slice a1 l.length cap1) (.slice a2 rs.length cap2) l rs w7) := HL6.out.ext hb
        have HB7 : Hid (SBoxAt w7 w3.heap.size 0 (.slice a3 ls.length cap3) (.slice b3 os.length cb3)) := HB6.out.ext hb
        have HI7 : Hid (ISlice w7 (.slice b3 os.length cb3) os) := HI6.out.ext hb
        clear hb x0 x1 x2 y0 y1 y2 y3 HL6 HB6 HI6
        obtain ⟨x0, x1, x2⟩ := HL7.out.1
        obtain ⟨y0, y1, y2, y3⟩ := HB7.out
        rw [decide_eq_true (show en ≤ n + 10 by have := HEn.out; omega)]
        go_wp2_with fail
        refine (HLr.out (en + 1) _ (by omega) HL7.out.2.2.1).mono ?_
        rintro e w8 ⟨rfl, hb⟩
        have HL8 : Hid (LSt w0 w2.heap.size 0 (.slice a1 l.length cap1) (.slice a2 rs.length cap2) l rs w8) := HL7.out.ext hb
        have HB8 : Hid (SBoxAt w8 w3.heap.size 0 (.slice a3 ls.length cap3) (.slice b3 os.length cb3)) := HB7.out.ext hb
        have HI8 : Hid (ISlice w8 (.slice b3 os.length cb3) os) := HI7.out.ext hb
        clear hb x0 x1 x2 y0 y1 y2 y3 HL7 HB7 HI7
        obtain ⟨x0, x1, x2⟩ := HL8.out.1
        obtain ⟨y0, y1, y2, y3⟩ := HB8.out
        rw [decide_eq_false (show ¬ en + 1 ≤ n + 10 by have := HEn.out; omega)]
        go_wp2_with fail
        refine (lwHas_any _ os i _ HI8.out HN.out).mono ?_
        rintro e w9 ⟨rfl, hw⟩
        have hb : Ext w8 w9 := by rw [hw]; exact Ext.refl _
        clear hw
        have HL9 : Hid (LSt w0 w2.heap.size 0 (.slice a1 l.length cap1) (.slice a2 rs.length cap2) l rs w9) := HL8.out.ext hb
        have HB9 : Hid (SBoxAt w9 w3.heap.size 0 (.slice a3 ls.length cap3) (.slice b3 os.length cb3)) := HB8.out.ext hb
        have HI9 : Hid (ISlice w9 (.slice b3 os.length cb3) os) := HI8.out.ext hb
        clear x0 x1 x2 y0 y1 y2 y3 HL8 HB8 HI8
        clear hb
        obtain ⟨x0, x1, x2⟩ := HL9.out.1
        obtain ⟨y0, y1, y2, y3⟩ := HB9.out
        go_wp2_with fail
        refine (HTk.out _ HL9.out.2.2.1).mono ?_
        rintro e w10 ⟨v9, g9, rfl, -, hO, hb⟩
        have HE : Hid (Ext w0 w10) := HL9.out.2.2.2.trans hb
        obtain ⟨a9, cap9, rfl, -⟩ := hO
        clear hb
        unfold er
        go_wp2
        go_ret
        exact ⟨rfl, HE.out⟩
  · have e0 : (c != 0) = true := by simp [hc0]
    have ecc : (c == c) = true := by simp
    obtain ⟨rt, hrt⟩ : ∃ r, Ses.touchV l i n = r := ⟨_, rfl⟩
    have HTi : Hid (∀ wx, ESlice wx (.slice a1 l.length cap1) l → Calls Try.prog 12 #[.slice a1 l.length cap1, .int .i64 i, .int .i64 n] wx (ERet wx rt.1 rt.2)) := fun wx h => by rw [← hrt]; exact implTouchSession_any _ l i n wx h
    have HTs : Hid (∀ wx, ESlice wx (.slice a1 l.length cap1) l → Calls Try.prog 14 #[.slice a1 l.length cap1, .int .i64 i, .int .i64 n] wx (ERet wx rt.1 rt.2)) := fun wx h => by rw [← hrt]; exact specTouchSession_any _ l i n wx HV.out h
    have HLv : Hid (∀ wx, ESlice wx (.slice a1 l.length cap1) l → Calls Try.prog 15 #[.slice a1 l.length cap1, .int .i64 i, .int .i64 n] wx fun e w' => e = .returned (.bool (rt.1 == 0)) ∧ Ext wx w') := fun wx h => by rw [← hrt, touch_live]; exact implLiveSession_any _ l i n wx h
    clear hrt
    obtain ⟨tc, ts⟩ := rt
    have hf6 : ∀ (c : Int) (u : Value) (w : World), (Instr.field 28 (.agg #[.int .i64 c, u]) 0).run Try.prog w = .ok (.int .i64 c) w := fun _ _ _ => by kernel_rfl
    go_wp2_with fail
    refine (HTi.out _ (HL2.out _).2.1).mono ?_
    rintro e w3 ⟨tv, tg, rfl, -, hO, hb⟩
    obtain ⟨a3, cap3, rfl, -⟩ := id hO
    have HL3 : Hid (LSt w0 w2.heap.size c (.slice a1 l.length cap1) (.slice a2 rs.length cap2) l rs w3) := (HL2.out _).ext hb
    clear hO hb HL2
    unfold er
    obtain ⟨x0, x1, x2⟩ := HL3.out.1
    have ett : (tc == tc) = true := by simp
    have ez : ((tc == 0) == (tc == 0)) = true := by simp
    have HX4 : Hid (LSt w0 w2.heap.size c (.slice a1 l.length cap1) (.slice a2 rs.length cap2) l rs (w3.alloc (.cells #[.int .i64 tc, .slice a3 ts.length cap3] 28)) ∧ EBoxAt (w3.alloc (.cells #[.int .i64 tc, .slice a3 ts.length cap3] 28)) w3.heap.size tc (.slice a3 ts.length cap3)) := ⟨HL3.out.ext ((Ext.refl _).alloc _), eboxAt_new _ _ _ _⟩
    go_wp2
    clear x0 x1 x2 HL3
    generalize (w3.alloc (.cells #[.int .i64 tc, .slice a3 ts.length cap3] 28)) = w4 at *
    generalize w3.heap.size = bt at *
    generalize w2.heap.size = br at *
    have f4 : w4.cell? ⟨br, 0, none⟩ = some (.int .i64 c) := HX4.out.1.1.2.1
    have g4 : w4.cell? ⟨bt, 0, none⟩ = some (.int .i64 tc) := HX4.out.2.2.1
    go_region_held3 (fun W => W.cell? ⟨br, 0, none⟩ = some (.int .i64 c) ∧ W.cell? ⟨bt, 0, none⟩ = some (.int .i64 tc)) (first | exact ⟨f4, g4⟩ | exact ⟨f5, g5⟩ | exact ⟨f6, g6⟩ | exact ⟨f7, g7⟩ | go_keep) (first | (go_at_call 13; refine (HSp.out _ (HX4.out.1.ext (by first | exact (Ext.refl _).drew | exact Ext.refl _)).2.1).mono ?_; rintro e w5 ⟨v5, r5, rfl, -, hO5, hb5⟩; obtain ⟨a5, cap5, rfl, -⟩ := hO5; have HX5 : Hid (LSt w0 br c (.slice a1 l.length cap1) (.slice a2 rs.length cap2) l rs w5 ∧ EBoxAt w5 bt tc (.slice a3 ts.length cap3)) := (by have he : Ext w4 w5 := (by first | exact ((Ext.refl _).drew).trans hb5 | exact hb5); exact ⟨HX4.out.1.ext he, HX4.out.2.ext he⟩); have f5 : w5.cell? ⟨br, 0, none⟩ = some (.int .i64 c) := HX5.out.1.1.2.1; have g5 : w5.cell? ⟨bt, 0, none⟩ = some (.int .i64 tc) := HX5.out.2.2.1; clear hb5; unfold er) | (go_at_call 14; refine (HTs.out _ HX5.out.1.2.1).mono ?_; rintro e w6 ⟨v6, r6, rfl, -, hO6, hb6⟩; obtain ⟨a6, cap6, rfl, -⟩ := hO6; have HX6 : Hid (LSt w0 br c (.slice a1 l.length cap1) (.slice a2 rs.length cap2) l rs w6 ∧ EBoxAt w6 bt tc (.slice a3 ts.length cap3)) := ⟨HX5.out.1.ext hb6, HX5.out.2.ext hb6⟩; have f6 : w6.cell? ⟨br, 0, none⟩ = some (.int .i64 c) := HX6.out.1.1.2.1; have g6 : w6.cell? ⟨bt, 0, none⟩ = some (.int .i64 tc) := HX6.out.2.2.1; clear hb6; unfold er) | (go_at_call 15; refine (HLv.out _ HX6.out.1.2.1).mono ?_; rintro e w7 ⟨rfl, hb7⟩; have HX7 : Hid (LSt w0 br c (.slice a1 l.length cap1) (.slice a2 rs.length cap2) l rs w7 ∧ EBoxAt w7 bt tc (.slice a3 ts.length cap3)) := ⟨HX6.out.1.ext hb7, HX6.out.2.ext hb7⟩; have f7 : w7.cell? ⟨br, 0, none⟩ = some (.int .i64 c) := HX7.out.1.1.2.1; have g7 : w7.cell? ⟨bt, 0, none⟩ = some (.int .i64 tc) := HX7.out.2.2.1; clear hb7))
    all_goals
      go_wp2
      go_ret
      exact ⟨ret_bool (by simp), HX7.out.1.2.2.2⟩
theorem lawSessions_all (v : Value) (w : World) (h : ∃ ad len cap, v = .slice ad len cap ∧ (len ≤ 1048576 → CodeOk w w.heap.size v)) :
    Calls Try.prog 3 #[v] w fun e w' => e = .returned (.bool true) ∧ Ext w w' := by
  obtain ⟨ad, len, cap, rfl, hc⟩ := h
  by_cases hl : 1048576 < len
  · exact lawSessions_big ad len cap w hl
  · exact lawSessions _ w (hc (by omega))
end Go.Proofs.Ytjlmkjcahnnjpaa
