/- QS2, QS3, in one text. -/
import Derived.Test.YtecgjdgfjgcmdaaGreatRtQS1
import Derived.Test.YtecgjdgfjgcmdaaGreatRtQS2a
import Derived.Maps.OwnSet
import Derived.Maps.OwnOps
import Derived.Deep.Onto
namespace Go.Proofs.YtecgjdgfjgcmdaaGreat
open Go.RowKit Go.Maps
namespace Nst
theorem law64 : Keyed Tryz.prog 2 := int_keyed Tryz.underlying2
/-- Block b holds a set of the numbers l. -/
def SMap (w : World) (b n : Nat) (l : List Int) : Prop := w.ownsMap Tryz.prog 2 (unitElem (H := Unit)) b n (map l)
theorem SMap.lt {w : World} {b n : Nat} {l : List Int} (h : SMap w b n l) : b < w.heap.size := World.ownsMap.lt h
theorem SMap.ext {w w' : World} {b n : Nat} {l : List Int} (h : SMap w b n l) (he : Ext w w') : SMap w' b n l := by
 have hlt := h.lt
 obtain ⟨es, clock, hb, F, hs, hD⟩ := h
 exact ⟨es, clock, (Below.block he b hlt).trans hb, F, hs, hD⟩
theorem SMap.made (w : World) : SMap (w.alloc (.map #[] 0)) w.heap.size 0 [] := World.ownsMap_made _ _ _ _
theorem SMap.set {w : World} {b n : Nat} {l : List Int} (h : SMap w b n l) (g o : Nat) (hg : b ≠ g) (v : Value) : SMap (w.setCell ⟨g, o, none⟩ v) b n l := World.ownsMap.setCell h hg v
theorem wf64 {n : Int} (h : -100000 ≤ n ∧ n ≤ 100000) : (Lit.int .i64 n).wf = true := WalkArith.wf_i64 (by omega)
theorem key64 {n : Int} (h : -100000 ≤ n ∧ n ≤ 100000) : keyOf Tryz.prog 2 (.int .i64 n) = some (.int .i64 n) := keyOf_int_mk Tryz.underlying2 (wf64 h)
theorem make_set (w : World) : (Instr.makeMap 167 none).run Tryz.prog w = .ok (.map (some w.heap.size)) (w.alloc (.map #[] 0)) := by
 simp [Instr.makeMap, go_sem]
theorem cell_block {w w' : World} {c : Nat} (h : w'.heap[c]? = w.heap[c]?) (o : Nat) : w'.cell? ⟨c, o, none⟩ = w.cell? ⟨c, o, none⟩ ∧ w'.frozen? ⟨c, o, none⟩ = w.frozen? ⟨c, o, none⟩ := by
 unfold World.cell? World.frozen?
 simp only [h, and_self]
theorem upd_grown {b : Nat} {w w1 w' : World} (h : Upd b w w1) (hg : w1.grownBy w' (some b)) (hb : b ≤ w1.heap.size) : Upd b w w' := by
 refine ⟨Below.grown h.1 hg hb (fun k hk => by cases hk; exact Nat.le_refl _), Nat.le_trans h.2.1 hg.size, fun c o hc hl => ?_⟩
 have h1 := cell_block (hg.block c (Nat.lt_of_lt_of_le hl h.2.1) (fun e => by cases e; omega)) o
 exact ⟨h1.1.trans (h.2.2 c o hc hl).1, h1.2.trans (h.2.2 c o hc hl).2⟩

set_option maxHeartbeats 1000000 in
set_option maxRecDepth 100000 in
theorem add_any (b n : Nat) (l : List Int) (x : Int) (w : World) (hM : SMap w b n l) (hr : Ris l) (hx : -100000 ≤ x ∧ x ≤ 100000) (hn : n ≤ 1000) :
  Calls Tryz.prog 177 #[.map (some b), .int .i64 x] w fun e w' => e = .returned (.tuple #[]) ∧ SMap w' b (n + 1) (put x l) ∧ Upd b w w' := by
 have hkey := key64 hx
 have hlt := hM.lt
 have hput : (map l).put (.int .i64 x) (.agg []) = map (put x l) := map_put x l hr
 have HM : Hid (SMap w b n l) := hM
 clear hM hr
 go_enter Tryz.func177, Tryz.ntmps177
 go_wp2_with (at_mapUpdate; refine wpList_mapUpdate_own _ rfl _ _ _ 167 rfl 2 178 law64 Tryz.underlying167 _ b n _ rfl HM.out (by unfold maxLen; omega) _ _ _ rfl rfl hkey _ [] unitElem_mk ?_; intro w1 hown1 hgrow1)
 go_end0
 rw [hput] at hown1
 exact ⟨rfl, hown1, upd_grown (Upd.refl _ _) hgrow1 (Nat.le_of_lt hlt)⟩

/-- maps.Keys of a set. -/
theorem keys_any (b : Nat) (w : World) : Calls Tryz.prog 189 #[.map (some b)] w fun e w' => e = .returned (.func (.func 192) #[] #[.pointer (some ⟨w.heap.size, 0, none⟩)]) ∧ w' = w.alloc (.cells #[.map (some b)] 167) :=
 (callsIn_wide (n := 5)).1 (AnyZI.keys_in keysS Fence.wide 5 trivial rfl (some b) w)

/-- slices.Sorted of what maps.Keys gives: the numbers, rising. -/
theorem sorted_any (b n Bm : Nat) (l : List Int) (w : World) (hM : SMap w b n l) (hr : Ris l) (hl : l.length ≤ 1000) (hm : w.cell? ⟨Bm, 0, none⟩ = some (.map (some b))) :
  Calls Tryz.prog 188 #[.func (.func 192) #[] #[.pointer (some ⟨Bm, 0, none⟩)]] w fun e w' => ∃ v, e = .returned v ∧ w'.ownsRow w.heap.size 2 1 v l.length (l.map (Value.int .i64)) ∧ Ext w w' := by
 have hBm : Bm < w.heap.size := World.block_lt_of_cell? w _ hm
 have hseq : SeqGives Fence.wide 2 Tryz.prog 192 #[.pointer (some ⟨Bm, 0, none⟩)] encZ (fun ss => ss.Perm (intKeys (map l))) (Maps.size (map l)) w :=
  AnyZI.keys_gives (ρ := keysS_ren) { keysS with } Fence.wide _ trivial rfl (by omega) Bm b n _ _ hBm hm hM
 have cS := AnyZI.sorted_in sortedS Fence.wide 5 trivial trivial trivial trivial rfl (by omega) (sortsS _) (enters_of Tryz.func191 (by kernel_rfl) rfl) 192 #[.pointer (some ⟨Bm, 0, none⟩)] trivial (enters_of Tryz.func192 (by kernel_rfl) rfl) _ _ (by rw [map_size]; unfold maxLen; omega) (by rw [map_size]; omega) _ hseq
 refine ((callsIn_wide (n := 5)).1 cS).mono ?_
 rintro e w' ⟨v, ss, rfl, hS, hrow, -, hb⟩
 have hlen : ss.length = l.length := by have := hS.length_eq; rw [map_keys] at this; exact this
 rw [sorted_keys hS hr, hlen] at hrow
 exact ⟨v, rfl, hrow, hb⟩

set_option maxHeartbeats 1000000 in
set_option maxRecDepth 100000 in
theorem rising_any (b n : Nat) (l : List Int) (w : World) (hM : SMap w b n l) (hr : Ris l) (hl : l.length ≤ 1000) :
  Calls Tryz.prog 186 #[.map (some b)] w fun e w' => ∃ v g, e = .returned v ∧ w.heap.size ≤ g ∧ Led.IOwn w' v g l ∧ Ext w w' := by
 have HM : Hid (SMap w b n l) := hM
 have HR : Hid (Ris l) := hr
 have HK : Hid (Calls Tryz.prog 189 #[.map (some b)] w fun e w' => e = .returned (.func (.func 192) #[] #[.pointer (some ⟨w.heap.size, 0, none⟩)]) ∧ w' = w.alloc (.cells #[.map (some b)] 167)) := keys_any b w
 clear hM hr
 go_enter Tryz.func186, Tryz.ntmps186
 go_wp2_with fail
 refine HK.out.mono ?_
 rintro e w1 ⟨rfl, rfl⟩
 go_wp2_with fail
 refine (sorted_any b n _ l _ (HM.out.ext ((Ext.refl _).alloc _)) HR.out hl (by simp)).mono ?_
 rintro e w2 ⟨v, rfl, hrow, hb⟩
 have HE2 : Hid (Ext w w2) := ((Ext.refl _).alloc _).trans hb
 obtain ⟨g, hg1, hg2, hT⟩ := Led.iown_of_owns hrow
 obtain ⟨a8, c8, rfl, -⟩ := id hT
 have HT : Hid (w.heap.size ≤ g ∧ Led.IOwn w2 (.slice a8 l.length c8) g l) := ⟨by simp at hg1; omega, hT⟩
 clear hrow hb HK HM hT hg1 hg2
 go_wp2
 go_ret
 exact ⟨_, g, rfl, HT.out.1, HT.out.2, HE2.out⟩
end Nst
end Go.Proofs.YtecgjdgfjgcmdaaGreat
namespace Go.Proofs.YtecgjdgfjgcmdaaGreat
open Go.RowKit Go.Maps
theorem MBoxAt.set2 {w : World} {b : Nat} {m : Ms} {v u : Value} {x : Int} (h : MBoxAt w b m v u) : MBoxAt (w.setCell ⟨b, 2, none⟩ (.int .i64 x)) b (Msg.as_ m x) v u := by
 obtain ⟨hb, ⟨c0, c1, c2, c3, c4, c5, c6⟩, f0, f1, f2, f3, f4, f5, f6⟩ := h
 refine ⟨by simpa using hb, ⟨?_, ?_, iset_eq _ _ _ _ ⟨_, c2⟩, ?_, ?_, ?_, ?_⟩, by simpa using f0, by simpa using f1, by simpa using f2, by simpa using f3, by simpa using f4, by simpa using f5, by simpa using f6⟩ <;> rw [iset_ne _ _ _ _ _ _ (by omega)] <;> assumption
theorem MBoxAt.upd {w w' : World} {b g : Nat} {m : Ms} {v u : Value} (h : MBoxAt w b m v u) (hu : Upd g w w') (hne : b ≠ g) : MBoxAt w' b m v u := by
 obtain ⟨hb, ⟨c0, c1, c2, c3, c4, c5, c6⟩, f0, f1, f2, f3, f4, f5, f6⟩ := h
 have hc := fun k => (hu.at_ne b k hne hb).1
 have hf := fun k => (hu.at_ne b k hne hb).2
 exact ⟨Nat.lt_of_lt_of_le hb hu.2.1, ⟨(hc _).trans c0, (hc _).trans c1, (hc _).trans c2, (hc _).trans c3, (hc _).trans c4, (hc _).trans c5, (hc _).trans c6⟩, (hf _).trans f0, (hf _).trans f1, (hf _).trans f2, (hf _).trans f3, (hf _).trans f4, (hf _).trans f5, (hf _).trans f6⟩
theorem Msg.lists_as {w : World} {v u : Value} {m : Ms} (h : MLs w v u m) (x : Int) : MLs w v u (Msg.as_ m x) := h

set_option maxHeartbeats 1000000 in
theorem quorumOf_any (f : Int) (w : World) (h0 : 1 ≤ f) (h1 : f ≤ 2) : Calls Tryz.prog 90 #[.int .i64 f] w fun e w' => e = .returned (.int .i64 (2 * f + 1)) ∧ w' = w := by
 have e1 : IntKind.i64.wrap (2 * f) = 2 * f := by rw [IntKind.wrap_i64]; omega
 have e2 : IntKind.i64.wrap (2 * f + 1) = 2 * f + 1 := by rw [IntKind.wrap_i64]; omega
 go_enter Tryz.func90, Tryz.ntmps90
 go_wp2
 go_ret
 exact ⟨rfl, rfl⟩

set_option maxHeartbeats 8000000 in
set_option maxRecDepth 100000 in
theorem votersFor_any (v : Value) (ms : List Ms) (m : Ms) (vc uc : Value) (w : World) (hS : MSlice w v ms) (hL : MLs w vc uc m) (hlen : ms.length ≤ 240) (hin : ∀ z ∈ ms, 1 ≤ z.from_ ∧ z.from_ ≤ 7) :
  Calls Tryz.prog 165 #[v, magg m vc uc] w fun e w' => ∃ b n, e = .returned (.map (some b)) ∧ w.heap.size ≤ b ∧ Nst.SMap w' b n (Msg.voters ms m ms.length) ∧ Ext w w' := by
 obtain ⟨a, cap, rfl, hlc, hcm, hx⟩ := hS
 have HX : Hid (0 < ms.length → ∃ b off, a = some ⟨b, off, none⟩ ∧ b < w.heap.size ∧ MsAt w b off ms) := hx
 have HIn : Hid (∀ z ∈ ms, 1 ≤ z.from_ ∧ z.from_ ≤ 7) := hin
 have HL : Hid (MLs w vc uc m) := hL
 obtain ⟨a1, k1, a2, k2, rfl, rfl, -, -, -, -⟩ := hL.form
 clear hx hin hL
 unfold maxLen at hcm
 have hmk := Nst.make_set
 unfold magg
 have HB0 : Hid (MBoxAt ((w.alloc (.cells #[.int .i64 m.kind, .int .i64 m.view, .int .i64 m.from_, .int .i64 m.slot, .int .i64 m.value, .slice a1 m.certs.length k1, .slice a2 m.refs.length k2] 40)).alloc (.map #[] 0)) w.heap.size (Msg.as_ m m.from_) (.slice a1 m.certs.length k1) (.slice a2 m.refs.length k2)) := (mbox_new w m (.slice a1 m.certs.length k1) (.slice a2 m.refs.length k2) _).ext ((Ext.refl _).alloc _)
 have HS0 : Hid (Nst.SMap ((w.alloc (.cells #[.int .i64 m.kind, .int .i64 m.view, .int .i64 m.from_, .int .i64 m.slot, .int .i64 m.value, .slice a1 m.certs.length k1, .slice a2 m.refs.length k2] 40)).alloc (.map #[] 0)) (w.heap.size + 1) 0 []) := by
  have h := Nst.SMap.made (w.alloc (.cells #[.int .i64 m.kind, .int .i64 m.view, .int .i64 m.from_, .int .i64 m.slot, .int .i64 m.value, .slice a1 m.certs.length k1, .slice a2 m.refs.length k2] 40))
  simp only [World.size_alloc] at h
  exact h
 go_enter Tryz.func165, Tryz.ntmps165
 go_wp2
 go_loopw [11] (fun i wr => ∃ (k n : Nat) (x : Int), k ≤ ms.length ∧ i = .int .i64 k ∧ n ≤ k ∧ Hid (MBoxAt wr w.heap.size (Msg.as_ m x) (.slice a1 m.certs.length k1) (.slice a2 m.refs.length k2)) ∧ Hid (Nst.SMap wr (w.heap.size + 1) n (Msg.voters ms m k)) ∧ Hid (Ext w wr)) (fun i _ => ms.length - (intOf i).toNat)
 case atStart => exact ⟨0, 0, m.from_, Nat.zero_le _, rfl, Nat.le_refl _, HB0, HS0, ((Ext.refl _).alloc _).alloc _⟩
 case round =>
  obtain ⟨k, n, x, hk, rfl, hn, HB, HM, HE⟩ := hrel
  by_cases hlt : k < ms.length
  ·obtain ⟨z, hzk⟩ : ∃ z, ms[k]? = some z := ⟨_, List.getElem?_eq_getElem hlt⟩
   obtain ⟨b, off, rfl, hb, hN⟩ := HX.out (by omega)
   have hzin := HIn.out z (List.mem_of_getElem? hzk)
   obtain ⟨vz, uz, ⟨-, -, d2, -, -, -, -⟩, -⟩ := hN.ext hb HE.out k z hzk
   have HE1 : Hid (Ext w (wr.setCell ⟨w.heap.size, 2, none⟩ (.int .i64 z.from_))) := HE.out.setCell (p := ⟨w.heap.size, 2, none⟩) (Nat.le_refl _) _
   have HB1 : Hid (MBoxAt (wr.setCell ⟨w.heap.size, 2, none⟩ (.int .i64 z.from_)) w.heap.size (Msg.as_ m z.from_) (.slice a1 m.certs.length k1) (.slice a2 m.refs.length k2)) := HB.out.set2
   have HM1 : Hid (Nst.SMap (wr.setCell ⟨w.heap.size, 2, none⟩ (.int .i64 z.from_)) (w.heap.size + 1) n (Msg.voters ms m k)) := HM.out.set _ _ (by omega) _
   obtain ⟨vy, uy, hCy, hLy⟩ := hN.ext hb HE1.out k z hzk
   have e2 : (wr.setCell ⟨w.heap.size, 2, none⟩ (.int .i64 z.from_)).cell? ⟨b, off + k * 7 + 2, none⟩ = some (.int .i64 z.from_) := hCy.2.2.1
   have HQ : Hid (Calls Tryz.prog 162 #[.pointer (some ⟨b, off + k * 7, none⟩), .pointer (some ⟨w.heap.size, 0, none⟩)] (wr.setCell ⟨w.heap.size, 2, none⟩ (.int .i64 z.from_)) fun e w' => e = .returned (.bool (Msg.sameM z (Msg.as_ m z.from_))) ∧ Ext (wr.setCell ⟨w.heap.size, 2, none⟩ (.int .i64 z.from_)) w') :=
    isSameMsg_any z (Msg.as_ m z.from_) vy uy _ _ b (off + k * 7) w.heap.size 0 _ (Nat.lt_of_lt_of_le hb HE1.out.size) HB1.out.1 hCy HB1.out.cs hLy (Msg.lists_as (HL.out.ext HE1.out) _)
   have HZ : Hid (ms[k]? = some z) := hzk
   obtain ⟨-, ⟨-, -, g2, -, -, -, -⟩, -, -, f2, -⟩ := HB.out
   have hbl : b < w.heap.size := hb
   clear hzk hN hCy hLy HB HM HE
   go_wp2_with fail
   refine HQ.out.mono ?_
   rintro e w2 ⟨rfl, hb2⟩
   have HE2 : Hid (Ext w w2) := HE1.out.trans hb2
   have HB2 : Hid (MBoxAt w2 w.heap.size (Msg.as_ m z.from_) (.slice a1 m.certs.length k1) (.slice a2 m.refs.length k2)) := HB1.out.ext hb2
   have HM2 : Hid (Nst.SMap w2 (w.heap.size + 1) n (Msg.voters ms m k)) := HM1.out.ext hb2
   have d3 := ((Ext.cell hb2).1 b (off + k * 7 + 2) (Nat.lt_of_lt_of_le hbl HE1.out.size)).trans e2
   clear hb2 e2 d2 g2 f2 HE1 HB1 HM1 HQ
   by_cases hq : z = Msg.as_ m z.from_
   ·have hqb : Msg.sameM z (Msg.as_ m z.from_) = true := by unfold Msg.sameM; exact decide_eq_true hq
    have HK2 : Hid (Msg.voters ms m (k + 1) = Nst.put z.from_ (Msg.voters ms m k)) := Msg.voters_yes HZ.out hq
    rw [hqb]
    clear hqb hq
    have HA : Hid (Calls Tryz.prog 177 #[.map (some (w.heap.size + 1)), .int .i64 z.from_] w2 fun e w' => e = .returned (.tuple #[]) ∧ Nst.SMap w' (w.heap.size + 1) (n + 1) (Nst.put z.from_ (Msg.voters ms m k)) ∧ Upd (w.heap.size + 1) w2 w') := Nst.add_any _ _ _ _ _ HM2.out (Msg.voters_ris _ _ _) (by omega) (by omega)
    go_wp2_with fail
    refine HA.out.mono ?_
    rintro e w3 ⟨rfl, hM3, hu3⟩
    have HE3 : Hid (Ext w w3) := hu3.to_ext HE2.out (by omega)
    have HB3 : Hid (MBoxAt w3 w.heap.size (Msg.as_ m z.from_) (.slice a1 m.certs.length k1) (.slice a2 m.refs.length k2)) := HB2.out.upd hu3 (by omega)
    have HM3 : Hid (Nst.SMap w3 (w.heap.size + 1) (n + 1) (Msg.voters ms m (k + 1))) := by rw [HK2.out]; exact hM3
    clear hM3 hu3
    go_wp2
    exact ⟨⟨k + 1, n + 1, z.from_, by omega, by go_num, by omega, HB3, HM3, HE3⟩, by simp [intOf]; omega⟩
   ·have hqb : Msg.sameM z (Msg.as_ m z.from_) = false := by unfold Msg.sameM; exact decide_eq_false hq
    have HK2 : Hid (Msg.voters ms m (k + 1) = Msg.voters ms m k) := Msg.voters_no HZ.out hq
    rw [hqb]
    clear hqb hq
    have HM3 : Hid (Nst.SMap w2 (w.heap.size + 1) n (Msg.voters ms m (k + 1))) := by rw [HK2.out]; exact HM2.out
    go_wp2
    exact ⟨⟨k + 1, n, z.from_, by omega, by go_num, by omega, HB2, HM3, HE2⟩, by simp [intOf]; omega⟩
  ·have hke : k = ms.length := by omega
   subst hke
   go_wp2
   go_ret
   exact ⟨_, n, rfl, by omega, HM.out, HE.out⟩

set_option maxHeartbeats 2000000 in
set_option maxRecDepth 100000 in
theorem hasQuorum_any (f : Int) (v : Value) (ms : List Ms) (m : Ms) (vc uc : Value) (w : World) (hS : MSlice w v ms) (hL : MLs w vc uc m) (hled : Msg.ledger f ms = 0) (h1 : m.certs = []) (h2 : m.refs = []) :
  Calls Tryz.prog 132 #[.int .i64 f, v, magg m vc uc] w fun e w' => e = .returned (.bool (Msg.enough f ms m.kind ⟨m.slot, m.view, m.value⟩)) ∧ Ext w w' := by
 obtain ⟨hf0, hf1, hlen⟩ := Msg.ledger_zero hled
 have HV : Hid (∀ wx, Ext w wx → Calls Tryz.prog 165 #[v, magg m vc uc] wx fun e w' => ∃ b n, e = .returned (.map (some b)) ∧ wx.heap.size ≤ b ∧ Nst.SMap w' b n (Msg.votes f ms m.kind ⟨m.slot, m.view, m.value⟩) ∧ Ext wx w') := fun wx he => by
  rw [← Msg.voters_votes hled h1 h2]
  exact votersFor_any v ms m vc uc wx (hS.ext he) (hL.ext he) hlen (fun z hz => by have := Msg.from_in (Msg.ledger_all hled z hz); omega)
 have HQ : Hid (∀ wx, Calls Tryz.prog 90 #[.int .i64 f] wx fun e w' => e = .returned (.int .i64 (2 * f + 1)) ∧ w' = wx) := fun wx => quorumOf_any f wx hf0 hf1
 obtain ⟨a, cap, rfl, -, -, -⟩ := hS
 obtain ⟨a1, k1, a2, k2, rfl, rfl, -, -, -, -⟩ := hL.form
 unfold Msg.enough
 have hvl := @Msg.votes_len f ms m.kind ⟨m.slot, m.view, m.value⟩ hf0 hf1
 generalize Msg.votes f ms m.kind ⟨m.slot, m.view, m.value⟩ = l at *
 have hsz : Maps.size (Nst.map l) = l.length := Nst.map_size l
 clear hled h1 h2 hL
 unfold magg at *
 by_cases hq : 2 * f + 1 ≤ (l.length : Int)
 all_goals
  go_enter Tryz.func132, Tryz.ntmps132
  go_wp2_with fail
  refine (HV.out _ ((Ext.refl _).alloc _)).mono ?_
  rintro e w2 ⟨b, n, rfl, -, hM, hb⟩
  have HM : Hid (Nst.SMap w2 b n l) := hM
  have HE : Hid (Ext w w2) := ((Ext.refl _).alloc _).trans hb
  clear hb hM
  go_wp2_with (at_len; refine wpList_len_own _ rfl _ 167 rfl 2 178 Tryz.underlying167 _ b n _ rfl HM.out ?_; rw [hsz])
  refine (HQ.out _).mono ?_
  rintro e w9 ⟨rfl, hw⟩
  rw [hw]
  clear hw w9
  go_wp2
  go_ret
  exact ⟨ret_bool (by simp [hq]), HE.out⟩
end Go.Proofs.YtecgjdgfjgcmdaaGreat
