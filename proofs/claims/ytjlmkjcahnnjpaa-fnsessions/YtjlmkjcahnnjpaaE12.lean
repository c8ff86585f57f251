/- numbers in memory of their own; the program's SplitSessions. -/
import Derived.Test.YtjlmkjcahnnjpaaE10
namespace Go.Proofs.Ytjlmkjcahnnjpaa
open Go.RowKit Go.Maps

theorem IRoom.ext {w w' : World} {g off n : Nat} (h : IRoom w g off n) (he : Ext w w') : IRoom w' g off n := by
  obtain ⟨hc, hf⟩ := Ext.cell he
  exact ⟨Nat.lt_of_lt_of_le h.1 he.size, fun j hj => ⟨by rw [hc _ _ h.1]; exact (h.2 j hj).1, by rw [hf _ _ h.1]; exact (h.2 j hj).2⟩⟩
theorem IRoom.upd {w w' : World} {g off n b : Nat} (h : IRoom w g off n) (he : Upd b w w') (hne : g ≠ b) : IRoom w' g off n :=
  ⟨Nat.lt_of_lt_of_le h.1 he.2.1, fun j hj => ⟨by rw [(he.at_ne _ _ hne h.1).1]; exact (h.2 j hj).1, by rw [(he.at_ne _ _ hne h.1).2]; exact (h.2 j hj).2⟩⟩
theorem NumsAt.upd {w w' : World} {g off b : Nat} {ts : List Int} (h : NumsAt w g off ts) (he : Upd b w w') (hne : g ≠ b) (hg : g < w.heap.size) : NumsAt w' g off ts :=
  fun i t ht => (he.at_ne _ _ hne hg).1.trans (h i t ht)
def IOwn (w : World) (v : Value) (g : Nat) (ts : List Int) : Prop :=
  ∃ a cap, v = .slice a ts.length cap ∧ ts.length ≤ cap ∧ cap ≤ maxLen ∧ (0 < ts.length → ∃ off, a = some ⟨g, off, none⟩ ∧ IRoom w g off ts.length ∧ NumsAt w g off ts)
theorem IOwn.slice {w : World} {v : Value} {g : Nat} {ts : List Int} (h : IOwn w v g ts) : ISlice w v ts := by
  obtain ⟨a, cap, h1, h2, h3, h4⟩ := h
  refine ⟨a, cap, h1, h2, h3, fun h0 => ?_⟩
  obtain ⟨off, e, hr, hN⟩ := h4 h0
  exact ⟨g, off, e, hr.1, hN⟩
theorem IOwn.ext {w w' : World} {v : Value} {g : Nat} {ts : List Int} (h : IOwn w v g ts) (he : Ext w w') : IOwn w' v g ts := by
  obtain ⟨a, cap, h1, h2, h3, h4⟩ := h
  refine ⟨a, cap, h1, h2, h3, fun h0 => ?_⟩
  obtain ⟨off, e, hr, hN⟩ := h4 h0
  exact ⟨off, e, hr.ext he, hN.ext hr.1 he⟩
theorem IOwn.lt {w : World} {v : Value} {g : Nat} {ts : List Int} (h : IOwn w v g ts) (h0 : 0 < ts.length) : g < w.heap.size := by
  obtain ⟨a, cap, -, -, -, h4⟩ := h
  obtain ⟨off, -, hr, -⟩ := h4 h0
  exact hr.1
theorem IOwn.nil {w w' : World} {v : Value} {g g' : Nat} {ts : List Int} (h : IOwn w v g ts) (h0 : ¬ 0 < ts.length) : IOwn w' v g' ts := by
  obtain ⟨a, cap, h1, h2, h3, -⟩ := h
  exact ⟨a, cap, h1, h2, h3, fun h => absurd h h0⟩
theorem IOwn.upd' {w w' : World} {v : Value} {g b : Nat} {ts : List Int} (h : IOwn w v g ts) (he : Upd b w w') (hne : 0 < ts.length → g ≠ b) : IOwn w' v g ts := by
  by_cases h0 : 0 < ts.length
  · obtain ⟨a, cap, h1, h2, h3, h4⟩ := h
    refine ⟨a, cap, h1, h2, h3, fun _ => ?_⟩
    obtain ⟨off, e, hr, hN⟩ := h4 h0
    exact ⟨off, e, hr.upd he (hne h0), hN.upd he (hne h0) hr.1⟩
  · exact h.nil h0
theorem IOwn.pick {w : World} {v : Value} {g : Nat} {ts : List Int} (h : IOwn w v g ts) : ∃ g', g' ≤ w.heap.size ∧ IOwn w v g' ts ∧ (g' = w.heap.size ∧ ¬ 0 < ts.length ∨ (g' = g ∧ g < w.heap.size ∧ 0 < ts.length)) := by
  by_cases h0 : 0 < ts.length
  · exact ⟨g, Nat.le_of_lt (h.lt h0), h, Or.inr ⟨rfl, h.lt h0, h0⟩⟩
  · exact ⟨_, Nat.le_refl _, h.nil h0, Or.inl ⟨rfl, h0⟩⟩
theorem iown_of_owns {w : World} {base : Nat} {v : Value} {l : List Int} (h : w.ownsRow base 2 1 v l.length (l.map (Value.int .i64))) : ∃ g, base ≤ g ∧ (0 < l.length → g < w.heap.size) ∧ IOwn w v g l := by
  have hlt := h.lt
  rcases h.2 with ⟨hv, h0⟩ | ⟨g, cap, cur, hv, hb, hh, hn, hm, hcs, htk⟩
  · exact ⟨base, Nat.le_refl _, fun h => by omega, none, 0, by rw [hv, h0], by omega, by unfold maxLen; omega, fun h => by omega⟩
  · subst hv
    refine ⟨g, hb, fun _ => (hlt g rfl).2, some ⟨g, 0, none⟩, cap, rfl, hn, hm, fun h0 => ⟨0, rfl, ⟨(hlt g rfl).2, fun j hj => ⟨?_, h.frozenAt _⟩⟩, fun i x hx => ?_⟩⟩
    · rw [Nat.zero_add]
      exact ⟨.int .i64 (l[j]'hj), by rw [h.cellAt j (by omega), List.getElem?_map, List.getElem?_eq_getElem hj]; rfl⟩
    · have hi := (List.getElem?_eq_some_iff.1 hx).1
      rw [Nat.zero_add, h.cellAt i (by omega), List.getElem?_map, hx]; rfl

def Ses.liveL (l : List Se) (n : Int) : List Se := l.filter fun s => decide (n ≤ s.til)
def Ses.overL (l : List Se) (n : Int) : List Int := (l.filter fun s => decide (s.til < n)).map (·.id)
/-- What is in the map when k sessions were looked at. -/
def Ses.cur (l : List Se) (k : Nat) (n : Int) : List Se := Ses.liveL (l.take k) n ++ l.drop k
theorem Ses.cur_sub (l : List Se) (k : Nat) (n : Int) : (Ses.cur l k n).Sublist l := by
  unfold Ses.cur Ses.liveL
  have h := List.Sublist.append (List.filter_sublist (l := l.take k) (p := fun s => decide (n ≤ s.til))) (List.Sublist.refl (l.drop k))
  rw [List.take_append_drop] at h
  exact h
theorem Ses.live_take {l : List Se} {k : Nat} {s : Se} (n : Int) (h : l[k]? = some s) : Ses.liveL (l.take (k + 1)) n = Ses.liveL (l.take k) n ++ (if n ≤ s.til then [s] else []) := by
  obtain ⟨hk, rfl⟩ := List.getElem?_eq_some_iff.1 h
  unfold Ses.liveL
  rw [List.take_succ_eq_append_getElem hk, List.filter_append]
  congr 1
  by_cases q : n ≤ l[k].til <;> simp [q]
theorem Ses.over_take {l : List Se} {k : Nat} {s : Se} (n : Int) (h : l[k]? = some s) : Ses.overL (l.take (k + 1)) n = Ses.overL (l.take k) n ++ (if n ≤ s.til then [] else [s.id]) := by
  obtain ⟨hk, rfl⟩ := List.getElem?_eq_some_iff.1 h
  unfold Ses.overL
  rw [List.take_succ_eq_append_getElem hk, List.filter_append, List.map_append]
  congr 1
  by_cases q : n ≤ l[k].til
  · simp [q]
  · have : l[k].til < n := by omega
    simp [q, this]
theorem Ses.cur_live {l : List Se} {k : Nat} {s : Se} {n : Int} (h : l[k]? = some s) (q : n ≤ s.til) : Ses.cur l (k + 1) n = Ses.cur l k n := by
  unfold Ses.cur
  rw [Ses.live_take n h, if_pos q]
  obtain ⟨hk, rfl⟩ := List.getElem?_eq_some_iff.1 h
  rw [List.drop_eq_getElem_cons hk, List.append_assoc]
  rfl
theorem Ses.cur_over {l : List Se} {k : Nat} {s : Se} {n : Int} (hr : Rises l) (h : l[k]? = some s) (q : ¬ n ≤ s.til) : (Ses.cur l k n).filter (fun t => t.id != s.id) = Ses.cur l (k + 1) n := by
  unfold Ses.cur
  rw [Ses.live_take n h, if_neg q, List.append_nil]
  obtain ⟨hk, rfl⟩ := List.getElem?_eq_some_iff.1 h
  rw [List.drop_eq_getElem_cons hk, List.filter_append, List.filter_cons_of_neg (by simp)]
  congr 1
  · rw [List.filter_eq_self]
    intro t ht
    have ht' := (List.mem_filter.1 ht).1
    obtain ⟨j, hj, rfl⟩ := List.mem_iff_getElem.1 ht'
    rw [List.length_take] at hj
    rw [List.getElem_take]
    have := List.pairwise_iff_getElem.1 hr j k (by omega) hk (by omega)
    simp; omega
  · rw [List.filter_eq_self]
    intro t ht
    obtain ⟨j, hj, rfl⟩ := List.mem_iff_getElem.1 ht
    rw [List.length_drop] at hj
    rw [List.getElem_drop]
    have := List.pairwise_iff_getElem.1 hr k (k + 1 + j) hk (by omega) (by omega)
    simp; omega
theorem Ses.cur_at {l : List Se} {k : Nat} {s : Se} {n : Int} (hr : Rises l) (h : l[k]? = some s) : Ses.live (Ses.cur l k n) s.id n = decide (n ≤ s.til) := by
  have hr' : Rises (Ses.cur l k n) := hr.sublist (Ses.cur_sub l k n)
  have hm : (Ses.cur l k n)[(Ses.liveL (l.take k) n).length]? = some s := by
    unfold Ses.cur
    rw [List.getElem?_append_right (Nat.le_refl _), Nat.sub_self, List.getElem?_drop, Nat.add_zero]
    exact h
  unfold Ses.live
  rw [hr'.til hm, show hasE (Ses.cur l k n) s.id = true from by unfold hasE; rw [List.any_eq_true]; exact ⟨s, List.mem_of_getElem? hm, by simp⟩, Bool.true_and]
theorem Ses.cur_end (l : List Se) (n : Int) : Ses.cur l l.length n = Ses.liveL l n := by unfold Ses.cur; simp

/-- A SplitResult as a value. -/
def sr (c : Int) (v u : Value) : Value := .agg #[.int .i64 c, v, u]
/-- A SplitResult came back, its two lists in new memory, each in its own. -/
def SRet (w : World) (c : Int) (ls : List Se) (os : List Int) (e : Ending) (w' : World) : Prop :=
  ∃ v u g h, e = .returned (sr c v u) ∧ w.heap.size ≤ g ∧ w.heap.size ≤ h ∧ (0 < ls.length → 0 < os.length → g ≠ h) ∧ EOwn w' v g ls ∧ IOwn w' u h os ∧ Ext w w'
/-- The result's block was laid behind w, and nothing up to it has turned since. -/
def SBox (w wx : World) : Prop := Below (w.heap.size + 1) (w.alloc (.cells #[.int .i64 0, .slice none 0 0, .slice none 0 0] 33)) wx
theorem SBox.new (w : World) : SBox w (w.alloc (.cells #[.int .i64 0, .slice none 0 0, .slice none 0 0] 33)) := Below.refl _ _
theorem SBox.to {w wx : World} (h : SBox w wx) : Ext w wx := ((Ext.refl w).alloc _).trans (Below.mono h (by simp))
theorem SBox.drew {w wx : World} (h : SBox w wx) : SBox w wx.drew := Below.drew h
theorem SBox.size {w wx : World} (h : SBox w wx) : w.heap.size + 1 ≤ wx.heap.size := by have := Below.size h; simpa using this
theorem SBox.alloc {w wx : World} (h : SBox w wx) (o : Obj) : SBox w (wx.alloc o) := Below.alloc h h.size o
theorem SBox.ext {w wx wy : World} (h : SBox w wx) (he : Ext wx wy) : SBox w wy := Below.trans h (Below.mono he h.size)
theorem SBox.grown {w wx wy : World} {row : Option Nat} (h : SBox w wx) (hg : wx.grownBy wy row) (hr : ∀ q, row = some q → w.heap.size + 1 ≤ q) : SBox w wy := Below.grown h hg h.size hr
theorem SBox.box {w wx : World} (h : SBox w wx) : w.heap.size < wx.heap.size ∧ wx.cell? ⟨w.heap.size, 0, none⟩ = some (.int .i64 0) ∧ wx.cell? ⟨w.heap.size, 1, none⟩ = some (.slice none 0 0) ∧ wx.cell? ⟨w.heap.size, 2, none⟩ = some (.slice none 0 0) ∧ wx.frozen? ⟨w.heap.size, 0, none⟩ = false ∧ wx.frozen? ⟨w.heap.size, 1, none⟩ = false ∧ wx.frozen? ⟨w.heap.size, 2, none⟩ = false := by
  have hc := fun r => Below.cell h (p := ⟨w.heap.size, r, none⟩) (by show w.heap.size < _; omega)
  have hf := fun r => Below.frozen h (p := ⟨w.heap.size, r, none⟩) (by show w.heap.size < _; omega)
  have := h.size
  exact ⟨by omega, (hc 0).trans (by simp), (hc 1).trans (by simp), (hc 2).trans (by simp), (hf 0).trans (by simp), (hf 1).trans (by simp), (hf 2).trans (by simp)⟩
theorem sret_box {w w2 : World} (c : Int) {v u : Value} {g h : Nat} {ls : List Se} {os : List Int} (hE : Ext w w2) (hO : EOwn w2 v g ls) (hI : IOwn w2 u h os) (hg : w.heap.size < g) (hh : w.heap.size < h) (hne : 0 < ls.length → 0 < os.length → g ≠ h) :
    SRet w c ls os (.returned (sr c v u)) (((w2.setCell ⟨w.heap.size, 0, none⟩ (.int .i64 c)).setCell ⟨w.heap.size, 1, none⟩ v).setCell ⟨w.heap.size, 2, none⟩ u) :=
  ⟨v, u, g, h, rfl, Nat.le_of_lt hg, Nat.le_of_lt hh, hne, hO.upd' ((((Upd.refl w.heap.size w2).setAt _ _).setAt _ _).setAt _ _) (fun _ => by omega), hI.upd' ((((Upd.refl w.heap.size w2).setAt _ _).setAt _ _).setAt _ _) (fun _ => by omega), (hE.two _ _).setCell (p := ⟨w.heap.size, 2, none⟩) (Nat.le_refl _) u⟩
theorem sret_bad {w w2 : World} (c : Int) (hE : Ext w w2) :
    SRet w c [] [] (.returned (sr c (.slice none 0 0) (.slice none 0 0))) (((w2.setCell ⟨w.heap.size, 0, none⟩ (.int .i64 c)).setCell ⟨w.heap.size, 1, none⟩ (.slice none 0 0)).setCell ⟨w.heap.size, 2, none⟩ (.slice none 0 0)) :=
  sret_box (g := w.heap.size + 1) (h := w.heap.size + 1) c hE ⟨none, 0, rfl, Nat.le_refl _, by unfold maxLen; omega, fun h => by simp at h⟩ ⟨none, 0, rfl, Nat.le_refl _, by unfold maxLen; omega, fun h => by simp at h⟩ (by omega) (by omega) (fun h => by simp at h)
def Ses.splitV (l : List Se) (n : Int) : Int × List Se × List Int := if Ses.moment l n ≠ 0 then (Ses.moment l n, [], []) else (0, Ses.liveL l n, Ses.overL l n)
theorem Ses.moment_zero {l : List Se} {n : Int} (h : Ses.moment l n = 0) : Ses.fault l = 0 ∧ 0 ≤ n ∧ n ≤ 9000 := by
  unfold Ses.moment at h
  split at h
  · omega
  · split at h
    · rename_i h1 h2
      simp [Ses.nowOk] at h2
      exact ⟨by omega, h2⟩
    · omega
theorem EMap.kept {w w' : World} {b n : Nat} {l : List Se} {row : Option Nat} (h : EMap w b n l) (hg : w.grownBy w' row) (hne : some b ≠ row) : EMap w' b n l := World.ownsMap.kept h hg hne

set_option maxHeartbeats 4000000 in
set_option maxRecDepth 100000 in
theorem implSplitSessions_any (v : Value) (l : List Se) (n : Int) (w : World) (hS : ESlice w v l) :
    Calls Try.prog 16 #[v, .int .i64 n] w (SRet w (Ses.splitV l n).1 (Ses.splitV l n).2.1 (Ses.splitV l n).2.2) := by
  have hi9 : (Try.prog.info? 2).map (fun i => (i.zero, i.size, i.bytes)) = some (some (.int .i64 0), 1, 8) := by kernel_rfl
  obtain ⟨ti, hti, hxx⟩ := Option.map_eq_some_iff.1 hi9
  simp only [Prod.mk.injEq] at hxx
  obtain ⟨hz0, hz1, hz2⟩ := hxx
  clear hi9
  have HS : Hid (ESlice w v l) := hS
  have HF : Hid (∀ wx, Ext w wx → Calls Try.prog 40 #[v, .int .i64 n] wx fun e w' => e = .returned (.int .i64 (Ses.moment l n)) ∧ Ext wx w') := fun wx he => momentFault_any v l n wx (hS.ext he)
  obtain ⟨a, cap, rfl, hlc, hcm, hx⟩ := hS
  have HX : Hid (0 < l.length → ∃ b off, a = some ⟨b, off, none⟩ ∧ b < w.heap.size ∧ SesAt w b off l) := hx
  clear hx
  unfold maxLen at hcm
  unfold Ses.splitV
  by_cases hc : Ses.moment l n ≠ 0
  · rw [if_pos hc]
    generalize Ses.moment l n = c at *
    go_enter Try.func16, Try.ntmps16
    go_wp2_with fail
    refine (HF.out _ ((Ext.refl _).alloc _)).mono ?_
    rintro e w2 ⟨rfl, hb⟩
    have HB : Hid (SBox w w2) := (SBox.new w).ext hb
    clear hb
    obtain ⟨x0, x1, x2, x3, x4, x5, x6⟩ := HB.out.box
    go_wp2
    exact bodyPost_ret (v := sr c (.slice none 0 0) (.slice none 0 0)) (by simp [results, Try.results16, go_sem, sr, x1, x2, x3]) rfl (sret_bad _ HB.out.to)
  · rw [if_neg hc]
    have hc0 : Ses.moment l n = 0 := by omega
    obtain ⟨hf, hn⟩ := Ses.moment_zero hc0
    obtain ⟨h6, hr, ho⟩ := Ses.fault_zero hf
    have HR : Hid (∀ wx, Ext w wx → Calls Try.prog 34 #[.slice a l.length cap] wx fun e w' => ∃ b, e = .returned (.map (some b)) ∧ wx.heap.size ≤ b ∧ EMap w' b l.length l ∧ Ext wx w') := fun wx he => rollOf_any _ l wx (HS.out.ext he) h6 hr ho
    have HP : Hid (Rises l ∧ ∀ s ∈ l, Ses.ok s = true) := ⟨hr, ho⟩
    rw [hc0] at HF
    clear hc hc0 hf hr ho
    go_enter Try.func16, Try.ntmps16
    go_wp2_with fail
    refine (HF.out _ ((Ext.refl _).alloc _)).mono ?_
    rintro e w2 ⟨rfl, hb⟩
    have HB : Hid (SBox w w2) := (SBox.new w).ext hb
    clear hb
    go_wp2_with fail
    refine (HR.out _ HB.out.to).mono ?_
    rintro e w3 ⟨b, rfl, hb3, hM, hb⟩
    have HM : Hid (EMap w3 b l.length l) := hM
    have HB3 : Hid (SBox w w3) := HB.out.ext hb
    have hb4 : w.heap.size + 1 ≤ b := Nat.le_trans HB.out.size hb3
    have hb5 : b < w3.heap.size := hM.lt
    clear hb hM hb3
    go_wp2
    go_loopw [7, 21] (fun ov i wr => ∃ (k : Nat), k ≤ l.length ∧ i = .int .i64 k ∧ Hid (EMap wr b l.length (Ses.cur l k n)) ∧ Hid (wr.ownsRow w3.heap.size 2 1 ov (Ses.overL (l.take k) n).length ((Ses.overL (l.take k) n).map (Value.int .i64))) ∧ Hid (SBox w wr ∧ w3.heap.size ≤ wr.heap.size)) (fun _ i _ => l.length - (intOf i).toNat)
    case atStart => exact ⟨0, Nat.zero_le _, rfl, HM.out, World.ownsRow_nil _ _ _ _, HB3.out, Nat.le_refl _⟩
    case round =>
      obtain ⟨k, hk, rfl, HM1, HO1, HE⟩ := hrel
      have hob : ∀ q, u7.ownBlock = some q → w3.heap.size ≤ q ∧ q < wr.heap.size := HO1.out.lt
      by_cases hlt : k < l.length
      · obtain ⟨s, hsk⟩ : ∃ s, l[k]? = some s := ⟨_, List.getElem?_eq_getElem hlt⟩
        obtain ⟨bb, off, rfl, hb, hN⟩ := HX.out (by omega)
        obtain ⟨d0, d1⟩ := hN.ext hb HE.out.1.to k s hsk
        have hos := Ses.ok_iff.1 (HP.out.2 s (List.mem_of_getElem? hsk))
        have hkey : keyOf Try.prog 2 (.int .i64 s.id) = some (.int .i64 s.id) := key64 (by omega)
        have HLv : Hid (∀ wx, EMap wx b l.length (Ses.cur l k n) → Calls Try.prog 36 #[.map (some b), .int .i64 s.id, .int .i64 n] wx fun e w' => e = .returned (.bool (decide (n ≤ s.til))) ∧ w' = wx) := fun wx h => by
          have h1 := isLive_any b _ (Ses.cur l k n) s.id n wx h (by omega)
          rw [Ses.cur_at HP.out.1 hsk] at h1
          exact h1
        by_cases q : n ≤ s.til
        · have HM2 : Hid (Ses.cur l (k + 1) n = Ses.cur l k n) := Ses.cur_live hsk q
          have HO2 : Hid (Ses.overL (l.take (k + 1)) n = Ses.overL (l.take k) n) := by show _ = _; rw [Ses.over_take n hsk, if_pos q, List.append_nil]
          rw [decide_eq_true q] at HLv
          clear hN hsk
          go_wp2_with fail
          refine (HLv.out _ (HM1.out.ext ((Ext.refl _).alloc _))).mono ?_
          rintro e w4 ⟨rfl, hw⟩
          have HM4 : Hid (EMap w4 b l.length (Ses.cur l k n)) := by rw [hw]; exact HM1.out.ext ((Ext.refl _).alloc _)
          have HO4 : Hid (w4.ownsRow w3.heap.size 2 1 u7 (Ses.overL (l.take k) n).length ((Ses.overL (l.take k) n).map (Value.int .i64))) := by rw [hw]; exact HO1.out.alloc _
          have HE4 : Hid (SBox w w4 ∧ w3.heap.size ≤ w4.heap.size) := by rw [hw]; exact ⟨HE.out.1.alloc _, by have := HE.out.2; simp; omega⟩
          clear hw
          go_wp2
          exact ⟨⟨k + 1, by omega, by go_num, by rw [HM2.out]; exact HM4.out, by rw [HO2.out]; exact HO4.out, HE4.out⟩, by simp [intOf]; omega⟩
        · have HM2 : Hid ((mapE (Ses.cur l k n)).del (.int .i64 s.id) = mapE (Ses.cur l (k + 1) n)) := by show _ = _; rw [mapE_del, Ses.cur_over HP.out.1 hsk q]
          have HO2 : Hid (Ses.overL (l.take (k + 1)) n = Ses.overL (l.take k) n ++ [s.id]) := by show _ = _; rw [Ses.over_take n hsk, if_neg q]
          have hol : (Ses.overL (l.take k) n).length ≤ 6 := by
            unfold Ses.overL
            rw [List.length_map]
            have h1 := List.length_filter_le (fun s : Se => decide (s.til < n)) (l.take k)
            rw [List.length_take] at h1
            omega
          rw [decide_eq_false q] at HLv
          clear hN hsk
          generalize Ses.overL (l.take k) n = os at *
          go_wp2_with fail
          refine (HLv.out _ (HM1.out.ext ((Ext.refl _).alloc _))).mono ?_
          rintro e w4 ⟨rfl, hw⟩
          have HM4 : Hid (EMap w4 b l.length (Ses.cur l k n)) := by rw [hw]; exact HM1.out.ext ((Ext.refl _).alloc _)
          have HO4 : Hid (w4.ownsRow w3.heap.size 2 1 u7 os.length (os.map (Value.int .i64))) := by rw [hw]; exact HO1.out.alloc _
          have HE4 : Hid (SBox w w4 ∧ w3.heap.size ≤ w4.heap.size) := by rw [hw]; exact ⟨HE.out.1.alloc _, by have := HE.out.2; simp; omega⟩
          have e0 : w4.cell? ⟨wr.heap.size, 0, none⟩ = some (.int .i64 s.id) := by rw [hw]; simp
          have hl4 : w4.heap.size = wr.heap.size + 1 := by rw [hw]; simp
          clear hw
          have hbr : b < wr.heap.size := Nat.lt_of_lt_of_le hb5 HE.out.2
          go_wp2_with (first | (at_delete; go_must (refine wpList_delete_own _ rfl _ _ 51 2 rfl 2 law64 Try.underlying51 _ b l.length _ rfl HM4.out _ _ rfl hkey ?_; intro w5 hown5 hturn5; rw [HM2.out] at hown5; have hg5 := hturn5.grown; have HM5 : Hid (EMap w5 b l.length (Ses.cur l (k + 1) n)) := hown5; have f0 : w5.cell? ⟨wr.heap.size, 0, none⟩ = some (.int .i64 s.id) := (World.cell?_of_block (w := w4) (a := ⟨wr.heap.size, 0, none⟩) (hg5.block wr.heap.size (by omega) (by intro h; injection h with h; omega))).trans e0; have HO5 : Hid (w5.ownsRow w3.heap.size 2 1 u7 os.length (os.map (Value.int .i64))) := HO4.out.kept hg5 (Or.inr (by intro h; have := hob b h; omega)); have HE5 : Hid (SBox w w5 ∧ w3.heap.size ≤ w5.heap.size) := ⟨HE4.out.1.grown hg5 (fun q hq => by cases hq; exact hb4), Nat.le_trans HE4.out.2 hg5.size⟩; clear hown5 hturn5 hg5)) | (at_builtin; go_must (refine wpList_append_own _ rfl _ _ 31 rfl w3.heap.size 2 ti (.int .i64 0) 1 8 Try.underlying31 hti hz0 hz1 hz2 rfl (by decide) _ _ _ rfl (HO5.out.alloc _) ⟨w5.heap.size, 0, none⟩ 1 1 [.int .i64 s.id] rfl rfl (cell_one_new _ _ _) (ints_oneCell .i64 [s.id]) (by unfold maxLen; omega) (by omega) (by have := HE5.out.2; simp; omega) ?_; intro v6 w6 hown6 hgrow6 hnil6; have HM6 : Hid (EMap w6 b l.length (Ses.cur l (k + 1) n)) := (HM5.out.ext ((Ext.refl _).alloc _)).kept hgrow6 (by intro h; have := hob b h.symm; omega); have HO6 : Hid (w6.ownsRow w3.heap.size 2 1 v6 (os.length + 1) (os.map (Value.int .i64) ++ [.int .i64 s.id])) := hown6; have HE6 : Hid (SBox w w6 ∧ w3.heap.size ≤ w6.heap.size) := ⟨(HE5.out.1.alloc _).grown hgrow6 (fun q hq => by have := (hob q hq).1; omega), by have := hgrow6.size; have := HE5.out.2; simp at *; omega⟩; clear hown6 hgrow6 hnil6)))
          exact ⟨⟨k + 1, by omega, by go_num, HM6, by rw [HO2.out, List.length_append, List.map_append]; exact HO6.out, HE6⟩, by simp [intOf]; omega⟩
      · have hke : k = l.length := by omega
        subst hke
        rw [Ses.cur_end] at HM1
        rw [List.take_length] at HO1
        have HIn : Hid (∀ wx, EMap wx b l.length (Ses.liveL l n) → Calls Try.prog 35 #[.map (some b)] wx fun e w' => ∃ v g, e = .returned v ∧ wx.heap.size ≤ g ∧ EOwn w' v g (Ses.liveL l n) ∧ Ext wx w') := fun wx h => inOrder_any b _ _ wx h (HP.out.1.sublist List.filter_sublist) (by have := List.length_filter_le (fun s : Se => decide (n ≤ s.til)) l; unfold Ses.liveL; omega) (fun s hs => by
          have := Ses.ok_iff.1 (HP.out.2 s (List.mem_filter.1 hs).1); omega)
        obtain ⟨g7, hg7, hlt7, hI7⟩ := iown_of_owns HO1.out
        obtain ⟨a7, cap7, rfl, -⟩ := id hI7
        have HI7 : Hid (IOwn wr (.slice a7 (Ses.overL l n).length cap7) g7 (Ses.overL l n)) := hI7
        have HG7 : Hid (0 < (Ses.overL l n).length → g7 < wr.heap.size) := hlt7
        clear hI7 hob hlt7
        generalize Ses.overL l n = os at *
        generalize Ses.liveL l n = ls at *
        go_wp2_with fail
        refine (HIn.out _ HM1.out).mono ?_
        rintro e w5 ⟨v5, g5, rfl, hg5, hO5, hb⟩
        have HB5 : Hid (SBox w w5) := HE.out.1.ext hb
        have HO5 : Hid (EOwn w5 v5 g5 ls) := hO5
        have HI5 : Hid (IOwn w5 (.slice a7 os.length cap7) g7 os) := HI7.out.ext hb
        have HG5 : Hid (w.heap.size < g5 ∧ w.heap.size < g7 ∧ (0 < ls.length → 0 < os.length → g5 ≠ g7)) := ⟨by have := HE.out.1.size; omega, by have := HB3.out.size; omega, fun _ h => by have := HG7.out h; omega⟩
        obtain ⟨a5, cap5, rfl, -⟩ := id hO5
        clear hb hO5
        obtain ⟨x0, x1, x2, x3, x4, x5, x6⟩ := HB5.out.box
        go_wp2
        exact bodyPost_ret (v := sr 0 (.slice a5 ls.length cap5) (.slice a7 os.length cap7)) (by simp [results, Try.results16, go_sem, sr, x1, x2, x3]) rfl (sret_box 0 HB5.out.to HO5.out HI5.out HG5.out.1 HG5.out.2.1 HG5.out.2.2)
end Go.Proofs.Ytjlmkjcahnnjpaa
