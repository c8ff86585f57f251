/- DropOwned: the program's. -/
import Derived.Test.YtjlmkjcahnnjpaaDoorG1
import Derived.Test.YtjlmkjcahnnjpaaDoorT4
namespace Go.Proofs.YtjlmkjcahnnjpaaDoor
open Go.RowKit

def dropV (zs : List Zn) (ids : List Int) : Int × ByteArray × List Zn := if Tre.fault zs ≠ 0 then (Tre.fault zs, ⟨#[]⟩, []) else if 9 < ids.length then (2, ⟨#[]⟩, []) else (0, ⟨#[]⟩, dropL ids zs)
theorem Tre.fault_len {zs : List Zn} (h1 : Tre.fault zs = 0) : zs.length ≤ 20 ∧ 0 < zs.length ∧ ∀ z ∈ zs, z.path.size ≤ 24 := by
  refine ⟨(Tre.fault_nodes h1).1, ?_, fun z hz => few_of_ok (Tre.fault_nums h1 z hz).1⟩
  rcases Tre.atI_range zs Tre.top with ⟨hm, _⟩ | ⟨k, z, _, hk, _, _⟩
  · have := (Tre.fault_hang h1).1; omega
  · omega
theorem RBox.upd2 {w w2 : World} {r b : Nat} (h : RBox w r) (he : Upd b w w2) (hne : r ≠ b) : RBox w2 r := by
  obtain ⟨h1, h2, h3, h4, h5, h6, h7⟩ := h
  exact ⟨Nat.lt_of_lt_of_le h1 he.2.1, (he.at_ne _ _ hne h1).1.trans h2, (he.at_ne _ _ hne h1).1.trans h3, (he.at_ne _ _ hne h1).1.trans h4, (he.at_ne _ _ hne h1).2.trans h5, (he.at_ne _ _ hne h1).2.trans h6, (he.at_ne _ _ hne h1).2.trans h7⟩
theorem ZRet.to {w w1 w' : World} {c : Int} {p : ByteArray} {rs : List Zn} {e : Ending} (h : ZRet w1 c p rs e w') (he : Ext w w1) : ZRet w c p rs e w' := by
  obtain ⟨v, g, h1, h2, h3, h4⟩ := h
  exact ⟨v, g, h1, Nat.le_trans he.size h2, h3, he.trans h4⟩
theorem zret_own1 {w w4 : World} {iv v : Value} {g : Nat} {rs : List Zn} (c : Int) (p : ByteArray) (hO : Own w4 v g rs) (hg : w.heap.size + 2 ≤ g) (h : Ext (w.alloc (.cells #[iv] 23)) w4) (x y u : Value) :
    ZRet w c p rs (.returned (zr c p v)) (((w4.setCell ⟨w.heap.size + 1, 0, none⟩ x).setCell ⟨w.heap.size + 1, 1, none⟩ y).setCell ⟨w.heap.size + 1, 2, none⟩ u) := by
  have h1 := zret_own (w := w.alloc (.cells #[iv] 23)) c p hO (by simp; omega) h x y u
  simp only [World.size_alloc] at h1
  exact h1.to ((Ext.refl _).alloc _)
theorem zret_bad1 {w w4 : World} {iv : Value} (c : Int) (p : ByteArray) (h : Ext (w.alloc (.cells #[iv] 23)) w4) (x y u : Value) :
    ZRet w c p [] (.returned (zr c p (.slice none 0 0))) (((w4.setCell ⟨w.heap.size + 1, 0, none⟩ x).setCell ⟨w.heap.size + 1, 1, none⟩ y).setCell ⟨w.heap.size + 1, 2, none⟩ u) :=
  zret_own1 (g := w.heap.size + 2) c p (own_none _ _) (Nat.le_refl _) h x y u
/-- How DropOwned stands: the ids' block, the result's block. -/
def DBx (w : World) (iv : Value) (ids : List Int) (wx : World) : Prop := IdsAt wx w.heap.size iv ids ∧ RBox wx (w.heap.size + 1) ∧ Ext (w.alloc (.cells #[iv] 23)) wx
theorem DBx.new (w : World) (iv : Value) (ids : List Int) (hI : ISlice w iv ids) : DBx w iv ids ((w.alloc (.cells #[iv] 23)).alloc (.cells #[.int .i64 0, .string ⟨#[]⟩, .slice none 0 0] 27)) := by
  have h := RBox.new (w.alloc (.cells #[iv] 23)) 27
  simp only [World.size_alloc] at h
  refine ⟨⟨?_, hI.ext (((Ext.refl _).alloc _).alloc _)⟩, h, (Ext.refl _).alloc _⟩
  exact ((Ext.cell ((Ext.refl (w.alloc (.cells #[iv] 23))).alloc _)).1 w.heap.size 0 (by simp)).trans (by simp)
theorem DBx.ext {w wx wy : World} {iv : Value} {ids : List Int} (h : DBx w iv ids wx) (he : Ext wx wy) : DBx w iv ids wy := ⟨h.1.ext he, h.2.1.ext he, h.2.2.trans he⟩
theorem DBx.to {w wx : World} {iv : Value} {ids : List Int} (h : DBx w iv ids wx) : Ext w wx := ((Ext.refl _).alloc _).trans h.2.2
set_option maxHeartbeats 4000000 in
set_option maxRecDepth 100000 in
theorem implDropOwned_any (v u : Value) (zs : List Zn) (ids : List Int) (w : World) (hg : Gd w) (hS : NSlice w v zs) (hI : ISlice w u ids) :
    Calls Tryd.prog 9 #[v, u] w (ZRet w (dropV zs ids).1 (dropV zs ids).2.1 (dropV zs ids).2.2) := by
  have HT : Hid (∀ wx, Ext w wx → Calls Tryd.prog 22 #[v] wx fun e w' => e = .returned (.int .i64 (Tre.fault zs)) ∧ Ext wx w') := fun wx he => implTreeFault_any v zs wx (hg.ext he) (hS.ext he)
  have HS : Hid (NSlice w v zs ∧ ISlice w u ids) := ⟨hS, hI⟩
  have HN : Hid (DBx w u ids ((w.alloc (.cells #[u] 23)).alloc (.cells #[.int .i64 0, .string ⟨#[]⟩, .slice none 0 0] 27))) := DBx.new w u ids hI
  obtain ⟨a, cap, rfl, -⟩ := hS
  obtain ⟨b, cbp, rfl, hlc, hcm, -⟩ := hI
  unfold maxLen at hcm
  unfold dropV
  by_cases hc : Tre.fault zs ≠ 0
  · rw [if_pos hc]
    generalize Tre.fault zs = c at *
    go_enter Tryd.func9, Tryd.ntmps9
    go_wp2_with fail
    refine (HT.out _ HN.out.to).mono ?_
    rintro e w2 ⟨rfl, hb⟩
    have HD : Hid (DBx w (.slice b ids.length cbp) ids w2) := HN.out.ext hb
    clear hb HN
    obtain ⟨q, q0, q1, q2, f0, f1, f2⟩ := HD.out.2.1
    go_wp2
    exact bodyPost_ret (v := zr c ⟨#[]⟩ (.slice none 0 0)) (by simp [results, Tryd.results9, go_sem, zr, q0, q1, q2]) rfl (zret_bad1 _ _ HD.out.2.2 _ _ _)
  · rw [if_neg hc]
    have hc0 : Tre.fault zs = 0 := by omega
    rw [hc0] at HT
    obtain ⟨h20, hpos, hps⟩ := Tre.fault_len hc0
    have HP : Hid (∀ z ∈ zs, z.path.size ≤ 1048576) := fun z hz => by have := hps z hz; omega
    clear hc hc0 hps
    by_cases h9 : 9 < ids.length
    · rw [if_pos h9]
      go_enter Tryd.func9, Tryd.ntmps9
      go_wp2_with fail
      refine (HT.out _ HN.out.to).mono ?_
      rintro e w2 ⟨rfl, hb⟩
      have HD : Hid (DBx w (.slice b ids.length cbp) ids w2) := HN.out.ext hb
      clear hb HN
      obtain ⟨q, q0, q1, q2, f0, f1, f2⟩ := HD.out.2.1
      have i0 := HD.out.1.1
      go_wp2
      exact bodyPost_ret (v := zr 2 ⟨#[]⟩ (.slice none 0 0)) (by simp [results, Tryd.results9, go_sem, zr, q0, q1, q2]) rfl (zret_bad1 _ _ HD.out.2.2 _ _ _)
    · rw [if_neg h9]
      go_enter Tryd.func9, Tryd.ntmps9
      go_wp2_with fail
      refine (HT.out _ HN.out.to).mono ?_
      rintro e w2 ⟨rfl, hb⟩
      have HD : Hid (DBx w (.slice b ids.length cbp) ids w2) := HN.out.ext hb
      clear hb HN
      obtain ⟨q, q0, q1, q2, f0, f1, f2⟩ := HD.out.2.1
      have i0 := HD.out.1.1
      go_wp2_with fail
      refine (copyNodes_any _ zs _ (HS.out.1.ext HD.out.to) (by omega) hpos HP.out).mono ?_
      rintro e w3 ⟨v3, g, rfl, hg3, hO, hb⟩
      obtain ⟨a3, cap3, rfl, hlc3, hcm3, hx3⟩ := id hO
      obtain ⟨off3, rfl, -, -⟩ := hx3 hpos
      have HO : Hid (Own w3 (.slice (some ⟨g, off3, none⟩) zs.length cap3) g zs) := hO
      have HD3 : Hid (DBx w (.slice b ids.length cbp) ids w3) := HD.out.ext hb
      have HG : Hid (w.heap.size + 2 ≤ g) := by have := HD.out.2.1.1; show _ ≤ _; omega
      clear hb hO hx3 q q0 q1 q2 f0 f1 f2 i0 hg3
      have HDf : Hid (Calls Tryd.prog 28 #[.slice (some ⟨g, off3, none⟩) zs.length cap3, .func (.func 30) #[] #[.pointer (some ⟨w.heap.size, 0, none⟩)]] w3 fun e w' => e = .returned (.slice (some ⟨g, off3, none⟩) (dropL ids zs).length cap3) ∧ Own w' (.slice (some ⟨g, off3, none⟩) (dropL ids zs).length cap3) g (dropL ids zs) ∧ Upd g w3 w') := by
        refine deleteFunc_any g off3 cap3 w.heap.size zs _ ids w3 HO.out hpos HD3.out.1 (fun wx hu => ?_)
        obtain ⟨j0, j1⟩ := HD3.out.1
        have hlt3 := HD3.out.2.1.1
        have hg2 := HG.out
        have he : Below w.heap.size w wx := (Below.trans HD3.out.to (hu.1.mono (by omega)))
        exact ⟨((hu.at_ne w.heap.size 0 (by omega) (by omega)).1).trans j0, HS.out.2.ext he⟩
      go_wp2_with fail
      refine HDf.out.mono ?_
      rintro e w7 ⟨rfl, hO7, hU7⟩
      have HO7 : Hid (Own w7 (.slice (some ⟨g, off3, none⟩) (dropL ids zs).length cap3) g (dropL ids zs)) := hO7
      have HB7 : Hid (Ext (w.alloc (.cells #[.slice b ids.length cbp] 23)) w7) := hU7.to_ext HD3.out.2.2 (by have := HG.out; simp; omega)
      obtain ⟨q, q0, q1, q2, f0, f1, f2⟩ := HD3.out.2.1.upd2 hU7 (by have := HG.out; omega)
      clear hU7 hO7
      generalize dropL ids zs = rs at *
      go_wp2
      exact bodyPost_ret (v := zr 0 ⟨#[]⟩ (.slice (some ⟨g, off3, none⟩) rs.length cap3)) (by simp [results, Tryd.results9, go_sem, zr, q0, q1, q2]) rfl (zret_own1 0 ⟨#[]⟩ HO7.out HG.out HB7.out _ _ _)
end Go.Proofs.YtjlmkjcahnnjpaaDoor
