/- the specification's ProveZ; laws.FnExactProveZ answers true at every argument. -/
import Derived.Test.YtilinjjimiiplaaGreatDoorKqV16
import Derived.Maps.AppendAt
import Derived.Deep.RegionLaw
namespace Go.Proofs.YtilinjjimiiplaaGreatDoor
open Go.RowKit
/-- Block b holds a ProofResult of code 0, and may be written. -/
def PBoxW (w : World) (r : Nat) (n : Int) (v : Value) : Prop :=
  r < w.heap.size ∧ w.cell? ⟨r, 0, none⟩ = some (.int .i64 0) ∧ w.cell? ⟨r, 1, none⟩ = some (.int .i64 n) ∧ w.cell? ⟨r, 2, none⟩ = some v ∧ w.frozen? ⟨r, 0, none⟩ = false ∧ w.frozen? ⟨r, 1, none⟩ = false ∧ w.frozen? ⟨r, 2, none⟩ = false
theorem PBoxW.new (w : World) (n : Int) (t : TypeId) : PBoxW (w.alloc (.cells #[.int .i64 0, .int .i64 n, .slice none 0 0] t)) w.heap.size n (.slice none 0 0) := ⟨by simp, by simp, by simp, by simp, by simp, by simp, by simp⟩
theorem PBoxW.below {w w2 : World} {r B : Nat} {n : Int} {v : Value} (h : PBoxW w r n v) (he : Below B w w2) (hr : r < B) : PBoxW w2 r n v := by
  obtain ⟨h1, h2, h3, h4, h5, h6, h7⟩ := h
  exact ⟨Nat.lt_of_lt_of_le h1 (Below.size he), (Below.cell he (p := ⟨r, 0, none⟩) hr).trans h2, (Below.cell he (p := ⟨r, 1, none⟩) hr).trans h3, (Below.cell he (p := ⟨r, 2, none⟩) hr).trans h4, (Below.frozen he (p := ⟨r, 0, none⟩) hr).trans h5, (Below.frozen he (p := ⟨r, 1, none⟩) hr).trans h6, (Below.frozen he (p := ⟨r, 2, none⟩) hr).trans h7⟩
theorem PBoxW.ext {w w2 : World} {r : Nat} {n : Int} {v : Value} (h : PBoxW w r n v) (he : Ext w w2) : PBoxW w2 r n v := h.below he h.1
theorem PBoxW.set {w : World} {r : Nat} {n : Int} {v : Value} (h : PBoxW w r n v) (u : Value) : PBoxW (w.setCell ⟨r, 2, none⟩ u) r n u := by
  obtain ⟨h1, h2, h3, h4, h5, h6, h7⟩ := h
  refine ⟨by simpa using h1, ?_, ?_, iset_eq _ _ _ _ ⟨_, h4⟩, by simpa using h5, by simpa using h6, by simpa using h7⟩
  · rw [iset_ne _ _ _ _ _ _ (by omega)]; exact h2
  · rw [iset_ne _ _ _ _ _ _ (by omega)]; exact h3
theorem PBox.below {w w2 : World} {r B : Nat} (h : PBox w r) (he : Below B w w2) (hr : r < B) : PBox w2 r := by
  obtain ⟨h1, h2, h3, h4, h5, h6, h7⟩ := h
  exact ⟨Nat.lt_of_lt_of_le h1 (Below.size he), (Below.cell he (p := ⟨r, 0, none⟩) hr).trans h2, (Below.cell he (p := ⟨r, 1, none⟩) hr).trans h3, (Below.cell he (p := ⟨r, 2, none⟩) hr).trans h4, (Below.frozen he (p := ⟨r, 0, none⟩) hr).trans h5, (Below.frozen he (p := ⟨r, 1, none⟩) hr).trans h6, (Below.frozen he (p := ⟨r, 2, none⟩) hr).trans h7⟩
theorem PBox.other {w : World} {r b o : Nat} (h : PBox w r) (v : Value) (hr : r ≠ b) : PBox (w.setCell ⟨b, o, none⟩ v) r := by
  obtain ⟨h1, h2, h3, h4, h5, h6, h7⟩ := h
  refine ⟨by simpa using h1, ?_, ?_, ?_, by simpa using h5, by simpa using h6, by simpa using h7⟩
  · rw [iset_ne _ _ _ _ _ _ (by omega)]; exact h2
  · rw [iset_ne _ _ _ _ _ _ (by omega)]; exact h3
  · rw [iset_ne _ _ _ _ _ _ (by omega)]; exact h4

/-- How things lie in a round: what is led up so far. -/
def Led (w : World) (B : Nat) (S : List Sd) (n : Int) (i : Nat) (l : List Int) (rv sv : Value) (D : List Sd) (wr : World) : Prop :=
  wr.ownsRow (B + 1) 2 1 rv l.length (l.map (Value.int .i64)) ∧ wr.ownsRow (B + 1) 59 2 sv D.length (cellsS D) ∧ (sv.ownBlock = none ∨ sv.ownBlock ≠ rv.ownBlock) ∧ PBoxW wr B n sv ∧ PBox wr w.heap.size ∧ Sm.ok l = true ∧ (∃ f, l.length ≤ f ∧ D ++ Sm.sidesF f i l = S) ∧ D.length ≤ 20 ∧ Ext w wr

theorem owns_some {w : World} {base : Nat} {e : TypeId} {size : Nat} {v : Value} {n : Nat} {xs : List Value} (h : w.ownsRow base e size v n xs) (hn : 0 < n) : ∃ g cap, v = .slice (some ⟨g, 0, none⟩) n cap := by
  rcases h.2 with ⟨_, h0⟩ | ⟨g, cap, cur, hv, _⟩
  · omega
  · exact ⟨g, cap, hv⟩
theorem owns_cap {w : World} {base : Nat} {e : TypeId} {size : Nat} {a : Option Addr} {cap n : Nat} {xs : List Value} (h : w.ownsRow base e size (.slice a n cap) n xs) : n ≤ cap ∧ cap ≤ maxLen := by
  rcases h.2 with ⟨hv, h0⟩ | ⟨g, c, cur, hv, _, _, h1, h2, _⟩
  · injection hv with _ h1 h2
    subst h2
    exact ⟨by omega, by unfold maxLen; omega⟩
  · injection hv with _ _ h3
    subst h3
    exact ⟨h1, h2⟩
theorem owns_len {w : World} {base : Nat} {e : TypeId} {size : Nat} {v : Value} {n : Nat} {xs : List Value} (h : w.ownsRow base e size v n xs) : lenOf v = n := by
  rcases h.2 with ⟨hv, h0⟩ | ⟨g, cap, cur, hv, _⟩
  · rw [hv, h0]; rfl
  · rw [hv]; rfl
theorem step_append_at {P : Program} (w : World) {ops : Array Oper} {o : Oper} {a : Act} {K : Act → World → Prop} {Q : Exit → Act → World → Prop} {E : Prop} (hgd : o.guard = none) (s x : Operand) (t : TypeId)
    (ho : o.op = .call { callee := .builtin .append, args := #[s, x], argTypes := #[t, t] })
    (base : Nat) (e : TypeId) (i : TypeInfo) (z : Value) (size bytes : Nat) (ht : P.underlying t = some (.slice e)) (hi : P.info? e = some i) (hz : i.zero = some z)
    (hsize : i.size = size) (hby : i.bytes = bytes) (hzs : z.cells.size = size) (hsz : 0 < size)
    (v : Value) (n : Nat) (xs : List Value) (hs : a.eval s = v) (hown : w.ownsRow base e size v n xs)
    (ad : Addr) (m c : Nat) (news : List Value) (hx : a.eval x = .slice (some ad) m c) (hl : news.length = m * size) (hnews : ∀ j u, news[j]? = some u → w.cell? (ad.add j) = some u) (h1 : ∀ u ∈ news, u.oneCell' = true)
    (h63 : n + m ≤ maxLen) (hbytes : (n + m) * bytes ≤ 140737488355328) (hbase : base ≤ w.heap.size)
    (h : ∀ v' w', w'.ownsRow base e size v' (n + m) (xs ++ news) → w.grownBy w' v.ownBlock → (v'.ownBlock = v.ownBlock ∨ v'.ownBlock = some w.heap.size) → K (a.put o.dst v') w') :
    if Region.wanted o (yielded ops a.tmps) = true then Oper.wp P o a w K Q else E := by
  have hw : Region.wanted o (yielded ops a.tmps) = true := by simp [Region.wanted, hgd]
  rw [if_pos hw]
  obtain ⟨v', w', hr, h2, h3, h4, h5⟩ := run_append_own_at (P := P) w base t o.type e i z size bytes ht hi hz hsize hby hzs hsz v n xs hown ad m c news hl hnews h1 h63 hbytes hbase
  unfold Oper.wp execOp
  simp only [ho, resolve, invoke, builtin, Sem.run_bind, Sem.run_pure, Result.andThen_ok, List.map_toArray, List.map_cons, List.map_nil, hs, hx, hr]
  exact h v' w' h2 h3 h5

/-- How things lie behind an append: the box holds u. -/
def Next (w : World) (B : Nat) (n : Int) (l : List Int) (rv sv : Value) (D : List Sd) (u : Value) (wr : World) : Prop :=
  wr.ownsRow (B + 1) 2 1 rv l.length (l.map (Value.int .i64)) ∧ wr.ownsRow (B + 1) 59 2 sv D.length (cellsS D) ∧ (sv.ownBlock = none ∨ sv.ownBlock ≠ rv.ownBlock) ∧ PBoxW wr B n u ∧ PBox wr w.heap.size ∧ Ext w wr
theorem next_same {w wr : World} {B i : Nat} {S D : List Sd} {n : Int} {l : List Int} {rv sv : Value} (h : Led w B S n i l rv sv D wr) : Next w B n l rv sv D sv wr :=
  ⟨h.1, h.2.1, h.2.2.1, h.2.2.2.1, h.2.2.2.2.1, h.2.2.2.2.2.2.2.2⟩
theorem next_append {w wr w6 : World} {B i : Nat} {S D : List Sd} {n : Int} {l : List Int} {rv sv v6 : Value} {s : Sd} {ob : Obj} (h : Led w B S n i l rv sv D wr) (hB : w.heap.size < B) (hown6 : w6.ownsRow (B + 1) 59 2 v6 (D.length + 1) (cellsS D ++ cellsS [s])) (hg : (wr.drew.alloc ob).grownBy w6 sv.ownBlock) (hl : v6.ownBlock = sv.ownBlock ∨ v6.ownBlock = some (wr.drew.alloc ob).heap.size) : Next w B n l rv v6 (D ++ [s]) sv w6 := by
  obtain ⟨h1, h2, h3, h4, h5, _, _, _, h9⟩ := h
  have hBs := h4.1
  have hBel : Below (B + 1) wr w6 := (((Below.refl _ _).drew).alloc hBs ob).grown hg (by simp; omega) (fun q hq => (h2.lt q hq).1)
  refine ⟨(World.ownsRow.alloc (w := wr.drew) h1 ob).kept hg ?_, by rw [cellsS_app, List.length_append]; exact hown6, ?_, h4.below hBel (by omega), h5.below hBel (by omega), Below.trans h9 (Below.mono hBel (by omega))⟩
  · rcases h3 with h3 | h3
    · rw [h3]
      cases hv : rv.ownBlock with
      | none => exact Or.inl rfl
      | some g => exact Or.inr (by simp)
    · exact Or.inr (Ne.symm h3)
  · rcases hl with hl | hl
    · rw [hl]; exact h3
    · rw [hl]
      refine Or.inr (fun he => ?_)
      have := (h1.lt _ he.symm).2
      simp at this
      omega
theorem Next.stored {w wr : World} {B : Nat} {D : List Sd} {n : Int} {l : List Int} {rv sv u : Value} (h : Next w B n l rv sv D u wr) (hB : w.heap.size < B) : Next w B n l rv sv D sv (wr.setCell ⟨B, 2, none⟩ sv) :=
  ⟨ownsRow_setCell_below h.1 (a := ⟨B, 2, none⟩) (Nat.lt_succ_self _) _, ownsRow_setCell_below h.2.1 (a := ⟨B, 2, none⟩) (Nat.lt_succ_self _) _, h.2.2.1, h.2.2.2.1.set _, h.2.2.2.2.1.other _ (by omega), h.2.2.2.2.2.setCell (p := ⟨B, 2, none⟩) (by show w.heap.size ≤ B; omega) _⟩
theorem Next.led {w wr w8 : World} {B i : Nat} {S D : List Sd} {n : Int} {l l' : List Int} {rv sv v8 : Value} (h : Next w B n l rv sv D sv wr) (hown8 : w8.ownsRow wr.heap.size 2 1 v8 l'.length (l'.map (Value.int .i64))) (hb8 : Ext wr w8) (ho : Sm.ok l' = true) (hf : ∃ f, l'.length ≤ f ∧ D ++ Sm.sidesF f i l' = S) (hD : D.length ≤ 20) : Led w B S n i l' v8 sv D w8 := by
  obtain ⟨h1, h2, h3, h4, h5, h6⟩ := h
  have hBs := h4.1
  refine ⟨hown8.mono hBs, own_ext h2 hb8, ?_, h4.ext hb8, h5.ext hb8, ho, hf, hD, h6.trans hb8⟩
  cases hv : sv.ownBlock with
  | none => exact Or.inl rfl
  | some g =>
    refine Or.inr (fun he => ?_)
    have e1 := (h2.lt g hv).2
    have e2 := (hown8.lt g he.symm).1
    omega
theorem pret_fin {w w5 : World} {B : Nat} {v : Value} {S : List Sd} (x : Int) (h : Ext w w5 ∧ w5.ownsRow (B + 1) 59 2 v S.length (cellsS S)) (hW : w.heap.size < B) (a b c : Value) :
    PRet w 0 x S (.returned (pr 0 x v)) (((w5.setCell ⟨w.heap.size, 0, none⟩ a).setCell ⟨w.heap.size, 1, none⟩ b).setCell ⟨w.heap.size, 2, none⟩ c) := by
  obtain ⟨g, hg, hO⟩ := sown_of_owns h.2
  exact ⟨v, g, rfl, by omega, hO.upd' ((((Upd.refl _ _).setAt 0 a).setAt 1 b).setAt 2 c) (fun _ => by omega), h.1.three _ _ _⟩

set_option maxHeartbeats 4000000 in
set_option maxRecDepth 100000 in
theorem specProveZ_any (v : Value) (zs : List Zn) (p : ByteArray) (w : World) (hS : NSlice w v zs) :
    Calls Tryz.prog 7 #[v, .string p] w (PRet w (Sm.proveT zs p).1 (Sm.proveT zs p).2.1 (Sm.proveT zs p).2.2) := by
  have hi9 : (Tryz.prog.info? 59).map (fun i => (i.zero, i.size, i.bytes)) = some (some (.agg #[.bool false, .int .i64 0]), 2, 16) := by kernel_rfl
  obtain ⟨ti, hti, hxx⟩ := Option.map_eq_some_iff.1 hi9
  simp only [Prod.mk.injEq] at hxx
  obtain ⟨hz0, hz1, hz2⟩ := hxx
  clear hi9
  have HL : Hid (∀ wx : World, Ext w wx → Calls Tryz.prog 20 #[v, .string p] wx fun e w' => e = .returned (.int .i64 (Tre.asked zs p)) ∧ Ext wx w') := fun wx h => l2Asked_any v zs p wx (hS.ext h)
  have HT : Hid (∀ wx : World, Ext w wx → Calls Tryz.prog 21 #[v, .string p] wx fun e w' => e = .returned (.int .i64 (Tre.atI zs p)) ∧ w' = wx) := fun wx h => l2At_any v zs p wx (hS.ext h)
  have HS : Hid (NSlice w v zs) := hS
  obtain ⟨a, cap, rfl, hlc, hcm, hx⟩ := hS
  have HX : Hid (0 < zs.length → ∃ b off, a = some ⟨b, off, none⟩ ∧ b < w.heap.size ∧ NodesAt w b off zs) := hx
  clear hx
  unfold maxLen at hcm
  by_cases h0 : Tre.asked zs p ≠ 0
  · rw [Sm.proveT_bad rfl h0]
    generalize Tre.asked zs p = c at *
    clear hti hz0 hz1 hz2
    go_enter Tryz.func7, Tryz.ntmps7
    go_wp2_with fail
    refine (HL.out _ ((Ext.refl _).alloc _)).mono ?_
    rintro e w2 ⟨rfl, hb⟩
    have HB : Hid (Ext w w2) := ((Ext.refl _).alloc _).trans hb
    obtain ⟨q, q0, q1, q2, f0, f1, f2⟩ := (PBox.new w _).ext hb
    clear hb
    go_wp2
    exact bodyPost_ret (v := pr c 0 (.slice none 0 0)) (by simp [results, Tryz.results7, go_sem, pr, q0, q1, q2]) rfl (pret_bad _ (HB.out.three _ _ _))
  · have h00 : Tre.asked zs p = 0 := by omega
    rw [h00] at HL
    obtain ⟨h20, -, hpos, -⟩ := Tre.asked_len h00
    have hF : Tre.fault zs = 0 := (Tre.asked_fault h00).1
    rcases Tre.atI_range zs p with ⟨hm, -⟩ | ⟨k, z, hat, hkl, hzk, -⟩
    · rw [Sm.proveT_none h00 (by omega)]
      rw [hm] at HT
      clear hti hz0 hz1 hz2 h00 h0 hm hF
      go_enter Tryz.func7, Tryz.ntmps7
      go_wp2_with fail
      refine (HL.out _ ((Ext.refl _).alloc _)).mono ?_
      rintro e w2 ⟨rfl, hb⟩
      have HB : Hid (Ext w w2) := ((Ext.refl _).alloc _).trans hb
      have HQ2 : Hid (PBox w2 w.heap.size) := (PBox.new w _).ext hb
      clear hb
      go_wp2_with fail
      refine (HT.out _ HB.out).mono ?_
      rintro e w3 ⟨rfl, hw⟩
      subst hw
      obtain ⟨q, q0, q1, q2, f0, f1, f2⟩ := HQ2.out
      go_wp2
      exact bodyPost_ret (v := pr 4 0 (.slice none 0 0)) (by simp [results, Tryz.results7, go_sem, pr, q0, q1, q2]) rfl (pret_bad _ (HB.out.three _ _ _))
    · rw [hat] at HT
      have hzm : z ∈ zs := List.mem_of_getElem? hzk
      obtain ⟨hfz, hnz⟩ := Sm.nodeC_zero (fault_nodeC hF z hzm)
      have hs24 : z.path.size ≤ 24 := by have := fault_short hfz; rw [len_eq] at this; exact this
      obtain ⟨b, off, rfl, hb0, hN⟩ := HX.out hpos
      have HLf : Hid (∀ wx : World, Ext w wx → Calls Tryz.prog 22 #[.pointer (some ⟨b, off + k * 5, none⟩)] wx fun e w' => e = .returned (.int .i64 (Sm.leaf z)) ∧ Ext wx w') := fun wx he => l3Leaf_any b _ z wx ⟨Nat.lt_of_lt_of_le hb0 he.size, hN.ext hb0 he k z hzk⟩ hs24 hnz
      have HLv : Hid (∀ wx : World, Ext w wx → Calls Tryz.prog 23 #[.slice (some ⟨b, off, none⟩) zs.length cap] wx fun e w' => ∃ v', e = .returned v' ∧ w'.ownsRow wx.heap.size 2 1 v' (zs.map Sm.leaf).length ((zs.map Sm.leaf).map (Value.int .i64)) ∧ Ext wx w') := fun wx h => l3Leaves_own _ zs wx (HS.out.ext h) h20 (fault_nodeC hF)
      obtain ⟨l0, hl0⟩ : ∃ l0, l0 = zs.map Sm.leaf := ⟨_, rfl⟩
      have hk0 : k < l0.length := by rw [hl0]; simpa using hkl
      have hl20 : l0.length ≤ 20 := by rw [hl0]; simpa using h20
      have HO0 : Hid (Sm.ok l0 = true) := by rw [hl0]; exact Sm.leaves_ok zs
      have hx : l0[k]? = some (Sm.leaf z) := by rw [hl0, List.getElem?_map, hzk]; rfl
      rw [Sm.proveT_ok h00 hat (by rw [← hl0]; exact hx)]
      rw [← hl0] at HLv ⊢
      generalize Sm.leaf z = x at *
      obtain ⟨S, hSS⟩ : ∃ S, S = Sm.sidesF l0.length k l0 := ⟨_, rfl⟩
      have hS20 : S.length ≤ 20 := by rw [hSS]; have := Sm.sidesF_len l0.length k l0; omega
      have HSS : Hid (S = Sm.sidesF l0.length k l0) := hSS
      rw [← hSS]
      clear hSS hl0 hx h00 h0 hat hzk hF hfz hnz hN hb0 hzm
      go_enter Tryz.func7, Tryz.ntmps7
      go_wp2_with fail
      refine (HL.out _ ((Ext.refl _).alloc _)).mono ?_
      rintro e w2 ⟨rfl, hb⟩
      have HB : Hid (Ext w w2) := ((Ext.refl _).alloc _).trans hb
      have HQ2 : Hid (PBox w2 w.heap.size) := (PBox.new w _).ext hb
      clear hb
      go_wp2_with fail
      refine (HT.out _ HB.out).mono ?_
      rintro e w3 ⟨rfl, hw⟩
      subst hw
      go_wp2_with fail
      refine (HLf.out _ HB.out).mono ?_
      rintro e w4 ⟨rfl, hb⟩
      have HB4 : Hid (Ext w w4) := HB.out.trans hb
      have HQ4 : Hid (PBox w4 w.heap.size) := HQ2.out.ext hb
      clear hb
      go_wp2_with fail
      refine (HLv.out _ (HB4.out.alloc _)).mono ?_
      rintro e w5 ⟨v5, rfl, hown5, hb5⟩
      have HI5 : Hid (Led w w4.heap.size S x k l0 v5 (.slice none 0 0) [] w5) := ⟨by simpa using hown5, World.ownsRow_nil _ _ _ _, Or.inl rfl, (PBoxW.new w4 x _).ext hb5, (HQ4.out.ext ((Ext.refl _).alloc _)).ext hb5, HO0.out, ⟨l0.length, Nat.le_refl _, HSS.out.symm⟩, by simp, (HB4.out.alloc _).trans hb5⟩
      have hlt4 : w.heap.size < w4.heap.size := HQ4.out.1
      clear hown5 hb5
      go_wp2
      go_loopw [6, 8] (fun iv rv wr => ∃ (i : Nat) (l : List Int), iv = .int .i64 (i : Nat) ∧ i < l.length ∧ l.length ≤ 20 ∧ ∃ sv D, Hid (Led w w4.heap.size S x i l rv sv D wr)) (fun _ rv _ => lenOf rv)
      case atStart => exact ⟨k, l0, rfl, hk0, hl20, _, _, HI5⟩
      case round =>
        obtain ⟨i, l, rfl, hil, hl, sv, D, HLd⟩ := hrel
        obtain ⟨hrow, hsid, hdis, hPW, hPQ, hok, ⟨f, hf, hD⟩, hD20, hE⟩ := HLd.out
        obtain ⟨gr, cr, rfl⟩ := owns_some hrow (by omega)
        obtain ⟨sa, cs, rfl⟩ := owns_slice hsid
        obtain ⟨hlcr, hcr⟩ := owns_cap hrow
        have hgr : gr < wr.heap.size := (hrow.lt gr rfl).2
        unfold maxLen at hcr
        by_cases hlt : 1 < l.length
        · obtain ⟨f', hf1, hf2, -⟩ := Sm.sidesF_step (i := i) hlt hf
          have hul : (Sm.up l).length = (l.length + 1) / 2 := Sm.up_len l
          have HRw : Hid (∀ wx : World, wx.ownsRow (w4.heap.size + 1) 2 1 (.slice (some ⟨gr, 0, none⟩) l.length cr) l.length (l.map (Value.int .i64)) → Calls Tryz.prog 24 #[.slice (some ⟨gr, 0, none⟩) l.length cr] wx fun e w' => ∃ v', e = .returned v' ∧ w'.ownsRow wx.heap.size 2 1 v' (Sm.up l).length ((Sm.up l).map (Value.int .i64)) ∧ Ext wx w') := fun wx h => l3Row_own _ l wx (nums_of_owns4 h) hl hok
          have HO1 : Hid (Sm.ok (Sm.up l) = true) := Sm.up_ok l hok
          have HOd : Hid (wr.ownsRow (w4.heap.size + 1) 59 2 (.slice sa D.length cs) D.length (cellsS D)) := hsid
          have HPW : Hid (PBoxW wr w4.heap.size x (.slice sa D.length cs)) := hPW
          have c2 := hPW.2.2.2.1
          have hB4 : w4.heap.size < wr.heap.size := hPW.1
          clear hsid hdis hPW hPQ hok hE hf
          by_cases hodd : i % 2 = 1
          · skip
            obtain ⟨o, ho⟩ : ∃ o, o = i - 1 := ⟨_, rfl⟩
            obtain ⟨y, hy⟩ : ∃ y, l[o]? = some y := ⟨_, List.getElem?_eq_getElem (by omega)⟩
            have HD : Hid ((D ++ [⟨true, y⟩]) ++ Sm.sidesF f' (i / 2) (Sm.up l) = S) := by
              show _ = _
              rw [← hD, hf2, List.append_assoc]
              congr 2
              unfold Sm.sideAt
              rw [if_pos hodd]
              rw [List.getD_eq_getElem?_getD, ← ho, hy]
              rfl
            have hD5 : (D ++ [(⟨true, y⟩ : Sd)]).length ≤ 20 := by
              have h2 := congrArg List.length HD.out
              rw [List.length_append] at h2
              omega
            have hD6 : D.length + 1 ≤ 20 := by simpa using hD5
            have cy : wr.cell? ⟨gr, o, none⟩ = some (.int .i64 y) := by rw [hrow.cellAt o (by omega), List.getElem?_map, hy]; rfl
            have hk1 : (i : Int) - 1 = (o : Int) := by omega
            have i5 : (0 : Int) ≤ (o : Int) := by omega
            have i7 : (o : Int) < (l.length : Int) := by omega
            have i8 : IntKind.i64.wrap (o : Int) = (o : Int) := by rw [IntKind.wrap_i64]; omega
            have e1 : ((i : Int) % 2 == 1) = true := by simp; omega
            have hal := alloc_cell
            clear hD hf2 hy ho
            go_wp2
            go_region_law (refine step_append_at _ rfl (.tmp 36) (.tmp 43) 27 rfl (w4.heap.size + 1) 59 ti (.agg #[.bool false, .int .i64 0]) 2 16 Tryz.underlying27 hti hz0 hz1 hz2 rfl (by decide) (.slice sa D.length cs) D.length (cellsS D) (by simp [Act.eval]) (World.ownsRow.alloc (w := wr.drew) HOd.out _) ⟨wr.heap.size, 0, none⟩ 1 1 (cellsS [⟨true, y⟩]) (by simp [Act.eval]) rfl (cells_side wr.drew true y _) (cellsS_one _) (by unfold maxLen; omega) (by omega) (by have := HPW.out.1; simp; omega) ?_; intro v6 w6 hown6 hgrow6 hnil6; obtain ⟨s6, c6, rfl⟩ := owns_slice hown6; have HN6 : Hid (Next w w4.heap.size x l (.slice (some ⟨gr, 0, none⟩) l.length cr) (.slice s6 (D.length + 1) c6) (D ++ [⟨true, y⟩]) (.slice sa D.length cs) w6) := next_append HLd.out hlt4 hown6 hgrow6 hnil6; obtain ⟨q, q0, q1, q2, g0, g1, g2⟩ := HN6.out.2.2.2.1; clear hown6 hgrow6 hnil6)
            all_goals
              have HN7 : Hid (Next w w4.heap.size x l (.slice (some ⟨gr, 0, none⟩) l.length cr) (.slice s6 (D.length + 1) c6) (D ++ [⟨true, y⟩]) (.slice s6 (D.length + 1) c6) (w6.setCell ⟨w4.heap.size, 2, none⟩ (.slice s6 (D.length + 1) c6))) := HN6.out.stored hlt4
              clear q q0 q1 q2 g0 g1 g2 hk1 i5 i7 i8 cy c2
              go_wp2_with fail
              refine (HRw.out _ HN7.out.1).mono ?_
              rintro e w8 ⟨v8, rfl, hown8, hb8⟩
              have HI8 : Hid (Led w w4.heap.size S x (i / 2) (Sm.up l) v8 (.slice s6 (D.length + 1) c6) (D ++ [⟨true, y⟩]) w8) := HN7.out.led hown8 hb8 HO1.out ⟨f', hf1, HD.out⟩ hD5
              have hv8 : lenOf v8 = (Sm.up l).length := owns_len hown8
              clear hown8 hb8
              go_wp2
              exact ⟨⟨i / 2, Sm.up l, by go_num, Sm.half_lt hil, by omega, _, _, HI8⟩, by rw [hv8, hul]; simp [lenOf]; omega⟩

          · by_cases hin : i + 1 < l.length
            · skip
              obtain ⟨o, ho⟩ : ∃ o, o = i + 1 := ⟨_, rfl⟩
              obtain ⟨y, hy⟩ : ∃ y, l[o]? = some y := ⟨_, List.getElem?_eq_getElem (by omega)⟩
              have HD : Hid ((D ++ [⟨false, y⟩]) ++ Sm.sidesF f' (i / 2) (Sm.up l) = S) := by
                show _ = _
                rw [← hD, hf2, List.append_assoc]
                congr 2
                unfold Sm.sideAt
                rw [if_neg hodd, if_pos hin]
                rw [List.getD_eq_getElem?_getD, ← ho, hy]
                rfl
              have hD5 : (D ++ [(⟨false, y⟩ : Sd)]).length ≤ 20 := by
                have h2 := congrArg List.length HD.out
                rw [List.length_append] at h2
                omega
              have hD6 : D.length + 1 ≤ 20 := by simpa using hD5
              have cy : wr.cell? ⟨gr, o, none⟩ = some (.int .i64 y) := by rw [hrow.cellAt o (by omega), List.getElem?_map, hy]; rfl
              have hk1 : (i : Int) + 1 = (o : Int) := by omega
              have i5 : (0 : Int) ≤ (o : Int) := by omega
              have i7 : (o : Int) < (l.length : Int) := by omega
              have i8 : IntKind.i64.wrap (o : Int) = (o : Int) := by rw [IntKind.wrap_i64]; omega
              have e1 : ((i : Int) % 2 == 1) = false := by simp; omega
              have hal := alloc_cell
              clear hD hf2 hy ho
              go_wp2
              go_region_law (refine step_append_at _ rfl (.tmp 52) (.tmp 59) 27 rfl (w4.heap.size + 1) 59 ti (.agg #[.bool false, .int .i64 0]) 2 16 Tryz.underlying27 hti hz0 hz1 hz2 rfl (by decide) (.slice sa D.length cs) D.length (cellsS D) (by simp [Act.eval]) (World.ownsRow.alloc (w := wr.drew) HOd.out _) ⟨wr.heap.size, 0, none⟩ 1 1 (cellsS [⟨false, y⟩]) (by simp [Act.eval]) rfl (cells_side wr.drew false y _) (cellsS_one _) (by unfold maxLen; omega) (by omega) (by have := HPW.out.1; simp; omega) ?_; intro v6 w6 hown6 hgrow6 hnil6; obtain ⟨s6, c6, rfl⟩ := owns_slice hown6; have HN6 : Hid (Next w w4.heap.size x l (.slice (some ⟨gr, 0, none⟩) l.length cr) (.slice s6 (D.length + 1) c6) (D ++ [⟨false, y⟩]) (.slice sa D.length cs) w6) := next_append HLd.out hlt4 hown6 hgrow6 hnil6; obtain ⟨q, q0, q1, q2, g0, g1, g2⟩ := HN6.out.2.2.2.1; clear hown6 hgrow6 hnil6)
              all_goals
                have HN7 : Hid (Next w w4.heap.size x l (.slice (some ⟨gr, 0, none⟩) l.length cr) (.slice s6 (D.length + 1) c6) (D ++ [⟨false, y⟩]) (.slice s6 (D.length + 1) c6) (w6.setCell ⟨w4.heap.size, 2, none⟩ (.slice s6 (D.length + 1) c6))) := HN6.out.stored hlt4
                clear q q0 q1 q2 g0 g1 g2 hk1 i5 i7 i8 cy c2
                go_wp2_with fail
                refine (HRw.out _ HN7.out.1).mono ?_
                rintro e w8 ⟨v8, rfl, hown8, hb8⟩
                have HI8 : Hid (Led w w4.heap.size S x (i / 2) (Sm.up l) v8 (.slice s6 (D.length + 1) c6) (D ++ [⟨false, y⟩]) w8) := HN7.out.led hown8 hb8 HO1.out ⟨f', hf1, HD.out⟩ hD5
                have hv8 : lenOf v8 = (Sm.up l).length := owns_len hown8
                clear hown8 hb8
                go_wp2
                exact ⟨⟨i / 2, Sm.up l, by go_num, Sm.half_lt hil, by omega, _, _, HI8⟩, by rw [hv8, hul]; simp [lenOf]; omega⟩

            · have HD : Hid (D ++ Sm.sidesF f' (i / 2) (Sm.up l) = S) := by
                show _ = _
                rw [← hD, hf2]
                unfold Sm.sideAt
                rw [if_neg hodd, if_neg hin, List.nil_append]
              have e1 : ((i : Int) % 2 == 1) = false := by simp; omega
              have i9 : ¬ (i : Int) + 1 < (l.length : Int) := by omega
              clear hD hf2
              go_wp2_with fail
              refine (HRw.out _ hrow).mono ?_
              rintro e w8 ⟨v8, rfl, hown8, hb8⟩
              have HI8 : Hid (Led w w4.heap.size S x (i / 2) (Sm.up l) v8 (.slice sa D.length cs) D w8) := (next_same HLd.out).led hown8 hb8 HO1.out ⟨f', hf1, HD.out⟩ hD20
              have hv8 : lenOf v8 = (Sm.up l).length := owns_len hown8
              clear hown8 hb8
              go_wp2
              exact ⟨⟨i / 2, Sm.up l, by go_num, Sm.half_lt hil, by omega, _, _, HI8⟩, by rw [hv8, hul]; simp [lenOf]; omega⟩
        · have HF : Hid ((Ext w wr ∧ wr.ownsRow (w4.heap.size + 1) 59 2 (.slice sa D.length cs) S.length (cellsS S)) ∧ D = S) := by
            rw [Sm.sidesF_end hlt, List.append_nil] at hD
            subst hD
            exact ⟨⟨hE, hsid⟩, rfl⟩
          obtain ⟨q, q0, q1, q2, g0, g1, g2⟩ := hPW
          obtain ⟨t, t0, t1, t2, u0, u1, u2⟩ := hPQ
          clear hrow hsid hdis hok hf hD hE
          go_wp2
          exact bodyPost_ret (v := pr 0 x (.slice sa D.length cs)) (by simp [results, Tryz.results7, go_sem, pr, t0, t1, t2]) rfl (pret_fin x HF.out.1 hlt4 _ _ _)

end Go.Proofs.YtilinjjimiiplaaGreatDoor
