/- the program's words of a message. -/
import Derived.Test.YtpncnfodgfldlaaDoorLxTX1
import Derived.Test.YtpncnfodgfldlaaDoorLxTk
namespace Go.Proofs.YtpncnfodgfldlaaDoor
open Go.RowKit
theorem owns_extM {B : Nat} {e : TypeId} {k : Nat} {v : Value} {n : Nat} {xs : List Value} {w w' : World} (h : w.ownsRow B e k v n xs) (hb : Ext w w') : w'.ownsRow B e k v n xs := by
  refine ⟨h.1, ?_⟩
  rcases h.2 with h0 | ⟨g, cap, cur, h1, h2, h3, h4⟩
  · exact .inl h0
  · exact .inr ⟨g, cap, cur, h1, h2, (Below.block hb g (Array.getElem?_eq_some_iff.1 h3).1).trans h3, h4⟩
theorem owns_formM {w : World} {B : Nat} {e : TypeId} {s : Nat} {v : Value} {n : Nat} {xs : List Value} (h : w.ownsRow B e s v n xs) : ∃ a c, v = .slice a n c := by
  rcases h.2 with ⟨hv, h0⟩ | ⟨g, cap, cur, hv, -⟩
  · exact ⟨none, 0, by rw [hv, h0]⟩
  · exact ⟨_, cap, hv⟩
theorem cellM_two (w : World) (x y : Value) (t : TypeId) : ∀ j u, [x, y][j]? = some u → (w.alloc (.cells #[x, y] t)).cell? ((⟨w.heap.size, 0, none⟩ : Addr).add j) = some u := by
  intro j u h
  match j, h with
  | 0, h => simp at h; subst h; simp [Addr.add]
  | 1, h => simp at h; subst h; simp [Addr.add]
  | j + 2, h => simp at h
theorem step_appendM {P : Program} (w : World) {ops : Array Oper} {o : Oper} {a : Act} {K : Act → World → Prop} {Q : Exit → Act → World → Prop} {E : Prop} (hgd : o.guard = none) (s x : Operand) (t : TypeId)
    (ho : o.op = .call { callee := .builtin .append, args := #[s, x], argTypes := #[t, t] })
    (base : Nat) (e : TypeId) (i : TypeInfo) (z : Value) (size bytes : Nat) (ht : P.underlying t = some (.slice e)) (hi : P.info? e = some i) (hz : i.zero = some z)
    (hsize : i.size = size) (hby : i.bytes = bytes) (hzs : z.cells.size = size) (hsz : 0 < size)
    (v : Value) (n : Nat) (xs : List Value) (hs : a.eval s = v) (hown : w.ownsRow base e size v n xs)
    (ad : Addr) (m c : Nat) (news : List Value) (hx : a.eval x = .slice (some ad) m c) (hl : news.length = m * size) (hnews : ∀ j u, news[j]? = some u → w.cell? (ad.add j) = some u) (h1 : ∀ u ∈ news, u.oneCell' = true)
    (h63 : n + m ≤ maxLen) (hbytes : (n + m) * bytes ≤ 140737488355328) (hbase : base ≤ w.heap.size)
    (h : ∀ v' w', w'.ownsRow base e size v' (n + m) (xs ++ news) → w.grownBy w' v.ownBlock → (v' = .slice none 0 0 ↔ v = .slice none 0 0 ∧ m = 0) → K (a.put o.dst v') w') :
    if Region.wanted o (yielded ops a.tmps) = true then Oper.wp P o a w K Q else E := by
  have hw : Region.wanted o (yielded ops a.tmps) = true := by simp [Region.wanted, hgd]
  rw [if_pos hw]
  exact wp_append_own w s x t ho base e i z size bytes ht hi hz hsize hby hzs hsz v n xs hs hown ad m c news hx hl hnews h1 h63 hbytes hbase h
theorem take_map {α β : Type} {l : List α} {k : Nat} {z : α} {f : α → β} {bw : List β} (h : l[k]? = some z) : bw ++ (l.take (k + 1)).map f = (bw ++ (l.take k).map f) ++ [f z] := by
  obtain ⟨hk, rfl⟩ := List.getElem?_eq_some_iff.1 h
  rw [List.take_succ_eq_append_getElem hk, List.map_append, List.append_assoc]
  rfl
theorem Msg.slotW_yes {m : Ms} (h : m.kind ≤ 3) : Msg.slotW m = [Lib.itoa m.slot, Lib.itoa m.value] := by unfold Msg.slotW; rw [if_pos h]
theorem Msg.slotW_no {m : Ms} (h : ¬ m.kind ≤ 3) : Msg.slotW m = [] := by unfold Msg.slotW; rw [if_neg h]
set_option linter.unusedSimpArgs false in
set_option maxHeartbeats 8000000 in
set_option maxRecDepth 100000 in
theorem words_any (m : Ms) (v u : Value) (w : World) (hS : MLs w v u m) (hF : Msg.Fine m) (ht : Tb w) : Calls Tryd.prog 31 #[pagg m v u] w fun e w' => ∃ (B : Nat) (v' : Value), e = .returned v' ∧ w'.ownsRow B 9 1 v' (Msg.msgW m).length ((Msg.msgW m).map fun x => Value.string (mkB x)) ∧ Ext w w' := by
  have HS : Hid (MLs w v u m) := hS
  have hi9 : (Tryd.prog.info? 9).map (fun i => (i.zero, i.size, i.bytes)) = some (some (.string ByteArray.empty), 1, 16) := by kernel_rfl
  obtain ⟨ti, hti, hxx⟩ := Option.map_eq_some_iff.1 hi9
  simp only [Prod.mk.injEq] at hxx
  obtain ⟨hz0, hz1, hz2⟩ := hxx
  clear hi9
  obtain ⟨a, c, a', c', rfl, rfl, hc1, hc2, hc3, hc4⟩ := hS.form
  unfold maxLen at hc2 hc4
  clear hS
  have HX5 : Hid (0 < m.certs.length → ∃ b off, a = some ⟨b, off, none⟩ ∧ b < w.heap.size ∧ CtsAt w b off m.certs) := by
    obtain ⟨⟨a0, c0, h1, -, -, h4⟩, -⟩ := HS.out
    injection h1 with h1 _ _; subst h1; exact h4
  have HX6 : Hid (0 < m.refs.length → ∃ b off, a' = some ⟨b, off, none⟩ ∧ b < w.heap.size ∧ NumsAt w b off m.refs) := by
    obtain ⟨-, ⟨a0, c0, h1, -, -, h4⟩⟩ := HS.out
    injection h1 with h1 _ _; subst h1; exact h4
  clear HS
  obtain ⟨hk, hv, hfr, hsl, hba, hmn, hce, hre⟩ := hF
  have HCe : Hid (∀ c ∈ m.certs, 1 ≤ c.slot ∧ c.slot ≤ 30 ∧ 0 ≤ c.view ∧ c.view ≤ 20 ∧ 0 ≤ c.value ∧ c.value ≤ 12) := hce
  have HRe : Hid (∀ r ∈ m.refs, 0 ≤ r ∧ r ≤ 239) := hre
  clear hce hre hba
  have W0x : Hid (∀ wx : World, Ext (w.alloc (.cells #[.int .i64 m.view, .int .i64 m.kind, .int .i64 m.from_, .int .i64 m.slot, .int .i64 m.value, .slice a m.certs.length c, .slice a' m.refs.length c'] 64)) wx → Ext w wx) := fun wx he => ((Ext.refl _).alloc _).trans he
  have HTb : Hid (∀ wx : World, Ext (w.alloc (.cells #[.int .i64 m.view, .int .i64 m.kind, .int .i64 m.from_, .int .i64 m.slot, .int .i64 m.value, .slice a m.certs.length c, .slice a' m.refs.length c'] 64)) wx → Tb wx) := fun wx he => ht.ext (W0x.out _ he)
  have HMw : Hid (∀ wx : World, Ext (w.alloc (.cells #[.int .i64 m.view, .int .i64 m.kind, .int .i64 m.from_, .int .i64 m.slot, .int .i64 m.value, .slice a m.certs.length c, .slice a' m.refs.length c'] 64)) wx → Calls Tryd.prog 55 #[.int .i64 m.kind] wx fun e w' => e = .returned (.string (mkB (Msg.kindW m.kind))) ∧ Ext wx w') := fun wx _ => msgWord_any m.kind wx
  have HVw : Hid (∀ wx : World, Ext (w.alloc (.cells #[.int .i64 m.view, .int .i64 m.kind, .int .i64 m.from_, .int .i64 m.slot, .int .i64 m.value, .slice a m.certs.length c, .slice a' m.refs.length c'] 64)) wx → Calls Tryd.prog 56 #[.agg #[.int .i64 m.view]] wx fun e w' => e = .returned (.string (mkB (Lib.itoa m.view))) ∧ Ext wx w') := fun wx he => viewText_any _ wx (by omega) (by omega) (ht.ext (W0x.out _ he))
  have HFr : Hid (∀ wx : World, Ext (w.alloc (.cells #[.int .i64 m.view, .int .i64 m.kind, .int .i64 m.from_, .int .i64 m.slot, .int .i64 m.value, .slice a m.certs.length c, .slice a' m.refs.length c'] 64)) wx → Calls Tryd.prog 57 #[.int .i64 m.from_] wx fun e w' => e = .returned (.string (mkB (Lib.itoa m.from_))) ∧ Ext wx w') := fun wx he => numberText_any _ wx (by omega) (by omega) (ht.ext (W0x.out _ he))
  have HSw : Hid (∀ wx : World, Ext (w.alloc (.cells #[.int .i64 m.view, .int .i64 m.kind, .int .i64 m.from_, .int .i64 m.slot, .int .i64 m.value, .slice a m.certs.length c, .slice a' m.refs.length c'] 64)) wx → (fun W' : World => W'.cell? ⟨w.heap.size, 0, none⟩ = some (.int .i64 m.view) ∧ W'.cell? ⟨w.heap.size, 1, none⟩ = some (.int .i64 m.kind) ∧ W'.cell? ⟨w.heap.size, 2, none⟩ = some (.int .i64 m.from_) ∧ W'.cell? ⟨w.heap.size, 3, none⟩ = some (.int .i64 m.slot) ∧ W'.cell? ⟨w.heap.size, 4, none⟩ = some (.int .i64 m.value)) wx) := fun wx he => by
    obtain ⟨-, x0, x1, x2, x3, x4, -, -⟩ := (pbox_new w m (.slice a m.certs.length c) (.slice a' m.refs.length c') _).ext he
    exact ⟨x0, x1, x2, x3, x4⟩
  have HPx : Hid (∀ wx : World, Ext (w.alloc (.cells #[.int .i64 m.view, .int .i64 m.kind, .int .i64 m.from_, .int .i64 m.slot, .int .i64 m.value, .slice a m.certs.length c, .slice a' m.refs.length c'] 64)) wx → PBoxAt wx w.heap.size m (.slice a m.certs.length c) (.slice a' m.refs.length c')) := fun wx he => (pbox_new w m _ _ _).ext he
  have HOs : Hid (∀ wx : World, Calls Tryd.prog 58 #[pagg m (.slice a m.certs.length c) (.slice a' m.refs.length c')] wx fun e w' => e = .returned (.bool (decide (1 ≤ m.kind) && decide (m.kind ≤ 3))) ∧ Ext wx w') := fun wx => isOfSlot_any m a a' _ _ c c' wx
  unfold pagg at *
  have HBw : Hid ((Msg.headW m ++ Msg.slotW m).length ≤ 5) := by
    show (Msg.headW m ++ Msg.slotW m).length ≤ 5
    unfold Msg.headW Msg.slotW
    split <;> simp
  by_cases hk3 : m.kind ≤ 3
  · have q13 : (decide (1 ≤ m.kind) && decide (m.kind ≤ 3)) = true := by simp; omega
    rw [q13] at HOs
    obtain ⟨hs0, hs1, hs2, hs3⟩ := hsl hk3
    have HSl : Hid (∀ wx : World, Ext (w.alloc (.cells #[.int .i64 m.view, .int .i64 m.kind, .int .i64 m.from_, .int .i64 m.slot, .int .i64 m.value, .slice a m.certs.length c, .slice a' m.refs.length c'] 64)) wx → Calls Tryd.prog 57 #[.int .i64 m.slot] wx fun e w' => e = .returned (.string (mkB (Lib.itoa m.slot))) ∧ Ext wx w') := fun wx he => numberText_any _ wx (by omega) (by omega) (ht.ext (W0x.out _ he))
    have HVl : Hid (∀ wx : World, Ext (w.alloc (.cells #[.int .i64 m.view, .int .i64 m.kind, .int .i64 m.from_, .int .i64 m.slot, .int .i64 m.value, .slice a m.certs.length c, .slice a' m.refs.length c'] 64)) wx → Calls Tryd.prog 57 #[.int .i64 m.value] wx fun e w' => e = .returned (.string (mkB (Lib.itoa m.value))) ∧ Ext wx w') := fun wx he => numberText_any _ wx (by omega) (by omega) (ht.ext (W0x.out _ he))
    have HH : Hid ([Value.string (mkB (Msg.kindW m.kind)), .string (mkB (Lib.itoa m.view)), .string (mkB (Lib.itoa m.from_)), .string (mkB (Lib.itoa m.slot)), .string (mkB (Lib.itoa m.value))] = (Msg.headW m ++ Msg.slotW m).map fun x => Value.string (mkB x)) := by
      show _ = _
      rw [Msg.slotW_yes hk3]
      rfl
    generalize mkB (Msg.kindW m.kind) = s0 at *
    generalize mkB (Lib.itoa m.view) = s1 at *
    generalize mkB (Lib.itoa m.from_) = s2 at *
    generalize mkB (Lib.itoa m.slot) = s3 at *
    generalize mkB (Lib.itoa m.value) = s4 at *
    clear hsl hs0 hs1 hs2 hs3 hk3 q13
    go_enter Tryd.func31, Tryd.ntmps31
    go_wp2
    have hW0s : (w.alloc (.cells #[.int .i64 m.view, .int .i64 m.kind, .int .i64 m.from_, .int .i64 m.slot, .int .i64 m.value, .slice a m.certs.length c, .slice a' m.refs.length c'] 64)).heap.size = w.heap.size + 1 := by simp
    generalize hW0 : (w.alloc (.cells #[.int .i64 m.view, .int .i64 m.kind, .int .i64 m.from_, .int .i64 m.slot, .int .i64 m.value, .slice a m.certs.length c, .slice a' m.refs.length c'] 64)) = W0 at *
    clear hW0
    refine wp_region_held_drew (S := (fun W' : World => W'.cell? ⟨w.heap.size, 0, none⟩ = some (.int .i64 m.view) ∧ W'.cell? ⟨w.heap.size, 1, none⟩ = some (.int .i64 m.kind) ∧ W'.cell? ⟨w.heap.size, 2, none⟩ = some (.int .i64 m.from_) ∧ W'.cell? ⟨w.heap.size, 3, none⟩ = some (.int .i64 m.slot) ∧ W'.cell? ⟨w.heap.size, 4, none⟩ = some (.int .i64 m.value))) (by kernel_rfl) (HSw.out _ ((Ext.refl _).drew)) (fun hHeld => ?_)
    refine tk 0 { dst := some 8, op := Op.fieldAddr 64 (.tmp 1) 1, type := 0, pos := "l08_msg.go:300", after := #[], guard := none } ?_
    refine tk 1 { dst := some 9, op := Op.load 2 (.tmp 8), type := 2, pos := "l08_msg.go:300", after := #[⟨0, .data⟩], guard := none } ?_
    refine tk 3 { dst := some 11, op := Op.fieldAddr 64 (.tmp 1) 0, type := 0, pos := "l08_msg.go:300", after := #[], guard := none } ?_
    refine tk 4 { dst := some 12, op := Op.load 62 (.tmp 11), type := 62, pos := "l08_msg.go:300", after := #[⟨3, .data⟩], guard := none } ?_
    refine tk 6 { dst := some 14, op := Op.fieldAddr 64 (.tmp 1) 2, type := 0, pos := "l08_msg.go:300", after := #[], guard := none } ?_
    refine tk 7 { dst := some 15, op := Op.load 2 (.tmp 14), type := 2, pos := "l08_msg.go:300", after := #[⟨6, .data⟩], guard := none } ?_
    refine wpAnyH_ready (rs := [2]) (by kernel_rfl) (by simp) (AllReadyH.cons rfl (fun K hK => ?_) AllReadyH.nil)
    go_simp
    refine (HMw.out _ (((Ext.refl _).drew))).mono ?_
    rintro e y1 ⟨rfl, hb⟩
    have F1 : Hid (Ext W0 y1) := ((Ext.refl _).drew).trans hb
    refine hK.out _ _ (HSw.out _ F1.out) (fun hHeld1 => ?_)
    clear hK K hb
    refine wpAnyH_ready (rs := [5]) (by kernel_rfl) (by simp) (AllReadyH.cons rfl (fun K hK => ?_) AllReadyH.nil)
    go_simp
    refine (HVw.out _ (F1.out)).mono ?_
    rintro e y2 ⟨rfl, hb⟩
    have F2 : Hid (Ext W0 y2) := F1.out.trans hb
    refine hK.out _ _ (HSw.out _ F2.out) (fun hHeld2 => ?_)
    clear hK K hb
    refine wpAnyH_ready (rs := [8]) (by kernel_rfl) (by simp) (AllReadyH.cons rfl (fun K hK => ?_) AllReadyH.nil)
    go_simp
    refine (HFr.out _ (F2.out)).mono ?_
    rintro e y3 ⟨rfl, hb⟩
    have F3 : Hid (Ext W0 y3) := F2.out.trans hb
    refine hK.out _ _ (HSw.out _ F3.out) (fun hHeld3 => ?_)
    clear hK K hb
    refine wpAnyH_ready (rs := [9]) (by kernel_rfl) (by simp) (AllReadyH.cons rfl (fun K hK => ?_) AllReadyH.nil)
    go_simp
    refine hK.out _ _ (HSw.out _ (F3.out.alloc _)) (fun hHeld4 => ?_)
    clear hK K
    refine tk 10 { dst := some 3, op := Op.assign (.tmp 17), type := 60, pos := "l08_msg.go:300", after := #[⟨9, .data⟩, ⟨8, .chain⟩, ⟨0, .phase⟩, ⟨1, .phase⟩, ⟨2, .phase⟩, ⟨3, .phase⟩, ⟨4, .phase⟩, ⟨5, .phase⟩, ⟨6, .phase⟩, ⟨7, .phase⟩, ⟨8, .phase⟩, ⟨9, .phase⟩], guard := none } ?_
    refine wpAnyH_done (by kernel_rfl) ?_ _
    have F4 : Hid (Ext W0 (y3.alloc (.cells #[.string s0, .string s1, .string s2] 9))) := F3.out.alloc _
    have O4 : Hid ((y3.alloc (.cells #[.string s0, .string s1, .string s2] 9)).ownsRow (w.heap.size + 1) 9 1 (.slice (some ⟨y3.heap.size, 0, none⟩) 3 3) 3 [.string s0, .string s1, .string s2]) := ⟨rfl, .inr ⟨y3.heap.size, 3, #[.string s0, .string s1, .string s2], rfl, by have := F3.out.size; omega, heap_alloc_new y3 _, Nat.le_refl _, by unfold maxLen; omega, rfl, rfl⟩⟩
    generalize (y3.alloc (.cells #[.string s0, .string s1, .string s2] 9)) = Y4 at *
    generalize y3.heap.size = gy at *
    obtain ⟨hbl, c0, c1, c2, c3, c4, c5, c6⟩ := HPx.out _ F4.out
    go_wp2_with fail
    refine (HOs.out _).mono ?_
    rintro e Y5 ⟨rfl, hb⟩
    have G0 : Hid (Ext W0 Y5) := F4.out.trans hb
    have O5 : Hid (Y5.ownsRow (w.heap.size + 1) 9 1 (.slice (some ⟨gy, 0, none⟩) 3 3) 3 [.string s0, .string s1, .string s2]) := owns_extM O4.out hb
    clear hb hbl c0 c1 c2 c3 c4 c5 c6 O4 F4
    go_wp2
    refine wp_region_held_drew (S := (fun W' : World => W'.cell? ⟨w.heap.size, 0, none⟩ = some (.int .i64 m.view) ∧ W'.cell? ⟨w.heap.size, 1, none⟩ = some (.int .i64 m.kind) ∧ W'.cell? ⟨w.heap.size, 2, none⟩ = some (.int .i64 m.from_) ∧ W'.cell? ⟨w.heap.size, 3, none⟩ = some (.int .i64 m.slot) ∧ W'.cell? ⟨w.heap.size, 4, none⟩ = some (.int .i64 m.value))) (by kernel_rfl) (HSw.out _ (G0.out.drew)) (fun hHeld => ?_)
    refine tk 0 { dst := some 20, op := Op.move (.tmp 3), type := 60, pos := "l08_msg.go:302", after := #[], guard := none } ?_
    refine tk 1 { dst := some 21, op := Op.fieldAddr 64 (.tmp 1) 3, type := 0, pos := "l08_msg.go:302", after := #[], guard := none } ?_
    refine tk 2 { dst := some 22, op := Op.load 2 (.tmp 21), type := 2, pos := "l08_msg.go:302", after := #[⟨1, .data⟩], guard := none } ?_
    refine tk 4 { dst := some 24, op := Op.fieldAddr 64 (.tmp 1) 4, type := 0, pos := "l08_msg.go:302", after := #[], guard := none } ?_
    refine tk 5 { dst := some 25, op := Op.load 2 (.tmp 24), type := 2, pos := "l08_msg.go:302", after := #[⟨4, .data⟩], guard := none } ?_
    refine wpAnyH_ready (rs := [3]) (by kernel_rfl) (by simp) (AllReadyH.cons rfl (fun K hK => ?_) AllReadyH.nil)
    go_simp
    refine (HSl.out _ ((G0.out.drew))).mono ?_
    rintro e x1 ⟨rfl, hb⟩
    have G1 : Hid (Ext W0 x1) := (G0.out.drew).trans hb
    refine hK.out _ _ (HSw.out _ G1.out) (fun hHeld6 => ?_)
    have GX0 : Hid (Ext Y5 x1) := ((Ext.refl _).drew).trans hb
    clear hK K hb
    refine wpAnyH_ready (rs := [6]) (by kernel_rfl) (by simp) (AllReadyH.cons rfl (fun K hK => ?_) AllReadyH.nil)
    go_simp
    refine (HVl.out _ (G1.out)).mono ?_
    rintro e x2 ⟨rfl, hb⟩
    have G2 : Hid (Ext W0 x2) := G1.out.trans hb
    refine hK.out _ _ (HSw.out _ G2.out) (fun hHeld7 => ?_)
    have GX : Hid (Ext Y5 x2) := GX0.out.trans hb
    clear hK K hb
    refine wpAnyH_ready (rs := [7]) (by kernel_rfl) (by simp) (AllReadyH.cons rfl (fun K hK => ?_) AllReadyH.nil)
    go_simp
    refine hK.out _ _ (HSw.out _ (G2.out.alloc _)) (fun hHeld8 => ?_)
    clear hK K
    refine wpAnyH_ready (rs := [8]) (by kernel_rfl) (by simp) (AllReadyH.cons rfl (fun K hK => ?_) AllReadyH.nil)
    refine step_appendM _ rfl (.tmp 20) (.tmp 27) 60 rfl (w.heap.size + 1) 9 ti (.string ByteArray.empty) 1 16 Tryd.underlying60 hti hz0 hz1 hz2 rfl (by decide) (.slice (some ⟨gy, 0, none⟩) 3 3) 3 [.string s0, .string s1, .string s2] (by simp [Act.eval]) ((owns_extM O5.out GX.out).alloc _) ⟨x2.heap.size, 0, none⟩ 2 2 [.string s3, .string s4] (by simp [Act.eval]) rfl (cellM_two _ _ _ _) (fun x hx => by simp at hx; rcases hx with rfl | rfl <;> rfl) (by unfold maxLen; omega) (by omega) (by have := G2.out.size; simp; omega) ?_
    intro v9 w9 hown9 hgrow9 hnil9
    obtain ⟨a9, c9, rfl⟩ := owns_formM hown9
    have FL : Hid (Ext W0 w9) := Below.grown (G2.out.alloc _) hgrow9 (by have := G2.out.size; simp; omega) (fun q hq => by have := (O5.out.lt q hq).1; omega)
    have OL0 : Hid (w9.ownsRow (w.heap.size + 1) 9 1 (.slice a9 (3 + 2) c9) (3 + 2) ([.string s0, .string s1, .string s2] ++ [.string s3, .string s4])) := hown9
    refine hK.out _ _ (HSw.out _ FL.out) (fun hHeld9 => ?_)
    clear hK K hown9 hgrow9 hnil9
    refine tk 9 { dst := some 3, op := Op.assign (.tmp 28), type := 60, pos := "l08_msg.go:302", after := #[⟨8, .data⟩, ⟨8, .chain⟩, ⟨0, .phase⟩, ⟨1, .phase⟩, ⟨2, .phase⟩, ⟨3, .phase⟩, ⟨4, .phase⟩, ⟨5, .phase⟩, ⟨6, .phase⟩, ⟨7, .phase⟩, ⟨8, .phase⟩], guard := none } ?_
    refine wpAnyH_done (by kernel_rfl) ?_ _
    have OL : Hid (w9.ownsRow (w.heap.size + 1) 9 1 (.slice a9 (3 + 2) c9) (Msg.headW m ++ Msg.slotW m).length ((Msg.headW m ++ Msg.slotW m).map fun x => Value.string (mkB x))) := by
      have h := OL0.out
      have hl : (Msg.headW m ++ Msg.slotW m).length = 3 + 2 := by have h2 := congrArg List.length HH.out; simpa using h2.symm
      rw [hl]
      rw [show ([Value.string s0, .string s1, .string s2] ++ [.string s3, .string s4]) = [Value.string s0, .string s1, .string s2, .string s3, .string s4] from rfl, HH.out] at h
      exact h
    clear OL0 O5 G0 G1 G2 GX GX0
    obtain ⟨hbl, c0, c1, c2, c3, c4, c5, c6⟩ := HPx.out _ FL.out
    go_wp2
    go_loopw [3, 32] (fun ov i wr => ∃ (k : Nat), k ≤ m.certs.length ∧ i = .int .i64 k ∧ Hid (wr.ownsRow (w.heap.size + 1) 9 1 ov (Msg.headW m ++ Msg.slotW m ++ (m.certs.take k).map Msg.certW).length ((Msg.headW m ++ Msg.slotW m ++ (m.certs.take k).map Msg.certW).map fun x => Value.string (mkB x))) ∧ Hid (Ext W0 wr)) (fun _ i _ => m.certs.length - (intOf i).toNat)
    case atStart => exact ⟨0, Nat.zero_le _, rfl, (by have h := OL.out; simp only [List.take_zero, List.map_nil, List.append_nil]; exact h), FL.out⟩
    case round =>
      obtain ⟨k, hk, rfl, HO, HE⟩ := hrel
      obtain ⟨hbl, c0, c1, c2, c3, c4, c5, c6⟩ := HPx.out _ HE.out
      by_cases hlt : k < m.certs.length
      · obtain ⟨z, hzk⟩ : ∃ z, m.certs[k]? = some z := ⟨_, List.getElem?_eq_getElem hlt⟩
        obtain ⟨b, off, rfl, hb, hN⟩ := HX5.out (by omega)
        obtain ⟨d0, d1, d2⟩ := hN.ext hb (W0x.out _ HE.out) k z hzk
        have HCo : Hid (∀ wx : World, Calls Tryd.prog 59 #[ctagg z] wx fun e w' => e = .returned (.agg #[.int .i64 z.view, .int .i64 z.slot, .int .i64 z.value]) ∧ Ext wx w') := fun wx => certificateOf_any z wx
        have HTx : Hid (∀ wx : World, Ext W0 wx → Calls Tryd.prog 60 #[.agg #[.int .i64 z.view, .int .i64 z.slot, .int .i64 z.value]] wx fun e w' => e = .returned (.string (mkB (Msg.certW z))) ∧ Ext wx w') := fun wx he => certText_any z wx (HCe.out z (List.mem_of_getElem? hzk)) (HTb.out _ he)
        have HK2 : Hid (Msg.headW m ++ Msg.slotW m ++ (m.certs.take (k + 1)).map Msg.certW = (Msg.headW m ++ Msg.slotW m ++ (m.certs.take k).map Msg.certW) ++ [Msg.certW z]) := take_map hzk
        have hkl : (Msg.headW m ++ Msg.slotW m ++ (m.certs.take k).map Msg.certW).length ≤ 1000 := by have := HBw.out; rw [List.length_append, List.length_map, List.length_take]; omega
        unfold ctagg at HCo
        clear hzk hN
        obtain ⟨sz, hsz0⟩ : ∃ sz, sz = mkB (Msg.certW z) := ⟨_, rfl⟩
        have HSZ : Hid (mkB (Msg.certW z) = sz) := hsz0.symm
        rw [← hsz0] at HTx
        clear hsz0
        go_wp2_with fail
        refine (HCo.out _).mono ?_
        rintro e w2 ⟨rfl, hb2⟩
        have E2 : Hid (Ext wr w2) := ((Ext.refl _).alloc _).trans hb2
        clear hb2
        go_wp2_with fail
        refine (HTx.out _ (HE.out.trans E2.out)).mono ?_
        rintro e w3 ⟨rfl, hb3⟩
        have E3 : Hid (Ext wr w3) := E2.out.trans hb3
        have O3 : Hid (w3.ownsRow (w.heap.size + 1) 9 1 u3 (Msg.headW m ++ Msg.slotW m ++ (m.certs.take k).map Msg.certW).length ((Msg.headW m ++ Msg.slotW m ++ (m.certs.take k).map Msg.certW).map fun x => Value.string (mkB x))) := owns_extM HO.out E3.out
        have hsz : w.heap.size + 1 ≤ w3.heap.size := by have := (HE.out.trans E3.out).size; omega
        have HE3 : Hid (Ext W0 w3) := HE.out.trans E3.out
        clear hb3 E2 E3 HO HE hbl c0 c1 c2 c3 c4 c5 c6 d0 d1 d2
        go_wp2_with (at_builtin; go_must (refine wpList_append_own _ rfl _ _ 60 rfl (w.heap.size + 1) 9 ti (.string ByteArray.empty) 1 16 Tryd.underlying60 hti hz0 hz1 hz2 rfl (by decide) _ _ _ rfl (O3.out.alloc _) ⟨w3.heap.size, 0, none⟩ 1 1 [.string sz] rfl rfl (cellM_one _ _ _ _ rfl) (fun x hx => by simp at hx; subst hx; rfl) (by unfold maxLen; omega) (by omega) (by simp; omega) ?_; intro v6 w6 hown6 hgrow6 hnil6))
        refine ⟨⟨k + 1, by omega, by go_num, ?_, Below.grown (HE3.out.alloc _) hgrow6 (by simp; omega) (fun q hq => by have := (O3.out.lt q hq).1; omega)⟩, by simp [intOf]; omega⟩
        show w6.ownsRow _ _ _ _ _ _
        rw [HK2.out, List.map_append, List.length_append, List.map_cons, List.map_nil, HSZ.out]
        exact hown6
      · have hke : k = m.certs.length := by omega
        have OL2 : Hid (wr.ownsRow (w.heap.size + 1) 9 1 u3 (Msg.headW m ++ Msg.slotW m ++ m.certs.map Msg.certW).length ((Msg.headW m ++ Msg.slotW m ++ m.certs.map Msg.certW).map fun x => Value.string (mkB x))) := by
          have h := HO.out
          rw [hke, List.take_length] at h
          exact h
        have FL2 : Hid (Ext W0 wr) := HE
        clear hke HO HE
        go_wp2
        clear hbl c0 c1 c2 c3 c4 c5 c6 HX5
        generalize hwr : wr = w7 at *
        clear hwr
        go_loopw [3, 46] (fun ov i wr => ∃ (k : Nat), k ≤ m.refs.length ∧ i = .int .i64 k ∧ Hid (wr.ownsRow (w.heap.size + 1) 9 1 ov ((Msg.headW m ++ Msg.slotW m ++ m.certs.map Msg.certW) ++ (m.refs.take k).map Lib.itoa).length (((Msg.headW m ++ Msg.slotW m ++ m.certs.map Msg.certW) ++ (m.refs.take k).map Lib.itoa).map fun x => Value.string (mkB x))) ∧ Hid (Ext W0 wr)) (fun _ i _ => m.refs.length - (intOf i).toNat)
        case atStart => exact ⟨0, Nat.zero_le _, rfl, (by have h := OL2.out; simp only [List.take_zero, List.map_nil, List.append_nil]; exact h), FL2.out⟩
        case round =>
          obtain ⟨k, hk, rfl, HO, HE⟩ := hrel
          by_cases hlt : k < m.refs.length
          · obtain ⟨z, hzk⟩ : ∃ z, m.refs[k]? = some z := ⟨_, List.getElem?_eq_getElem hlt⟩
            obtain ⟨b, off, rfl, hb, hN⟩ := HX6.out (by omega)
            have d0 := hN.ext hb (W0x.out _ HE.out) k z hzk
            have hzb := HRe.out z (List.mem_of_getElem? hzk)
            have HNt : Hid (∀ wx : World, Ext W0 wx → Calls Tryd.prog 57 #[.int .i64 z] wx fun e w' => e = .returned (.string (mkB (Lib.itoa z))) ∧ Ext wx w') := fun wx he => numberText_any z wx (by omega) (by omega) (HTb.out _ he)
            have HK2 : Hid ((Msg.headW m ++ Msg.slotW m ++ m.certs.map Msg.certW) ++ (m.refs.take (k + 1)).map Lib.itoa = ((Msg.headW m ++ Msg.slotW m ++ m.certs.map Msg.certW) ++ (m.refs.take k).map Lib.itoa) ++ [Lib.itoa z]) := take_map hzk
            have hkl : ((Msg.headW m ++ Msg.slotW m ++ m.certs.map Msg.certW) ++ (m.refs.take k).map Lib.itoa).length ≤ 1000 := by have := HBw.out; rw [List.length_append, List.length_append, List.length_map, List.length_map, List.length_take]; omega
            obtain ⟨sz, hsz0⟩ : ∃ sz, sz = mkB (Lib.itoa z) := ⟨_, rfl⟩
            have HSZ : Hid (mkB (Lib.itoa z) = sz) := hsz0.symm
            rw [← hsz0] at HNt
            clear hsz0 hzk hN
            go_wp2_with fail
            refine (HNt.out _ HE.out).mono ?_
            rintro e w3 ⟨rfl, hb3⟩
            have O3 : Hid (w3.ownsRow (w.heap.size + 1) 9 1 u3 ((Msg.headW m ++ Msg.slotW m ++ m.certs.map Msg.certW) ++ (m.refs.take k).map Lib.itoa).length (((Msg.headW m ++ Msg.slotW m ++ m.certs.map Msg.certW) ++ (m.refs.take k).map Lib.itoa).map fun x => Value.string (mkB x))) := owns_extM HO.out hb3
            have HE3 : Hid (Ext W0 w3) := HE.out.trans hb3
            have hsz : w.heap.size + 1 ≤ w3.heap.size := by have := HE3.out.size; omega
            clear hb3 HO HE d0
            go_wp2_with (at_builtin; go_must (refine wpList_append_own _ rfl _ _ 60 rfl (w.heap.size + 1) 9 ti (.string ByteArray.empty) 1 16 Tryd.underlying60 hti hz0 hz1 hz2 rfl (by decide) _ _ _ rfl (O3.out.alloc _) ⟨w3.heap.size, 0, none⟩ 1 1 [.string sz] rfl rfl (cellM_one _ _ _ _ rfl) (fun x hx => by simp at hx; subst hx; rfl) (by unfold maxLen; omega) (by omega) (by simp; omega) ?_; intro v6 w6 hown6 hgrow6 hnil6))
            refine ⟨⟨k + 1, by omega, by go_num, ?_, Below.grown (HE3.out.alloc _) hgrow6 (by simp; omega) (fun q hq => by have := (O3.out.lt q hq).1; omega)⟩, by simp [intOf]; omega⟩
            show w6.ownsRow _ _ _ _ _ _
            rw [HK2.out, List.map_append, List.length_append, List.map_cons, List.map_nil, HSZ.out]
            exact hown6
          · have hke : k = m.refs.length := by omega
            have OL3 : Hid (wr.ownsRow (w.heap.size + 1) 9 1 u3 (Msg.msgW m).length ((Msg.msgW m).map fun x => Value.string (mkB x))) := by
              have h := HO.out
              rw [hke, List.take_length] at h
              exact h
            clear hke
            go_wp2
            go_ret
            exact ⟨_, _, rfl, OL3.out, W0x.out _ HE.out⟩
  · have q13 : (decide (1 ≤ m.kind) && decide (m.kind ≤ 3)) = false := by rw [Bool.and_eq_false_iff]; simp; omega
    rw [q13] at HOs
    have HH : Hid ([Value.string (mkB (Msg.kindW m.kind)), .string (mkB (Lib.itoa m.view)), .string (mkB (Lib.itoa m.from_))] = (Msg.headW m ++ Msg.slotW m).map fun x => Value.string (mkB x)) := by
      show _ = _
      rw [Msg.slotW_no hk3]
      rfl
    generalize mkB (Msg.kindW m.kind) = s0 at *
    generalize mkB (Lib.itoa m.view) = s1 at *
    generalize mkB (Lib.itoa m.from_) = s2 at *
    clear hsl hk3 q13
    go_enter Tryd.func31, Tryd.ntmps31
    go_wp2
    have hW0s : (w.alloc (.cells #[.int .i64 m.view, .int .i64 m.kind, .int .i64 m.from_, .int .i64 m.slot, .int .i64 m.value, .slice a m.certs.length c, .slice a' m.refs.length c'] 64)).heap.size = w.heap.size + 1 := by simp
    generalize hW0 : (w.alloc (.cells #[.int .i64 m.view, .int .i64 m.kind, .int .i64 m.from_, .int .i64 m.slot, .int .i64 m.value, .slice a m.certs.length c, .slice a' m.refs.length c'] 64)) = W0 at *
    clear hW0
    refine wp_region_held_drew (S := (fun W' : World => W'.cell? ⟨w.heap.size, 0, none⟩ = some (.int .i64 m.view) ∧ W'.cell? ⟨w.heap.size, 1, none⟩ = some (.int .i64 m.kind) ∧ W'.cell? ⟨w.heap.size, 2, none⟩ = some (.int .i64 m.from_) ∧ W'.cell? ⟨w.heap.size, 3, none⟩ = some (.int .i64 m.slot) ∧ W'.cell? ⟨w.heap.size, 4, none⟩ = some (.int .i64 m.value))) (by kernel_rfl) (HSw.out _ ((Ext.refl _).drew)) (fun hHeld => ?_)
    refine tk 0 { dst := some 8, op := Op.fieldAddr 64 (.tmp 1) 1, type := 0, pos := "l08_msg.go:300", after := #[], guard := none } ?_
    refine tk 1 { dst := some 9, op := Op.load 2 (.tmp 8), type := 2, pos := "l08_msg.go:300", after := #[⟨0, .data⟩], guard := none } ?_
    refine tk 3 { dst := some 11, op := Op.fieldAddr 64 (.tmp 1) 0, type := 0, pos := "l08_msg.go:300", after := #[], guard := none } ?_
    refine tk 4 { dst := some 12, op := Op.load 62 (.tmp 11), type := 62, pos := "l08_msg.go:300", after := #[⟨3, .data⟩], guard := none } ?_
    refine tk 6 { dst := some 14, op := Op.fieldAddr 64 (.tmp 1) 2, type := 0, pos := "l08_msg.go:300", after := #[], guard := none } ?_
    refine tk 7 { dst := some 15, op := Op.load 2 (.tmp 14), type := 2, pos := "l08_msg.go:300", after := #[⟨6, .data⟩], guard := none } ?_
    refine wpAnyH_ready (rs := [2]) (by kernel_rfl) (by simp) (AllReadyH.cons rfl (fun K hK => ?_) AllReadyH.nil)
    go_simp
    refine (HMw.out _ (((Ext.refl _).drew))).mono ?_
    rintro e y1 ⟨rfl, hb⟩
    have F1 : Hid (Ext W0 y1) := ((Ext.refl _).drew).trans hb
    refine hK.out _ _ (HSw.out _ F1.out) (fun hHeld1 => ?_)
    clear hK K hb
    refine wpAnyH_ready (rs := [5]) (by kernel_rfl) (by simp) (AllReadyH.cons rfl (fun K hK => ?_) AllReadyH.nil)
    go_simp
    refine (HVw.out _ (F1.out)).mono ?_
    rintro e y2 ⟨rfl, hb⟩
    have F2 : Hid (Ext W0 y2) := F1.out.trans hb
    refine hK.out _ _ (HSw.out _ F2.out) (fun hHeld2 => ?_)
    clear hK K hb
    refine wpAnyH_ready (rs := [8]) (by kernel_rfl) (by simp) (AllReadyH.cons rfl (fun K hK => ?_) AllReadyH.nil)
    go_simp
    refine (HFr.out _ (F2.out)).mono ?_
    rintro e y3 ⟨rfl, hb⟩
    have F3 : Hid (Ext W0 y3) := F2.out.trans hb
    refine hK.out _ _ (HSw.out _ F3.out) (fun hHeld3 => ?_)
    clear hK K hb
    refine wpAnyH_ready (rs := [9]) (by kernel_rfl) (by simp) (AllReadyH.cons rfl (fun K hK => ?_) AllReadyH.nil)
    go_simp
    refine hK.out _ _ (HSw.out _ (F3.out.alloc _)) (fun hHeld4 => ?_)
    clear hK K
    refine tk 10 { dst := some 3, op := Op.assign (.tmp 17), type := 60, pos := "l08_msg.go:300", after := #[⟨9, .data⟩, ⟨8, .chain⟩, ⟨0, .phase⟩, ⟨1, .phase⟩, ⟨2, .phase⟩, ⟨3, .phase⟩, ⟨4, .phase⟩, ⟨5, .phase⟩, ⟨6, .phase⟩, ⟨7, .phase⟩, ⟨8, .phase⟩, ⟨9, .phase⟩], guard := none } ?_
    refine wpAnyH_done (by kernel_rfl) ?_ _
    have F4 : Hid (Ext W0 (y3.alloc (.cells #[.string s0, .string s1, .string s2] 9))) := F3.out.alloc _
    have O4 : Hid ((y3.alloc (.cells #[.string s0, .string s1, .string s2] 9)).ownsRow (w.heap.size + 1) 9 1 (.slice (some ⟨y3.heap.size, 0, none⟩) 3 3) 3 [.string s0, .string s1, .string s2]) := ⟨rfl, .inr ⟨y3.heap.size, 3, #[.string s0, .string s1, .string s2], rfl, by have := F3.out.size; omega, heap_alloc_new y3 _, Nat.le_refl _, by unfold maxLen; omega, rfl, rfl⟩⟩
    generalize (y3.alloc (.cells #[.string s0, .string s1, .string s2] 9)) = Y4 at *
    generalize y3.heap.size = gy at *
    obtain ⟨hbl, c0, c1, c2, c3, c4, c5, c6⟩ := HPx.out _ F4.out
    go_wp2_with fail
    refine (HOs.out _).mono ?_
    rintro e Y5 ⟨rfl, hb⟩
    have FL : Hid (Ext W0 Y5) := F4.out.trans hb
    have OL : Hid (Y5.ownsRow (w.heap.size + 1) 9 1 (.slice (some ⟨gy, 0, none⟩) 3 3) (Msg.headW m ++ Msg.slotW m).length ((Msg.headW m ++ Msg.slotW m).map fun x => Value.string (mkB x))) := by
      have h := owns_extM O4.out hb
      rw [HH.out] at h
      have hl : (Msg.headW m ++ Msg.slotW m).length = 3 := by have h2 := congrArg List.length HH.out; simpa using h2.symm
      rw [hl]
      exact h
    clear hb hbl c0 c1 c2 c3 c4 c5 c6 O4 F4
    obtain ⟨hbl, c0, c1, c2, c3, c4, c5, c6⟩ := HPx.out _ FL.out
    go_wp2
    go_loopw [3, 32] (fun ov i wr => ∃ (k : Nat), k ≤ m.certs.length ∧ i = .int .i64 k ∧ Hid (wr.ownsRow (w.heap.size + 1) 9 1 ov (Msg.headW m ++ Msg.slotW m ++ (m.certs.take k).map Msg.certW).length ((Msg.headW m ++ Msg.slotW m ++ (m.certs.take k).map Msg.certW).map fun x => Value.string (mkB x))) ∧ Hid (Ext W0 wr)) (fun _ i _ => m.certs.length - (intOf i).toNat)
    case atStart => exact ⟨0, Nat.zero_le _, rfl, (by have h := OL.out; simp only [List.take_zero, List.map_nil, List.append_nil]; exact h), FL.out⟩
    case round =>
      obtain ⟨k, hk, rfl, HO, HE⟩ := hrel
      obtain ⟨hbl, c0, c1, c2, c3, c4, c5, c6⟩ := HPx.out _ HE.out
      by_cases hlt : k < m.certs.length
      · obtain ⟨z, hzk⟩ : ∃ z, m.certs[k]? = some z := ⟨_, List.getElem?_eq_getElem hlt⟩
        obtain ⟨b, off, rfl, hb, hN⟩ := HX5.out (by omega)
        obtain ⟨d0, d1, d2⟩ := hN.ext hb (W0x.out _ HE.out) k z hzk
        have HCo : Hid (∀ wx : World, Calls Tryd.prog 59 #[ctagg z] wx fun e w' => e = .returned (.agg #[.int .i64 z.view, .int .i64 z.slot, .int .i64 z.value]) ∧ Ext wx w') := fun wx => certificateOf_any z wx
        have HTx : Hid (∀ wx : World, Ext W0 wx → Calls Tryd.prog 60 #[.agg #[.int .i64 z.view, .int .i64 z.slot, .int .i64 z.value]] wx fun e w' => e = .returned (.string (mkB (Msg.certW z))) ∧ Ext wx w') := fun wx he => certText_any z wx (HCe.out z (List.mem_of_getElem? hzk)) (HTb.out _ he)
        have HK2 : Hid (Msg.headW m ++ Msg.slotW m ++ (m.certs.take (k + 1)).map Msg.certW = (Msg.headW m ++ Msg.slotW m ++ (m.certs.take k).map Msg.certW) ++ [Msg.certW z]) := take_map hzk
        have hkl : (Msg.headW m ++ Msg.slotW m ++ (m.certs.take k).map Msg.certW).length ≤ 1000 := by have := HBw.out; rw [List.length_append, List.length_map, List.length_take]; omega
        unfold ctagg at HCo
        clear hzk hN
        obtain ⟨sz, hsz0⟩ : ∃ sz, sz = mkB (Msg.certW z) := ⟨_, rfl⟩
        have HSZ : Hid (mkB (Msg.certW z) = sz) := hsz0.symm
        rw [← hsz0] at HTx
        clear hsz0
        go_wp2_with fail
        refine (HCo.out _).mono ?_
        rintro e w2 ⟨rfl, hb2⟩
        have E2 : Hid (Ext wr w2) := ((Ext.refl _).alloc _).trans hb2
        clear hb2
        go_wp2_with fail
        refine (HTx.out _ (HE.out.trans E2.out)).mono ?_
        rintro e w3 ⟨rfl, hb3⟩
        have E3 : Hid (Ext wr w3) := E2.out.trans hb3
        have O3 : Hid (w3.ownsRow (w.heap.size + 1) 9 1 u3 (Msg.headW m ++ Msg.slotW m ++ (m.certs.take k).map Msg.certW).length ((Msg.headW m ++ Msg.slotW m ++ (m.certs.take k).map Msg.certW).map fun x => Value.string (mkB x))) := owns_extM HO.out E3.out
        have hsz : w.heap.size + 1 ≤ w3.heap.size := by have := (HE.out.trans E3.out).size; omega
        have HE3 : Hid (Ext W0 w3) := HE.out.trans E3.out
        clear hb3 E2 E3 HO HE hbl c0 c1 c2 c3 c4 c5 c6 d0 d1 d2
        go_wp2_with (at_builtin; go_must (refine wpList_append_own _ rfl _ _ 60 rfl (w.heap.size + 1) 9 ti (.string ByteArray.empty) 1 16 Tryd.underlying60 hti hz0 hz1 hz2 rfl (by decide) _ _ _ rfl (O3.out.alloc _) ⟨w3.heap.size, 0, none⟩ 1 1 [.string sz] rfl rfl (cellM_one _ _ _ _ rfl) (fun x hx => by simp at hx; subst hx; rfl) (by unfold maxLen; omega) (by omega) (by simp; omega) ?_; intro v6 w6 hown6 hgrow6 hnil6))
        refine ⟨⟨k + 1, by omega, by go_num, ?_, Below.grown (HE3.out.alloc _) hgrow6 (by simp; omega) (fun q hq => by have := (O3.out.lt q hq).1; omega)⟩, by simp [intOf]; omega⟩
        show w6.ownsRow _ _ _ _ _ _
        rw [HK2.out, List.map_append, List.length_append, List.map_cons, List.map_nil, HSZ.out]
        exact hown6
      · have hke : k = m.certs.length := by omega
        have OL2 : Hid (wr.ownsRow (w.heap.size + 1) 9 1 u3 (Msg.headW m ++ Msg.slotW m ++ m.certs.map Msg.certW).length ((Msg.headW m ++ Msg.slotW m ++ m.certs.map Msg.certW).map fun x => Value.string (mkB x))) := by
          have h := HO.out
          rw [hke, List.take_length] at h
          exact h
        have FL2 : Hid (Ext W0 wr) := HE
        clear hke HO HE
        go_wp2
        clear hbl c0 c1 c2 c3 c4 c5 c6 HX5
        generalize hwr : wr = w7 at *
        clear hwr
        go_loopw [3, 46] (fun ov i wr => ∃ (k : Nat), k ≤ m.refs.length ∧ i = .int .i64 k ∧ Hid (wr.ownsRow (w.heap.size + 1) 9 1 ov ((Msg.headW m ++ Msg.slotW m ++ m.certs.map Msg.certW) ++ (m.refs.take k).map Lib.itoa).length (((Msg.headW m ++ Msg.slotW m ++ m.certs.map Msg.certW) ++ (m.refs.take k).map Lib.itoa).map fun x => Value.string (mkB x))) ∧ Hid (Ext W0 wr)) (fun _ i _ => m.refs.length - (intOf i).toNat)
        case atStart => exact ⟨0, Nat.zero_le _, rfl, (by have h := OL2.out; simp only [List.take_zero, List.map_nil, List.append_nil]; exact h), FL2.out⟩
        case round =>
          obtain ⟨k, hk, rfl, HO, HE⟩ := hrel
          by_cases hlt : k < m.refs.length
          · obtain ⟨z, hzk⟩ : ∃ z, m.refs[k]? = some z := ⟨_, List.getElem?_eq_getElem hlt⟩
            obtain ⟨b, off, rfl, hb, hN⟩ := HX6.out (by omega)
            have d0 := hN.ext hb (W0x.out _ HE.out) k z hzk
            have hzb := HRe.out z (List.mem_of_getElem? hzk)
            have HNt : Hid (∀ wx : World, Ext W0 wx → Calls Tryd.prog 57 #[.int .i64 z] wx fun e w' => e = .returned (.string (mkB (Lib.itoa z))) ∧ Ext wx w') := fun wx he => numberText_any z wx (by omega) (by omega) (HTb.out _ he)
            have HK2 : Hid ((Msg.headW m ++ Msg.slotW m ++ m.certs.map Msg.certW) ++ (m.refs.take (k + 1)).map Lib.itoa = ((Msg.headW m ++ Msg.slotW m ++ m.certs.map Msg.certW) ++ (m.refs.take k).map Lib.itoa) ++ [Lib.itoa z]) := take_map hzk
            have hkl : ((Msg.headW m ++ Msg.slotW m ++ m.certs.map Msg.certW) ++ (m.refs.take k).map Lib.itoa).length ≤ 1000 := by have := HBw.out; rw [List.length_append, List.length_append, List.length_map, List.length_map, List.length_take]; omega
            obtain ⟨sz, hsz0⟩ : ∃ sz, sz = mkB (Lib.itoa z) := ⟨_, rfl⟩
            have HSZ : Hid (mkB (Lib.itoa z) = sz) := hsz0.symm
            rw [← hsz0] at HNt
            clear hsz0 hzk hN
            go_wp2_with fail
            refine (HNt.out _ HE.out).mono ?_
            rintro e w3 ⟨rfl, hb3⟩
            have O3 : Hid (w3.ownsRow (w.heap.size + 1) 9 1 u3 ((Msg.headW m ++ Msg.slotW m ++ m.certs.map Msg.certW) ++ (m.refs.take k).map Lib.itoa).length (((Msg.headW m ++ Msg.slotW m ++ m.certs.map Msg.certW) ++ (m.refs.take k).map Lib.itoa).map fun x => Value.string (mkB x))) := owns_extM HO.out hb3
            have HE3 : Hid (Ext W0 w3) := HE.out.trans hb3
            have hsz : w.heap.size + 1 ≤ w3.heap.size := by have := HE3.out.size; omega
            clear hb3 HO HE d0
            go_wp2_with (at_builtin; go_must (refine wpList_append_own _ rfl _ _ 60 rfl (w.heap.size + 1) 9 ti (.string ByteArray.empty) 1 16 Tryd.underlying60 hti hz0 hz1 hz2 rfl (by decide) _ _ _ rfl (O3.out.alloc _) ⟨w3.heap.size, 0, none⟩ 1 1 [.string sz] rfl rfl (cellM_one _ _ _ _ rfl) (fun x hx => by simp at hx; subst hx; rfl) (by unfold maxLen; omega) (by omega) (by simp; omega) ?_; intro v6 w6 hown6 hgrow6 hnil6))
            refine ⟨⟨k + 1, by omega, by go_num, ?_, Below.grown (HE3.out.alloc _) hgrow6 (by simp; omega) (fun q hq => by have := (O3.out.lt q hq).1; omega)⟩, by simp [intOf]; omega⟩
            show w6.ownsRow _ _ _ _ _ _
            rw [HK2.out, List.map_append, List.length_append, List.map_cons, List.map_nil, HSZ.out]
            exact hown6
          · have hke : k = m.refs.length := by omega
            have OL3 : Hid (wr.ownsRow (w.heap.size + 1) 9 1 u3 (Msg.msgW m).length ((Msg.msgW m).map fun x => Value.string (mkB x))) := by
              have h := HO.out
              rw [hke, List.take_length] at h
              exact h
            clear hke
            go_wp2
            go_ret
            exact ⟨_, _, rfl, OL3.out, W0x.out _ HE.out⟩
end Go.Proofs.YtpncnfodgfldlaaDoor
