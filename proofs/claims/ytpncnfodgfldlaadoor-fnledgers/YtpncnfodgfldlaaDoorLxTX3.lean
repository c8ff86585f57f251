/- the program's MsgText. -/
import Derived.Test.YtpncnfodgfldlaaDoorLxTX2
namespace Go.Proofs.YtpncnfodgfldlaaDoor
open Go.RowKit
theorem joinM_len (xs : List (List UInt8)) (h : ∀ x ∈ xs, x.length ≤ 100) (hl : xs.length ≤ 50) : (Lib.join xs [32]).length ≤ 10000 := by
  have : ∀ (xs : List (List UInt8)), (∀ x ∈ xs, x.length ≤ 100) → (Lib.joinTail [32] xs).length ≤ 101 * xs.length := by
    intro xs
    induction xs with
    | nil => simp [Lib.joinTail]
    | cons x t ih =>
      intro hx
      have h1 := ih (fun y hy => hx y (List.mem_cons_of_mem _ hy))
      have h2 := hx x (List.mem_cons_self)
      simp only [Lib.joinTail, List.map_cons, List.flatten_cons, List.length_append, List.length_cons, List.length_nil] at h1 ⊢
      omega
  cases xs with
  | nil => simp [Lib.join_nil]
  | cons x t =>
    rw [Lib.join_cons, List.length_append]
    have h1 := this t (fun y hy => h y (List.mem_cons_of_mem _ hy))
    have h2 := h x (List.mem_cons_self)
    simp only [List.length_cons] at hl
    omega
theorem Msg.msgW_short {m : Ms} (hF : Msg.Fine m) : (Msg.msgW m).length ≤ 50 ∧ ∀ x ∈ Msg.msgW m, x.length ≤ 100 := by
  obtain ⟨hk, hv, hfr, hsl, hba, hmn, hce, hre⟩ := hF
  unfold Msg.msgW
  constructor
  · have : (Msg.headW m ++ Msg.slotW m).length ≤ 5 := by
      unfold Msg.headW Msg.slotW
      split <;> simp
    rw [List.length_append, List.length_append, List.length_map, List.length_map]
    omega
  · intro x hx
    rw [List.mem_append, List.mem_append, List.mem_append] at hx
    rcases hx with ((hx | hx) | hx) | hx
    · unfold Msg.headW at hx
      simp only [List.mem_cons, List.not_mem_nil, or_false] at hx
      rcases hx with rfl | rfl | rfl
      · have := Msg.kindW_len m.kind; omega
      · have := itoa_len m.view (by omega) (by omega); omega
      · have := itoa_len m.from_ (by omega) (by omega); omega
    · unfold Msg.slotW at hx
      split at hx
      · rename_i h3
        have hs := hsl h3
        simp only [List.mem_cons, List.not_mem_nil, or_false] at hx
        rcases hx with rfl | rfl
        · have := itoa_len m.slot (by omega) (by omega); omega
        · have := itoa_len m.value (by omega) (by omega); omega
      · cases hx
    · obtain ⟨c, hc, rfl⟩ := List.mem_map.1 hx
      have h := hce c hc
      have h1 := itoa_len c.slot (by omega) (by omega)
      have h2 := itoa_len c.view (by omega) (by omega)
      have h3 := itoa_len c.value (by omega) (by omega)
      unfold Msg.certW
      simp only [List.length_append, List.length_cons, List.length_nil]
      omega
    · obtain ⟨r, hr, rfl⟩ := List.mem_map.1 hx
      have h := hre r hr
      have := itoa_len r (by omega) (by omega)
      omega
theorem Msg.msgW_pos (m : Ms) : 0 < (Msg.msgW m).length := by unfold Msg.msgW Msg.headW; simp
theorem joinM_any (m : Ms) (B : Nat) (v : Value) (w : World) (hF : Msg.Fine m) (hO : w.ownsRow B 9 1 v (Msg.msgW m).length ((Msg.msgW m).map fun x => Value.string (mkB x))) :
    Calls Tryd.prog 29 #[v, .string ⟨#[32]⟩] w fun e w' => e = .returned (.string (mkB (Lib.join (Msg.msgW m) [32]))) ∧ Ext w w' := by
  have hlt := hO.lt
  have hpos := Msg.msgW_pos m
  obtain ⟨h50, h100⟩ := Msg.msgW_short hF
  rcases hO.2 with ⟨hv, h0⟩ | ⟨g, cap, cur, hv, hb, hh, hn, hm, hcs, htk⟩
  · omega
  · subst hv
    have hxs : (((Msg.msgW m).map mkB).map (·.data.toList)) = Msg.msgW m := by rw [List.map_map]; conv => rhs; rw [← List.map_id (Msg.msgW m)]
                                                                               apply List.map_congr_left; intro x _; exact mkB_list x
    have h := strings_Join g 0 cap ((Msg.msgW m).map mkB) ⟨#[32]⟩ w (fun j x hx => by
      rw [List.getElem?_map] at hx
      obtain ⟨y, hy, rfl⟩ := Option.map_eq_some_iff.1 hx
      have hj := (List.getElem?_eq_some_iff.1 hy).1
      rw [Nat.zero_add, hO.cellAt j (by omega), List.getElem?_map, hy]; rfl) (hlt g rfl).2 (by rw [List.length_map]; omega) (by rw [List.length_map]; exact hn) (by rw [hxs]; have := joinM_len _ h100 h50; show (Lib.join _ [32]).length ≤ _; omega)
    rw [hxs, List.length_map] at h
    exact h
theorem ext_twoM {w W : World} (h : Ext w W) (a b : Value) : Ext w ((W.setCell ⟨w.heap.size + 1, 0, none⟩ a).setCell ⟨w.heap.size + 1, 1, none⟩ b) :=
  (h.setCell (p := ⟨w.heap.size + 1, 0, none⟩) (Nat.le_succ _) _).setCell (p := ⟨w.heap.size + 1, 1, none⟩) (Nat.le_succ _) _
set_option maxHeartbeats 4000000 in
set_option maxRecDepth 100000 in
theorem implMsgText_any (f : Int) (m : Ms) (v u : Value) (w : World) (hS : MLs w v u m) (ht : Tb w) :
    Calls Tryd.prog 10 #[.int .i64 f, magg m v u] w fun e w' => e = .returned (tr (Msg.textV f m)) ∧ Ext w w' := by
  have HMf : Hid (∀ wx : World, Ext w wx → Calls Tryd.prog 13 #[.int .i64 f, magg m v u] wx fun e w' => e = .returned (.int .i64 (Msg.fault f m)) ∧ Ext wx w') := fun wx he => implMsgFault_any f m v u wx (hS.ext he)
  have HWo : Hid (Msg.Fine m → ∀ wx : World, Ext w wx → Calls Tryd.prog 31 #[pagg m v u] wx fun e w' => ∃ (B : Nat) (v' : Value), e = .returned v' ∧ w'.ownsRow B 9 1 v' (Msg.msgW m).length ((Msg.msgW m).map fun x => Value.string (mkB x)) ∧ Ext wx w') := fun hF wx he => words_any m v u wx (hS.ext he) hF (ht.ext he)
  obtain ⟨a, c, a', c', rfl, rfl, -, -, -, -⟩ := hS.form
  have HMo : Hid (∀ wx : World, Calls Tryd.prog 30 #[magg m (.slice a m.certs.length c) (.slice a' m.refs.length c')] wx fun e w' => e = .returned (pagg m (.slice a m.certs.length c) (.slice a' m.refs.length c')) ∧ Ext wx w') := fun wx => messageOf_any m a a' _ _ c c' wx
  have HBx : Hid (∀ wx : World, Ext ((w.alloc (.cells #[.int .i64 m.kind, .int .i64 m.view, .int .i64 m.from_, .int .i64 m.slot, .int .i64 m.value, .slice a m.certs.length c, .slice a' m.refs.length c'] 28)).alloc (.cells #[.int .i64 0, .string ⟨#[]⟩] 39)) wx → MBoxAt wx w.heap.size m (.slice a m.certs.length c) (.slice a' m.refs.length c') ∧ TBoxAt wx (w.heap.size + 1) 0 ⟨#[]⟩ ∧ Ext w wx) := fun wx he => by
    have h2 := (tbox_new (w.alloc (.cells #[.int .i64 m.kind, .int .i64 m.view, .int .i64 m.from_, .int .i64 m.slot, .int .i64 m.value, .slice a m.certs.length c, .slice a' m.refs.length c'] 28)) 0 ⟨#[]⟩ 39).ext he
    rw [World.size_alloc] at h2
    exact ⟨((mbox_new w m (.slice a m.certs.length c) (.slice a' m.refs.length c') _).ext ((Ext.refl _).alloc _)).ext he, h2, (((Ext.refl _).alloc _).alloc _).trans he⟩
  clear hS ht
  by_cases hc : Msg.fault f m = 0
  · rw [Msg.textV_ok hc]
    rw [hc] at HMf
    have hF := (Msg.fine hc).2.2
    have HWo2 : Hid (∀ wx : World, Ext w wx → Calls Tryd.prog 31 #[pagg m (.slice a m.certs.length c) (.slice a' m.refs.length c')] wx fun e w' => ∃ (B : Nat) (v' : Value), e = .returned v' ∧ w'.ownsRow B 9 1 v' (Msg.msgW m).length ((Msg.msgW m).map fun x => Value.string (mkB x)) ∧ Ext wx w') := HWo.out hF
    have HJo : Hid (∀ (B : Nat) (v : Value) (wx : World), wx.ownsRow B 9 1 v (Msg.msgW m).length ((Msg.msgW m).map fun x => Value.string (mkB x)) → Calls Tryd.prog 29 #[v, .string ⟨#[32]⟩] wx fun e w' => e = .returned (.string (mkB (Lib.join (Msg.msgW m) [32]))) ∧ Ext wx w') := fun B v wx h => joinM_any m B v wx hF h
    clear hc HWo hF
    unfold magg pagg at *
    unfold tr
    simp only
    generalize mkB (Lib.join (Msg.msgW m) [32]) = T at *
    go_enter Tryd.func10, Tryd.ntmps10
    go_wp2_with fail
    refine (HMf.out _ (((Ext.refl _).alloc _).alloc _)).mono ?_
    rintro e w2 ⟨rfl, hb⟩
    have E2 : Hid (Ext ((w.alloc (.cells #[.int .i64 m.kind, .int .i64 m.view, .int .i64 m.from_, .int .i64 m.slot, .int .i64 m.value, .slice a m.certs.length c, .slice a' m.refs.length c'] 28)).alloc (.cells #[.int .i64 0, .string ⟨#[]⟩] 39)) w2) := hb
    clear hb
    obtain ⟨⟨x0, ⟨c0, c1, c2, c3, c4, c5, c6⟩, -⟩, -, -⟩ := HBx.out _ E2.out
    go_wp2_with fail
    refine (HMo.out _).mono ?_
    rintro e w3 ⟨rfl, hb⟩
    have E3 : Hid (Ext ((w.alloc (.cells #[.int .i64 m.kind, .int .i64 m.view, .int .i64 m.from_, .int .i64 m.slot, .int .i64 m.value, .slice a m.certs.length c, .slice a' m.refs.length c'] 28)).alloc (.cells #[.int .i64 0, .string ⟨#[]⟩] 39)) w3) := E2.out.trans hb
    clear hb x0 c0 c1 c2 c3 c4 c5 c6 E2
    go_wp2_with fail
    refine (HWo2.out _ (HBx.out _ E3.out).2.2).mono ?_
    rintro e w4 ⟨B4, v4, rfl, hO4, hb⟩
    have E4 : Hid (Ext ((w.alloc (.cells #[.int .i64 m.kind, .int .i64 m.view, .int .i64 m.from_, .int .i64 m.slot, .int .i64 m.value, .slice a m.certs.length c, .slice a' m.refs.length c'] 28)).alloc (.cells #[.int .i64 0, .string ⟨#[]⟩] 39)) w4) := E3.out.trans hb
    have O4 : Hid (w4.ownsRow B4 9 1 v4 (Msg.msgW m).length ((Msg.msgW m).map fun x => Value.string (mkB x))) := hO4
    clear hb E3 hO4
    go_wp2_with fail
    refine (HJo.out _ _ _ O4.out).mono ?_
    rintro e w5 ⟨rfl, hb⟩
    have E5 : Hid (Ext ((w.alloc (.cells #[.int .i64 m.kind, .int .i64 m.view, .int .i64 m.from_, .int .i64 m.slot, .int .i64 m.value, .slice a m.certs.length c, .slice a' m.refs.length c'] 28)).alloc (.cells #[.int .i64 0, .string ⟨#[]⟩] 39)) w5) := E4.out.trans hb
    clear hb E4 O4
    obtain ⟨-, ⟨t0, t1, t2, t3, t4⟩, hE⟩ := HBx.out _ E5.out
    have HE : Hid (Ext w w5) := hE
    clear hE
    go_wp2
    exact bodyPost_ret (v := .agg #[.int .i64 0, .string T]) (by simp [results, Tryd.results10, go_sem, t1, t2]) rfl ⟨rfl, ext_twoM HE.out _ _⟩
  · rw [Msg.textV_bad hc]
    unfold magg at *
    unfold tr
    simp only
    generalize Msg.fault f m = C at *
    have hcb : (C != 0) = true := by simpa using hc
    go_enter Tryd.func10, Tryd.ntmps10
    go_wp2_with fail
    refine (HMf.out _ (((Ext.refl _).alloc _).alloc _)).mono ?_
    rintro e w2 ⟨rfl, hb⟩
    obtain ⟨-, ⟨t0, t1, t2, t3, t4⟩, hE⟩ := HBx.out _ hb
    have HE : Hid (Ext w w2) := hE
    clear hE hb
    go_wp2
    exact bodyPost_ret (v := .agg #[.int .i64 C, .string (mkB [])]) (by simp [results, Tryd.results10, go_sem, mkB, t1, t2]) rfl ⟨rfl, ext_twoM HE.out _ _⟩
end Go.Proofs.YtpncnfodgfldlaaDoor
