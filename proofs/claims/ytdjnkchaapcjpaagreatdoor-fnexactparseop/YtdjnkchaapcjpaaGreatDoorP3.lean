/- OpText of the program: what it leans on. -/
import Derived.Test.YtdjnkchaapcjpaaGreatDoorP2
import Derived.Laws.AppendOwnNone
import Derived.Lib.ItoaLen
namespace Go.Proofs.YtdjnkchaapcjpaaGreatDoor
open Go.RowKit
/-- A text's result in a box of its own, that may be written. -/
def TBoxAt (w : World) (b : Nat) (c : Int) (s : ByteArray) : Prop := b < w.heap.size ∧ w.cell? ⟨b, 0, none⟩ = some (.int .i64 c) ∧ w.cell? ⟨b, 1, none⟩ = some (.string s) ∧ w.frozen? ⟨b, 0, none⟩ = false ∧ w.frozen? ⟨b, 1, none⟩ = false
theorem TBoxAt.ext {w w' : World} {b : Nat} {c : Int} {s : ByteArray} (h : TBoxAt w b c s) (he : Ext w w') : TBoxAt w' b c s := by
  obtain ⟨hb, c0, c1, f0, f1⟩ := h
  obtain ⟨hc, hf⟩ := Ext.cell he
  exact ⟨Nat.lt_of_lt_of_le hb he.size, (hc _ _ hb).trans c0, (hc _ _ hb).trans c1, (hf _ _ hb).trans f0, (hf _ _ hb).trans f1⟩
theorem tbox_new (w : World) (c : Int) (s : ByteArray) (t : TypeId) : TBoxAt (w.alloc (.cells #[.int .i64 c, .string s] t)) w.heap.size c s := ⟨by simp, by simp, by simp, by simp, by simp⟩
theorem ownsRow_ext {w w' : World} {base : Nat} {e : TypeId} {size : Nat} {v : Value} {n : Nat} {xs : List Value} (h : w.ownsRow base e size v n xs) (he : Ext w w') : w'.ownsRow base e size v n xs := by
  refine ⟨h.1, h.2.imp id ?_⟩
  rintro ⟨g, cap, cur, hv, hb, hh, r⟩
  refine ⟨g, cap, cur, hv, hb, ?_, r⟩
  rw [he.block g (Array.getElem?_eq_some_iff.1 hh).1]; exact hh
theorem Opr.fault_zero {o : Opn} (h : Opr.fault o = 0) : Opr.extra o = false ∧ Opr.inR o = true ∧ (Opr.hasPath o.kind = true → Pth.faultI o.path.data.toList = 0) := by
  have hk := h
  unfold Opr.fault at h
  split at h
  · cases h
  split at h
  · cases h
  split at h
  · rename_i hx; exact absurd h hx.2
  split at h
  · cases h
  · rename_i h1 h2 h3 h4
    refine ⟨by simpa using h2, by simpa using h4, fun hp => ?_⟩
    refine Classical.byContradiction fun hn => h3 ⟨hp, hn⟩
theorem itoa_len (n : Int) (h0 : -1 ≤ n) (h1 : n ≤ 99999) : (Lib.itoa n).length ≤ 21 := Lib.itoa_length_le n (by omega) (by omega)
theorem verT_len (n : Int) (h0 : -1 ≤ n) (h1 : n ≤ 999) : (Opr.verT n).length ≤ 21 := by
  unfold Opr.verT
  split
  · simp
  · exact itoa_len n h0 (by omega)
theorem join_short (xs : List (List UInt8)) (h : ∀ x ∈ xs, x.length ≤ 30) (hl : xs.length ≤ 10) : (Lib.join xs [32]).length ≤ 400 := by
  have : ∀ (xs : List (List UInt8)), (∀ x ∈ xs, x.length ≤ 30) → (Lib.joinTail [32] xs).length ≤ 31 * xs.length := by
    intro xs
    induction xs with
    | nil => simp [Lib.joinTail]
    | cons x t ih =>
      intro hx
      have h1 := ih (fun y hy => hx y (List.mem_cons_of_mem _ hy))
      have h2 := hx x (List.mem_cons_self)
      simp only [Lib.joinTail, List.map_cons, List.flatten_cons, List.length_append, List.length_cons, List.length_nil] at h1 ⊢
      omega
  cases xs with
  | nil => simp [Lib.join_nil]
  | cons x t =>
    rw [Lib.join_cons, List.length_append]
    have h1 := this t (fun y hy => h y (List.mem_cons_of_mem _ hy))
    have h2 := h x (List.mem_cons_self)
    simp only [List.length_cons] at hl
    omega
theorem map_one (ps : List ByteArray) : ∀ u ∈ ps.map Value.string, u.oneCell' = true := by
  intro u hu
  obtain ⟨x, -, rfl⟩ := List.mem_map.1 hu
  rfl
theorem joinStr_any (bk o c : Nat) (xs : List ByteArray) (w : World) (hcells : ∀ (j : Nat) x, xs[j]? = some x → w.cell? ⟨bk, o + j, none⟩ = some (.string x)) (hbk : bk < w.heap.size) (hcap : xs.length ≤ c) (hs : ∀ x ∈ xs.map (·.data.toList), x.length ≤ 30) (hl : xs.length ≤ 10) :
    Calls Tryz.prog 71 #[.slice (some ⟨bk, o, none⟩) xs.length c, .string ⟨#[32]⟩] w fun e w' => e = .returned (.string (mkB (Lib.join (xs.map (·.data.toList)) [32]))) ∧ Ext w w' :=
  strings_Join bk o c xs ⟨#[32]⟩ w hcells hbk (by omega) hcap (by have := join_short (xs.map (·.data.toList)) hs (by simpa using hl); show (Lib.join _ [32]).length ≤ _; omega)
set_option maxHeartbeats 1000000 in
theorem word_1  (w : World) : Calls Tryz.prog 253 #[.agg #[]] w fun e w' => e = .returned (.string (mkB (Opr.word 1))) ∧ Ext w w' := by
  go_enter Tryz.func253, Tryz.ntmps253
  go_wp2
  go_ret
  exact ⟨rfl, (Ext.refl _).alloc _⟩
set_option maxHeartbeats 1000000 in
theorem word_2  (w : World) : Calls Tryz.prog 254 #[.agg #[]] w fun e w' => e = .returned (.string (mkB (Opr.word 2))) ∧ Ext w w' := by
  go_enter Tryz.func254, Tryz.ntmps254
  go_wp2
  go_ret
  exact ⟨rfl, (Ext.refl _).alloc _⟩
set_option maxHeartbeats 1000000 in
theorem word_3 (p : ByteArray) (d : Int) (s : Bool) (q : Bool) (w : World) : Calls Tryz.prog 255 #[.agg #[.string p, .int .i64 d, .bool s, .bool q]] w fun e w' => e = .returned (.string (mkB (Opr.word 3))) ∧ Ext w w' := by
  go_enter Tryz.func255, Tryz.ntmps255
  go_wp2
  go_ret
  exact ⟨rfl, (Ext.refl _).alloc _⟩
set_option maxHeartbeats 1000000 in
theorem word_4 (p : ByteArray) (v : Int) (w : World) : Calls Tryz.prog 256 #[.agg #[.string p, .int .i64 v]] w fun e w' => e = .returned (.string (mkB (Opr.word 4))) ∧ Ext w w' := by
  go_enter Tryz.func256, Tryz.ntmps256
  go_wp2
  go_ret
  exact ⟨rfl, (Ext.refl _).alloc _⟩
set_option maxHeartbeats 1000000 in
theorem word_5 (p : ByteArray) (d : Int) (v : Int) (w : World) : Calls Tryz.prog 257 #[.agg #[.string p, .int .i64 d, .int .i64 v]] w fun e w' => e = .returned (.string (mkB (Opr.word 5))) ∧ Ext w w' := by
  go_enter Tryz.func257, Tryz.ntmps257
  go_wp2
  go_ret
  exact ⟨rfl, (Ext.refl _).alloc _⟩
set_option maxHeartbeats 1000000 in
theorem word_6 (p : ByteArray) (w : World) : Calls Tryz.prog 258 #[.agg #[.string p]] w fun e w' => e = .returned (.string (mkB (Opr.word 6))) ∧ Ext w w' := by
  go_enter Tryz.func258, Tryz.ntmps258
  go_wp2
  go_ret
  exact ⟨rfl, (Ext.refl _).alloc _⟩
set_option maxHeartbeats 1000000 in
theorem word_7 (p : ByteArray) (w : World) : Calls Tryz.prog 259 #[.agg #[.string p]] w fun e w' => e = .returned (.string (mkB (Opr.word 7))) ∧ Ext w w' := by
  go_enter Tryz.func259, Tryz.ntmps259
  go_wp2
  go_ret
  exact ⟨rfl, (Ext.refl _).alloc _⟩
set_option maxHeartbeats 1000000 in
theorem word_8 (p : ByteArray) (v : Int) (w : World) : Calls Tryz.prog 260 #[.agg #[.string p, .int .i64 v]] w fun e w' => e = .returned (.string (mkB (Opr.word 8))) ∧ Ext w w' := by
  go_enter Tryz.func260, Tryz.ntmps260
  go_wp2
  go_ret
  exact ⟨rfl, (Ext.refl _).alloc _⟩
end Go.Proofs.YtdjnkchaapcjpaaGreatDoor
