/- P0, J1, in one text. -/
import Derived.Test.YtfgjodnjahhanaaDoorVvBase
import Derived.Test.YtfgjodnjahhanaaDoorSh
import Derived.Lib.SmallJoins
import Derived.Lib.AppendIntMem
import Derived.Laws.AppendOwnNone
import Derived.Lib.ItoaLen
import Derived.Deep.RegionHeld3
namespace Go.Proofs.YtfgjodnjahhanaaDoor
open Go.RowKit
/-- The library's table of powers is as it is. -/
def Tb (w : World) : Prop := Lib.TabIs Tryd.prog w "internal/strconv.uint64pow10" .u64 Lib.pow10Tab
theorem gPow : Tryd.prog.globalNamed "internal/strconv.uint64pow10" = some 0 := by kernel_rfl
theorem Tb.ext {w w' : World} (h : Tb w) (he : Ext w w') : Tb w' := Joins.tab_stays gPow h he (Nat.le_refl _)
theorem formatInt_any (n : Int) (w : World) (h0 : -1 ≤ n) (h1 : n ≤ 99999) (ht : Tb w) : Calls Tryd.prog 34 #[.int .i64 n, .int .i64 10] w fun e w' => e = .returned (.string (mkB (Lib.itoa n))) ∧ Ext w w' :=
  (strconv_FormatInt_10 n (by omega) (by omega) w ht).mono fun _ _ ⟨he, k, os, hw⟩ => ⟨he, hw ▸ Lib.below_grow _ _ (Nat.le_refl _) _ _⟩
set_option maxHeartbeats 1000000 in
theorem numberText_any (n : Int) (w : World) (h0 : -1 ≤ n) (h1 : n ≤ 99999) (ht : Tb w) : Calls Tryd.prog 20 #[.int .i64 n] w fun e w' => e = .returned (.string (mkB (Lib.itoa n))) ∧ Ext w w' := by
  have HF : Hid (Calls Tryd.prog 34 #[.int .i64 n, .int .i64 10] w fun e w' => e = .returned (.string (mkB (Lib.itoa n))) ∧ Ext w w') := formatInt_any n w h0 h1 ht
  generalize mkB (Lib.itoa n) = s at *
  go_enter Tryd.func20, Tryd.ntmps20
  go_wp2_with fail
  refine HF.out.mono ?_
  rintro e w1 ⟨rfl, hb⟩
  go_wp2
  go_ret
  exact ⟨rfl, hb⟩
end Go.Proofs.YtfgjodnjahhanaaDoor
namespace Go.Proofs.YtfgjodnjahhanaaDoor
open Go.RowKit
theorem mkB_size (l : List UInt8) : (mkB l).size = l.length := by rw [← len_eq, mkB_list]
theorem cat_data (a b : ByteArray) : (a ++ b).data.toList = a.data.toList ++ b.data.toList := by simp [ByteArray.data_append]
theorem itoa_len (n : Int) (h0 : -1 ≤ n) (h1 : n ≤ 99999) : (Lib.itoa n).length ≤ 21 := Lib.itoa_length_le n (by omega) (by omega)
theorem joinW_short (xs : List (List UInt8)) (h : ∀ x ∈ xs, x.length ≤ 30) (hl : xs.length ≤ 10) : (Lib.join xs [32]).length ≤ 400 := by
  have : ∀ (xs : List (List UInt8)), (∀ x ∈ xs, x.length ≤ 30) → (Lib.joinTail [32] xs).length ≤ 31 * xs.length := by
    intro xs
    induction xs with
    | nil => simp [Lib.joinTail]
    | cons x t ih =>
      intro hx
      have h1 := ih (fun y hy => hx y (List.mem_cons_of_mem _ hy))
      have h2 := hx x (List.mem_cons_self)
      simp only [Lib.joinTail, List.map_cons, List.flatten_cons, List.length_append, List.length_cons, List.length_nil] at h1 ⊢
      omega
  cases xs with
  | nil => simp [Lib.join_nil]
  | cons x t =>
    rw [Lib.join_cons, List.length_append]
    have h1 := this t (fun y hy => h y (List.mem_cons_of_mem _ hy))
    have h2 := h x (List.mem_cons_self)
    simp only [List.length_cons] at hl
    omega
theorem map_one (ps : List ByteArray) : ∀ u ∈ ps.map Value.string, u.oneCell' = true := by
  intro u hu
  obtain ⟨x, -, rfl⟩ := List.mem_map.1 hu
  rfl
theorem joinStr_any (bk o c : Nat) (xs : List ByteArray) (w : World) (hcells : ∀ (j : Nat) x, xs[j]? = some x → w.cell? ⟨bk, o + j, none⟩ = some (.string x)) (hbk : bk < w.heap.size) (hcap : xs.length ≤ c) (hs : ∀ x ∈ xs.map (·.data.toList), x.length ≤ 30) (hl : xs.length ≤ 10) :
    Calls Tryd.prog 21 #[.slice (some ⟨bk, o, none⟩) xs.length c, .string ⟨#[32]⟩] w fun e w' => e = .returned (.string (mkB (Lib.join (xs.map (·.data.toList)) [32]))) ∧ Ext w w' :=
  strings_Join bk o c xs ⟨#[32]⟩ w hcells hbk (by omega) hcap (by have := joinW_short (xs.map (·.data.toList)) hs (by simpa using hl); show (Lib.join _ [32]).length ≤ _; omega)
theorem add_run (a b : ByteArray) (n m : Nat) (ha : a.size ≤ n) (hb : b.size ≤ m) (h : n + m ≤ 100000) : ∃ c : ByteArray, c.data.toList = a.data.toList ++ b.data.toList ∧ c.size ≤ n + m ∧ ∀ W : World, (Op.stringOp .add a b).run Tryd.prog W = .ok (.string c) W :=
  ⟨a ++ b, cat_data a b, by rw [ByteArray.size_append]; omega, fun W => run_string_add W a b (by omega) (by omega)⟩
/-- A text's result in a box of its own, that may be written. -/
def TBoxAt (w : World) (b : Nat) (c : Int) (s : ByteArray) : Prop := b < w.heap.size ∧ w.cell? ⟨b, 0, none⟩ = some (.int .i64 c) ∧ w.cell? ⟨b, 1, none⟩ = some (.string s) ∧ w.frozen? ⟨b, 0, none⟩ = false ∧ w.frozen? ⟨b, 1, none⟩ = false
theorem TBoxAt.ext {w w' : World} {b : Nat} {c : Int} {s : ByteArray} (h : TBoxAt w b c s) (he : Ext w w') : TBoxAt w' b c s := by
  obtain ⟨hb, c0, c1, f0, f1⟩ := h
  obtain ⟨hc, hf⟩ := Ext.cell he
  exact ⟨Nat.lt_of_lt_of_le hb he.size, (hc _ _ hb).trans c0, (hc _ _ hb).trans c1, (hf _ _ hb).trans f0, (hf _ _ hb).trans f1⟩
theorem tbox_new (w : World) (c : Int) (s : ByteArray) (t : TypeId) : TBoxAt (w.alloc (.cells #[.int .i64 c, .string s] t)) w.heap.size c s := ⟨by simp, by simp, by simp, by simp, by simp⟩
end Go.Proofs.YtfgjodnjahhanaaDoor
