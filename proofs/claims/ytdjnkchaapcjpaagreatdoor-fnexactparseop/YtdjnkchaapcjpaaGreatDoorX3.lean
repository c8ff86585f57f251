/- the program's guessOp: strings.SplitN at a blank; the words in their array. -/
import Derived.Test.YtdjnkchaapcjpaaGreatDoorX1
import Derived.Shelf.Strings.Split
namespace Go.Proofs.YtdjnkchaapcjpaaGreatDoor
open Go.RowKit
theorem ixB (x : ByteArray) : Lib.indexB x ⟨#[32]⟩ = Lib.indexByte x.data.toList 32 := Lib.index_one x.data.toList 32
set_option maxHeartbeats 1000000 in
theorem splitN_any (s : ByteArray) (w : World) (hs : s.size ≤ 1048576) : Calls Tryz.prog 123 #[.string s, .string ⟨#[32]⟩, .int .i64 5] w fun e w' =>
    e = .returned (.slice (some ⟨w.heap.size, 0, none⟩) (Lib.splitB ⟨#[32]⟩ 0 (min 5 (s.size + 1) - 1) s).length (min 5 (s.size + 1))) ∧ w' = w.alloc (.cells (Lib.cellsOf (Lib.splitB ⟨#[32]⟩ 0 (min 5 (s.size + 1) - 1) s) (min 5 (s.size + 1))) 9) := by
  have hC : Calls Tryz.prog 187 #[.string s, .string ⟨#[32]⟩] w fun e w' => e = .returned (.int .i64 (Lib.countB s ⟨#[32]⟩)) ∧ w' = w := by
    refine (Any.strings_Count_one { lays147 with } s 32 w).mono fun e w' ⟨he, hw⟩ => ⟨?_, hw⟩
    rw [he]
    show _ = Ending.returned (Value.int .i64 ((Lib.count s.data.toList [32] : Nat) : Int))
    rw [Lib.count_one]
    rfl
  have c : Calls Tryz.prog 171 #[.string s, .string ⟨#[32]⟩, .int .i64 0, .int .i64 5] w fun e w' =>
      e = .returned (.slice (some ⟨w.heap.size, 0, none⟩) (Lib.splitB ⟨#[32]⟩ 0 (min 5 (s.size + 1) - 1) s).length (min 5 (s.size + 1))) ∧ w' = w.alloc (.cells (Lib.cellsOf (Lib.splitB ⟨#[32]⟩ 0 (min 5 (s.size + 1) - 1) s) (min 5 (s.size + 1))) 9) :=
    Any.strings_genSplit_core { lays147 with } (by kernel_rfl) s ⟨#[32]⟩ 0 5 (min 5 (s.size + 1)) w (by omega) (by decide) (by decide)
      (fun x cs _ => (Any.strings_Index_one { lays147 with } x 32 _).mono fun e w' ⟨he, hw⟩ => ⟨by rw [he, ixB], hw⟩) hC (by decide) (by decide) (by rw [if_neg (by decide)]; omega)
  clear hC
  go_enter Tryz.func123, Tryz.ntmps123
  go_wp2_with fail
  refine c.mono ?_
  rintro e w' ⟨rfl, hw⟩
  rw [hw]
  go_wp2
  go_ret
  exact ⟨rfl, rfl⟩
/-- The array of words, in a box of its own. -/
def WArr (w : World) (b : Nat) (p0 p1 p2 p3 p4 : ByteArray) : Prop := b < w.heap.size ∧ (w.cell? ⟨b, 0, none⟩ = some (.string p0) ∧ w.cell? ⟨b, 1, none⟩ = some (.string p1) ∧ w.cell? ⟨b, 2, none⟩ = some (.string p2) ∧ w.cell? ⟨b, 3, none⟩ = some (.string p3) ∧ w.cell? ⟨b, 4, none⟩ = some (.string p4)) ∧ w.frozen? ⟨b, 0, none⟩ = false ∧ w.frozen? ⟨b, 1, none⟩ = false ∧ w.frozen? ⟨b, 2, none⟩ = false ∧ w.frozen? ⟨b, 3, none⟩ = false ∧ w.frozen? ⟨b, 4, none⟩ = false
theorem WArr.ext {w w' : World} {b : Nat} {p0 p1 p2 p3 p4 : ByteArray} (h : WArr w b p0 p1 p2 p3 p4) (he : Ext w w') : WArr w' b p0 p1 p2 p3 p4 := by
  obtain ⟨hb, ⟨c0, c1, c2, c3, c4⟩, f0, f1, f2, f3, f4⟩ := h
  obtain ⟨hc, hf⟩ := Ext.cell he
  exact ⟨Nat.lt_of_lt_of_le hb he.size, ⟨(hc _ _ hb).trans c0, (hc _ _ hb).trans c1, (hc _ _ hb).trans c2, (hc _ _ hb).trans c3, (hc _ _ hb).trans c4⟩, (hf _ _ hb).trans f0, (hf _ _ hb).trans f1, (hf _ _ hb).trans f2, (hf _ _ hb).trans f3, (hf _ _ hb).trans f4⟩
theorem warr_new (w : World) (p0 p1 p2 p3 p4 : ByteArray) (t : TypeId) : WArr (w.alloc (.cells #[.string p0, .string p1, .string p2, .string p3, .string p4] t)) w.heap.size p0 p1 p2 p3 p4 := ⟨by simp, ⟨by simp, by simp, by simp, by simp, by simp⟩, by simp, by simp, by simp, by simp, by simp⟩
/-- The answer's box, that may be written. -/
def ORes (w : World) (b : Nat) : Prop := b < w.heap.size ∧ ∀ k, k < 6 → (∃ u, w.cell? ⟨b, k, none⟩ = some u) ∧ w.frozen? ⟨b, k, none⟩ = false
theorem ORes.ext {w w' : World} {b : Nat} (h : ORes w b) (he : Ext w w') : ORes w' b := by
  obtain ⟨hc, hf⟩ := Ext.cell he
  exact ⟨Nat.lt_of_lt_of_le h.1 he.size, fun k hk => ⟨by rw [hc _ _ h.1]; exact (h.2 k hk).1, by rw [hf _ _ h.1]; exact (h.2 k hk).2⟩⟩
theorem ORes.other {w w' : World} {b d : Nat} (h : ORes w b) (hne : b ≠ d) (hc : ∀ c k, c ≠ d → w'.cell? ⟨c, k, none⟩ = w.cell? ⟨c, k, none⟩) (hf : ∀ c k, w'.frozen? ⟨c, k, none⟩ = w.frozen? ⟨c, k, none⟩) (hs : w'.heap.size = w.heap.size) : ORes w' b :=
  ⟨by rw [hs]; exact h.1, fun k hk => ⟨by rw [hc _ _ hne]; exact (h.2 k hk).1, by rw [hf]; exact (h.2 k hk).2⟩⟩
theorem ores_new (w : World) (t : TypeId) : ORes (w.alloc (.cells #[.int .i64 0, .string ⟨#[]⟩, .int .i64 0, .int .i64 0, .bool false, .bool false] t)) w.heap.size := by
  refine ⟨by simp, fun k hk => ⟨?_, by simp⟩⟩
  have : k = 0 ∨ k = 1 ∨ k = 2 ∨ k = 3 ∨ k = 4 ∨ k = 5 := by omega
  rcases this with rfl | rfl | rfl | rfl | rfl | rfl
  all_goals exact ⟨_, by simp; rfl⟩
theorem ext_setCells {w : World} {b : Nat} (hb : w.heap.size ≤ b) : ∀ (vs : List Value) (o : Nat) (w' : World), Ext w w' → Ext w (w'.setCells b o vs)
  | [], _, _, h => h
  | v :: r, o, w', h => by rw [World.setCells]; exact ext_setCells hb r (o + 1) _ (h.setCell (p := ⟨b, o, none⟩) hb v)
theorem setCells_size (b : Nat) : ∀ (vs : List Value) (o : Nat) (w' : World), (w'.setCells b o vs).heap.size = w'.heap.size
  | [], _, _ => rfl
  | v :: r, o, w' => by rw [World.setCells, setCells_size b r]; simp
theorem copyWords (W : World) (b g cap : Nat) (ps : List ByteArray) (hn : ps.length ≤ 5) (hA : WArr W b ⟨#[]⟩ ⟨#[]⟩ ⟨#[]⟩ ⟨#[]⟩ ⟨#[]⟩) (hg : ∀ (j : Nat) x, ps[j]? = some x → W.cell? ⟨g, j, none⟩ = some (.string x)) :
    ∃ W3, Sem.run Tryz.prog (Builtin.copy_ #[115, 115] 3 #[.slice (some ⟨b, 0, none⟩) 5 5, .slice (some ⟨g, 0, none⟩) ps.length cap]) W = .ok (goInt ps.length) W3 ∧ WArr W3 b (ps.getD 0 ⟨#[]⟩) (ps.getD 1 ⟨#[]⟩) (ps.getD 2 ⟨#[]⟩) (ps.getD 3 ⟨#[]⟩) (ps.getD 4 ⟨#[]⟩) ∧ (∀ w : World, w.heap.size ≤ b → Ext w W → Ext w W3) ∧ (∀ c k, c ≠ b → W3.cell? ⟨c, k, none⟩ = W.cell? ⟨c, k, none⟩) ∧ (∀ c k, W3.frozen? ⟨c, k, none⟩ = W.frozen? ⟨c, k, none⟩) ∧ W3.heap.size = W.heap.size := by
  obtain ⟨hb, ⟨c0, c1, c2, c3, c4⟩, f0, f1, f2, f3, f4⟩ := hA
  have hcs : ∀ j, j < 5 → (W.cell? ⟨b, 0 + j, none⟩).isSome = true ∧ W.frozen? ⟨b, 0 + j, none⟩ = false ∧ W.cell? ⟨b, 0 + j, none⟩ = some (.string ⟨#[]⟩) := by
    intro j hj
    rw [Nat.zero_add]
    have : j = 0 ∨ j = 1 ∨ j = 2 ∨ j = 3 ∨ j = 4 := by omega
    rcases this with rfl | rfl | rfl | rfl | rfl
    · exact ⟨by rw [c0]; rfl, f0, c0⟩
    · exact ⟨by rw [c1]; rfl, f1, c1⟩
    · exact ⟨by rw [c2]; rfl, f2, c2⟩
    · exact ⟨by rw [c3]; rfl, f3, c3⟩
    · exact ⟨by rw [c4]; rfl, f4, c4⟩
  have hl : (ps.map Value.string).length = ps.length := by simp
  have hr := run_copy_cells (P := Tryz.prog) W 115 115 3 9 b 0 5 5 ⟨g, 0, none⟩ ps.length cap (ps.map Value.string) Tryz.underlying115 (by kernel_rfl) (by rw [hl]; exact (Nat.min_eq_left hn).symm)
    (fun j v hv => by
      rw [List.getElem?_map] at hv
      obtain ⟨x, hx, rfl⟩ := Option.map_eq_some_iff.1 hv
      rw [Addr.add_lit, Nat.zero_add]
      exact hg j x hx) (fun j hj => (hcs j (by omega)).1) (fun j hj => (hcs j (by omega)).2.1) (map_one ps)
  rw [hl] at hr
  have hcell : ∀ j, j < 5 → (W.setCells b 0 (ps.map Value.string)).cell? ⟨b, j, none⟩ = some (.string (ps.getD j ⟨#[]⟩)) := by
    intro j hj
    by_cases h : j < ps.length
    · have h2 := World.cell?_setCells_in b (ps.map Value.string) 0 W (fun k hk => (hcs k (by omega)).1) j (by omega)
      rw [Nat.zero_add] at h2
      rw [h2]
      simp [List.getD, h]
    · rw [World.cell?_setCells_out b _ 0 W ⟨b, j, none⟩ (fun _ _ => Or.inr (by simp; omega))]
      have h2 := (hcs j hj).2.2
      rw [Nat.zero_add] at h2
      rw [h2]; simp [List.getD, List.getElem?_eq_none (show ps.length ≤ j by omega)]
  refine ⟨_, hr, ⟨by rw [setCells_size]; exact hb, ⟨hcell 0 (by omega), hcell 1 (by omega), hcell 2 (by omega), hcell 3 (by omega), hcell 4 (by omega)⟩, ?_, ?_, ?_, ?_, ?_⟩, ?_, ?_, ?_, setCells_size _ _ _ _⟩
  · rw [World.frozen?_setCells]; exact f0
  · rw [World.frozen?_setCells]; exact f1
  · rw [World.frozen?_setCells]; exact f2
  · rw [World.frozen?_setCells]; exact f3
  · rw [World.frozen?_setCells]; exact f4
  · exact fun w hw he => ext_setCells hw _ _ _ he
  · exact fun c k hc => World.cell?_setCells_out b _ 0 W ⟨c, k, none⟩ (fun e _ => absurd e hc)
  · exact fun c k => World.frozen?_setCells _ _ _ _ _
end Go.Proofs.YtdjnkchaapcjpaaGreatDoor
