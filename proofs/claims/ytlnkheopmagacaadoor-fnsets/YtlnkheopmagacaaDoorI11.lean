/- slices.Delete of one node, in memory of its own. -/
import Derived.Test.YtlnkheopmagacaaDoorI7
import Derived.Laws.IdiomCopy
import Derived.Deep.RegionLaw
import Derived.Lib.SliceRun
namespace Go.Proofs.YtlnkheopmagacaaDoor
open Go.RowKit

theorem upd_setCells {g : Nat} {w : World} : ∀ (cs : List Value) (o : Nat) (w' : World), Upd g w w' → Upd g w (w'.setCells g o cs)
  | [], _, _, h => h
  | _ :: cs, o, _, h => upd_setCells cs (o + 1) _ (h.setAt o _)
theorem size_setCells (g : Nat) : ∀ (cs : List Value) (o : Nat) (w : World), (w.setCells g o cs).heap.size = w.heap.size
  | [], _, _ => rfl
  | _ :: cs, o, w => (size_setCells g cs (o + 1) _).trans (by simp)
theorem isSome_setC (g : Nat) (cs : List Value) (o : Nat) (w : World) (k : Nat) (h : ∃ u, w.cell? ⟨g, k, none⟩ = some u) (hall : ∀ j, j < cs.length → (w.cell? ⟨g, o + j, none⟩).isSome = true) : ∃ u, (w.setCells g o cs).cell? ⟨g, k, none⟩ = some u := by
  by_cases hh : k < o ∨ o + cs.length ≤ k
  · rw [World.cell?_setCells_out g cs o w _ (fun _ _ => hh)]; exact h
  · obtain ⟨j, rfl⟩ : ∃ j, k = o + j := ⟨k - o, by omega⟩
    exact ⟨_, World.cell?_setCells_in g cs o w hall j (by omega)⟩
theorem Room.setCells {w : World} {g off n : Nat} (h : Room w g off n) (o : Nat) (cs : List Value) (hall : ∀ j, j < cs.length → (w.cell? ⟨g, o + j, none⟩).isSome = true) : Room (w.setCells g o cs) g off n :=
  ⟨by rw [size_setCells]; exact h.1, fun j hj => ⟨isSome_setC g cs o w _ (h.2 j hj).1 hall, by rw [World.frozen?_setCells]; exact (h.2 j hj).2⟩⟩
theorem NodesAt.of_news {w : World} {b off : Nat} {zs : List Zn} (h : ∀ j u, (cellsZ zs)[j]? = some u → w.cell? ⟨b, off + j, none⟩ = some u) : NodesAt w b off zs := by
  rw [nodesAt_iff]
  intro i z hz s hs
  have hl : (zcells z).length = 5 := rfl
  have hc := cellsZ_get zs i s z hz hs
  obtain ⟨u, hu⟩ : ∃ u, (zcells z)[s]? = some u := ⟨_, List.getElem?_eq_getElem (by omega)⟩
  rw [hu] at hc ⊢
  rw [Nat.add_assoc]
  exact h _ _ hc
theorem NodesAt.news' {w : World} {b off : Nat} {zs : List Zn} (h : NodesAt w b off zs) : ∀ j u, (cellsZ zs)[j]? = some u → w.cell? ⟨b, off + j, none⟩ = some u := by
  intro j u hu
  have := h.news j u hu
  rw [Addr.add_lit] at this
  exact this
theorem NodesAt.take {w : World} {b off : Nat} {zs : List Zn} (h : NodesAt w b off zs) (k : Nat) : NodesAt w b off (zs.take k) := by
  intro i z hz
  rw [List.getElem?_take] at hz
  split at hz
  · exact h i z hz
  · cases hz
theorem NodesAt.drop {w : World} {b off : Nat} {zs : List Zn} (h : NodesAt w b off zs) (k : Nat) : NodesAt w b (off + k * 5) (zs.drop k) := by
  intro i z hz
  rw [List.getElem?_drop] at hz
  have := h (k + i) z hz
  rw [show off + (k + i) * 5 = off + k * 5 + i * 5 from by omega] at this
  exact this
theorem Room.some {w : World} {g off n : Nat} (h : Room w g off n) (o m : Nat) (h1 : off ≤ o) (h2 : o + m ≤ off + n * 5) : ∀ j, j < m → (w.cell? ⟨g, o + j, none⟩).isSome = true ∧ w.frozen? ⟨g, o + j, none⟩ = false := by
  intro j hj
  obtain ⟨⟨u, hu⟩, hf⟩ := h.2 (o + j - off) (by omega)
  rw [show off + (o + j - off) = o + j from by omega] at hu hf
  exact ⟨by rw [hu]; rfl, hf⟩
theorem Room.less {w : World} {g off n m : Nat} (h : Room w g off n) (hm : m ≤ n) : Room w g off m := ⟨h.1, fun j hj => h.2 j (by omega)⟩

/-- One node taken out: what lay behind it lies one place ahead. -/
theorem own_cutout {w : World} {g off k : Nat} {zs : List Zn} (hR : Room w g off zs.length) (hN : NodesAt w g off zs) (hk : k < zs.length) (zc : List Value) (hzc : zc.length = 5) :
    Room ((w.setCells g (off + k * 5) (cellsZ (zs.drop (k + 1)))).setCells g (off + (zs.length - 1) * 5) zc) g off (zs.take k ++ zs.drop (k + 1)).length ∧
    NodesAt ((w.setCells g (off + k * 5) (cellsZ (zs.drop (k + 1)))).setCells g (off + (zs.length - 1) * 5) zc) g off (zs.take k ++ zs.drop (k + 1)) := by
  have hld : (cellsZ (zs.drop (k + 1))).length = (zs.length - (k + 1)) * 5 := by rw [cellsZ_length, List.length_drop]
  have hlt : (cellsZ (zs.take k)).length = k * 5 := by rw [cellsZ_length, List.length_take]; omega
  have h1 := hR.some (off + k * 5) (cellsZ (zs.drop (k + 1))).length (by omega) (by omega)
  have hR1 := hR.setCells (off + k * 5) (cellsZ (zs.drop (k + 1))) (fun j hj => (h1 j hj).1)
  have h2 := hR1.some (off + (zs.length - 1) * 5) zc.length (by omega) (by omega)
  have hR2 := hR1.setCells (off + (zs.length - 1) * 5) zc (fun j hj => (h2 j hj).1)
  refine ⟨hR2.less (by simp; omega), NodesAt.of_news fun j u hu => ?_⟩
  rw [cellsZ_append] at hu
  have hj : j < (zs.length - 1) * 5 := by
    have := (List.getElem?_eq_some_iff.1 hu).1
    rw [List.length_append, hlt, hld] at this
    omega
  rw [World.cell?_setCells_out g zc _ _ _ (fun _ _ => .inl (by show off + j < _; omega))]
  by_cases hjk : j < k * 5
  · rw [List.getElem?_append_left (by omega)] at hu
    rw [World.cell?_setCells_out g _ _ _ _ (fun _ _ => .inl (by show off + j < _; omega))]
    exact (hN.take k).news' j u hu
  · rw [List.getElem?_append_right (by omega), hlt] at hu
    obtain ⟨i, rfl⟩ : ∃ i, j = k * 5 + i := ⟨j - k * 5, by omega⟩
    rw [show k * 5 + i - k * 5 = i from by omega] at hu
    obtain ⟨hi, he⟩ := List.getElem?_eq_some_iff.1 hu
    rw [← Nat.add_assoc, World.cell?_setCells_in g _ _ _ (fun j hj => (h1 j hj).1) i hi, he]

theorem clear_one (w : World) (ty : TypeId) (g o c : Nat) (hs : ∀ j, j < 5 → (w.cell? ⟨g, o + j, none⟩).isSome = true ∧ w.frozen? ⟨g, o + j, none⟩ = false) :
    (Builtin.clear_ #[24] ty #[.slice (some ⟨g, o, none⟩) 1 c]).run Tryd.prog w = .ok (.tuple #[]) (w.setCells g o [.string ByteArray.empty, .int .i64 0, .int .i64 0, .int .i64 0, .int .i64 0]) := by
  have hst := run_storeCells_cells (P := Tryd.prog) g o [.string ByteArray.empty, .int .i64 0, .int .i64 0, .int .i64 0, .int .i64 0] 0 w (by simpa using fun j hj => (hs j hj).1) (by simpa using fun j hj => (hs j hj).2) (by intro v hv; simp at hv; rcases hv with rfl | rfl | rfl | rfl | rfl <;> rfl)
  simp only [Nat.add_zero] at hst
  have hz : ∀ w, (zeroValue 32).run Tryd.prog w = .ok (.agg #[.string ByteArray.empty, .int .i64 0, .int .i64 0, .int .i64 0, .int .i64 0]) w := Tryd.zeroValue32
  have hzc : (Builtin.zeroCells (Value.agg #[.string ByteArray.empty, .int .i64 0, .int .i64 0, .int .i64 0, .int .i64 0]).cells 1).toList = [.string ByteArray.empty, .int .i64 0, .int .i64 0, .int .i64 0, .int .i64 0] := by kernel_rfl
  simp [Builtin.clear_, run_underlying Tryd.underlying24, hz, hzc, hst]
end Go.Proofs.YtlnkheopmagacaaDoor
