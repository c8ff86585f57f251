/- the laws' small functions over texts in slices. -/
import Derived.Test.YtlnkheopmagacaaDoorZ6
namespace Go.Proofs.YtlnkheopmagacaaDoor
open Go.RowKit

def TextsAt (w : World) (b off : Nat) (ts : List ByteArray) : Prop := ∀ (i : Nat) t, ts[i]? = some t → w.cell? ⟨b, off + i, none⟩ = some (.string t)
theorem TextsAt.ext {w w' : World} {b off : Nat} {ts : List ByteArray} (h : TextsAt w b off ts) (hb : b < w.heap.size) (he : Ext w w') : TextsAt w' b off ts :=
  fun i t ht => ((Ext.cell he).1 _ _ hb).trans (h i t ht)
theorem TextsAt.upd {w w' : World} {g off b : Nat} {ts : List ByteArray} (h : TextsAt w g off ts) (he : Upd b w w') (hne : g ≠ b) (hg : g < w.heap.size) : TextsAt w' g off ts :=
  fun i t ht => (he.at_ne _ _ hne hg).1.trans (h i t ht)
/-- The slice value v reads as the texts ts. -/
def TSlice (w : World) (v : Value) (ts : List ByteArray) : Prop :=
  ∃ a cap, v = .slice a ts.length cap ∧ ts.length ≤ cap ∧ cap ≤ maxLen ∧ (0 < ts.length → ∃ b off, a = some ⟨b, off, none⟩ ∧ b < w.heap.size ∧ TextsAt w b off ts)
theorem TSlice.ext {w w' : World} {v : Value} {ts : List ByteArray} (h : TSlice w v ts) (he : Ext w w') : TSlice w' v ts := by
  obtain ⟨a, cap, h1, h2, h3, h4⟩ := h
  refine ⟨a, cap, h1, h2, h3, fun h0 => ?_⟩
  obtain ⟨b, off, e, hb, hN⟩ := h4 h0
  exact ⟨b, off, e, Nat.lt_of_lt_of_le hb he.size, hN.ext hb he⟩
/-- Block g holds room for n texts from off on, and may be written there. -/
def TRoom (w : World) (g off n : Nat) : Prop := g < w.heap.size ∧ ∀ j, j < n → (∃ u, w.cell? ⟨g, off + j, none⟩ = some u) ∧ w.frozen? ⟨g, off + j, none⟩ = false
theorem TRoom.ext {w w' : World} {g off n : Nat} (h : TRoom w g off n) (he : Ext w w') : TRoom w' g off n := by
  obtain ⟨hc, hf⟩ := Ext.cell he
  exact ⟨Nat.lt_of_lt_of_le h.1 he.size, fun j hj => ⟨by rw [hc _ _ h.1]; exact (h.2 j hj).1, by rw [hf _ _ h.1]; exact (h.2 j hj).2⟩⟩
theorem TRoom.upd {w w' : World} {g off n b : Nat} (h : TRoom w g off n) (he : Upd b w w') (hne : g ≠ b) : TRoom w' g off n :=
  ⟨Nat.lt_of_lt_of_le h.1 he.2.1, fun j hj => ⟨by rw [(he.at_ne _ _ hne h.1).1]; exact (h.2 j hj).1, by rw [(he.at_ne _ _ hne h.1).2]; exact (h.2 j hj).2⟩⟩
theorem TRoom.put {w : World} {g off n k : Nat} (h : TRoom w g off n) (t : ByteArray) (_hk : k < n) : TRoom (w.setCell ⟨g, off + k, none⟩ (.string t)) g off n := by
  refine ⟨by simpa using h.1, fun j hj => ⟨?_, by simpa using (h.2 j hj).2⟩⟩
  by_cases hjk : j = k
  · subst hjk; exact ⟨_, set_eq _ _ _ _ (h.2 j hj).1⟩
  · rw [set_ne _ _ _ _ _ _ (by omega)]; exact (h.2 j hj).1
theorem TextsAt.put {w : World} {g off n k : Nat} {ts : List ByteArray} {t : ByteArray} (hr : TRoom w g off n) (hk : k < n) (hz : ts[k]? = some t) (h : TextsAt w g off (ts.take k)) : TextsAt (w.setCell ⟨g, off + k, none⟩ (.string t)) g off (ts.take (k + 1)) := by
  intro i t' hi
  rw [List.getElem?_take] at hi
  split at hi
  · by_cases hik : i = k
    · subst hik
      rw [hz] at hi
      cases hi
      exact set_eq _ _ _ _ (hr.2 i hk).1
    · rw [set_ne _ _ _ _ _ _ (by omega)]
      exact h i t' (by rw [List.getElem?_take, if_pos (by omega)]; exact hi)
  · cases hi
def TOwn (w : World) (v : Value) (g : Nat) (ts : List ByteArray) : Prop :=
  ∃ a cap, v = .slice a ts.length cap ∧ ts.length ≤ cap ∧ cap ≤ maxLen ∧ (0 < ts.length → ∃ off, a = some ⟨g, off, none⟩ ∧ TRoom w g off ts.length ∧ TextsAt w g off ts)
theorem TOwn.slice {w : World} {v : Value} {g : Nat} {ts : List ByteArray} (h : TOwn w v g ts) : TSlice w v ts := by
  obtain ⟨a, cap, h1, h2, h3, h4⟩ := h
  refine ⟨a, cap, h1, h2, h3, fun h0 => ?_⟩
  obtain ⟨off, e, hr, hN⟩ := h4 h0
  exact ⟨g, off, e, hr.1, hN⟩
theorem TOwn.ext {w w' : World} {v : Value} {g : Nat} {ts : List ByteArray} (h : TOwn w v g ts) (he : Ext w w') : TOwn w' v g ts := by
  obtain ⟨a, cap, h1, h2, h3, h4⟩ := h
  refine ⟨a, cap, h1, h2, h3, fun h0 => ?_⟩
  obtain ⟨off, e, hr, hN⟩ := h4 h0
  exact ⟨off, e, hr.ext he, hN.ext hr.1 he⟩
theorem TOwn.lt {w : World} {v : Value} {g : Nat} {ts : List ByteArray} (h : TOwn w v g ts) (h0 : 0 < ts.length) : g < w.heap.size := by
  obtain ⟨a, cap, -, -, -, h4⟩ := h
  obtain ⟨off, -, hr, -⟩ := h4 h0
  exact hr.1
theorem TOwn.nil {w w' : World} {v : Value} {g g' : Nat} {ts : List ByteArray} (h : TOwn w v g ts) (h0 : ¬ 0 < ts.length) : TOwn w' v g' ts := by
  obtain ⟨a, cap, h1, h2, h3, -⟩ := h
  exact ⟨a, cap, h1, h2, h3, fun h => absurd h h0⟩
theorem TOwn.upd' {w w' : World} {v : Value} {g b : Nat} {ts : List ByteArray} (h : TOwn w v g ts) (he : Upd b w w') (hne : 0 < ts.length → g ≠ b) : TOwn w' v g ts := by
  by_cases h0 : 0 < ts.length
  · obtain ⟨a, cap, h1, h2, h3, h4⟩ := h
    refine ⟨a, cap, h1, h2, h3, fun _ => ?_⟩
    obtain ⟨off, e, hr, hN⟩ := h4 h0
    exact ⟨off, e, hr.upd he (hne h0), hN.upd he (hne h0) hr.1⟩
  · exact h.nil h0
theorem TOwn.pick {w : World} {v : Value} {g : Nat} {ts : List ByteArray} (h : TOwn w v g ts) : ∃ g', g' ≤ w.heap.size ∧ TOwn w v g' ts ∧ (g' = w.heap.size ∧ ¬ 0 < ts.length ∨ (g' = g ∧ g < w.heap.size ∧ 0 < ts.length)) := by
  by_cases h0 : 0 < ts.length
  · exact ⟨g, Nat.le_of_lt (h.lt h0), h, Or.inr ⟨rfl, h.lt h0, h0⟩⟩
  · exact ⟨_, Nat.le_refl _, h.nil h0, Or.inl ⟨rfl, h0⟩⟩

def tmarks (k n : Nat) : List ByteArray := (List.range n).map fun i => mtext (k + i)
theorem tmarks_length (k n : Nat) : (tmarks k n).length = n := by simp [tmarks]
theorem tmarks_get (k n i : Nat) (h : i < n) : (tmarks k n)[i]? = some (mtext (k + i)) := by
  unfold tmarks
  rw [List.getElem?_map, List.getElem?_range h]; rfl

/-- A TextsResult as a value. -/
def xr (c : Int) (v : Value) : Value := .agg #[.int .i64 c, v]

end Go.Proofs.YtlnkheopmagacaaDoor
