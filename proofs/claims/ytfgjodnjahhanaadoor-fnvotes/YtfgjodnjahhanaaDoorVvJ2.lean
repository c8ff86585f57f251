/- S1, V1, in one text. -/
import Derived.Test.YtfgjodnjahhanaaDoorProg
import Derived.Test.YtfgjodnjahhanaaDoorVvBase
import Derived.Deep.RegionWith
import Derived.Laws.MakeOwn
namespace Go.Proofs.YtfgjodnjahhanaaDoor
open Go.RowKit
set_option maxHeartbeats 400000 in
theorem l1In_any (v lo hi : Int) (w : World) :
    Calls Tryd.prog 30 #[.int .i64 v, .int .i64 lo, .int .i64 hi] w fun e w' => e = .returned (.bool (decide (lo ≤ v) && decide (v ≤ hi))) ∧ w' = w := by
  by_cases h : lo ≤ v
  · go_enter Tryd.func30, Tryd.ntmps30
    go_wp2
    go_ret
    exact ⟨ret_bool (by simp [h]), rfl⟩
  · have h2 : decide (lo ≤ v) = false := by simpa using h
    go_enter Tryd.func30, Tryd.ntmps30
    go_wp2
    go_ret
    exact ⟨ret_bool (by simp), rfl⟩

/-! ### l1Cut -/
/-- Where the pieces stand behind a round. -/
def CutAt (l : List UInt8) (ps : List ByteArray) (f k : Nat) : Prop :=
  f ≤ k ∧ ps.length ≤ k ∧ ps.map (·.data.toList) ++ (if k ≤ l.length then Pth.cut ((l.drop f).take (k - f)) (l.drop k) else []) = Pth.cut [] l
end Go.Proofs.YtfgjodnjahhanaaDoor
namespace Go.Proofs.YtfgjodnjahhanaaDoor
open Go.RowKit
/-- One more number in a sum. -/
def Sm.step (n x : Int) : Int := (n * 31 + x + 1) % 1000003
def Sm.sum (l : List Int) : Int := l.foldl Sm.step 7
def Sm.is (n : Int) : Bool := decide (0 ≤ n) && decide (n ≤ 1000002)
def Sm.ok (l : List Int) : Bool := l.all Sm.is
def Sm.sumV (l : List Int) : Int × Int := if 200 < l.length then (2, 0) else if Sm.ok l = true then (0, Sm.sum l) else (3, 0)
/-- The numbers l lie in block b, from off on. -/
def NumsAt (w : World) (b off : Nat) (l : List Int) : Prop := ∀ (i : Nat) x, l[i]? = some x → w.cell? ⟨b, off + i, none⟩ = some (.int .i64 x)
theorem NumsAt.ext {w w' : World} {b off : Nat} {l : List Int} (h : NumsAt w b off l) (hb : b < w.heap.size) (he : Ext w w') : NumsAt w' b off l := by
  intro i x hx
  exact ((Ext.cell he).1 _ _ hb).trans (h i x hx)
/-- The slice value v reads as the numbers l. -/
def ISlice (w : World) (v : Value) (l : List Int) : Prop :=
  ∃ a cap, v = .slice a l.length cap ∧ l.length ≤ cap ∧ cap ≤ maxLen ∧ (0 < l.length → ∃ b off, a = some ⟨b, off, none⟩ ∧ b < w.heap.size ∧ NumsAt w b off l)
theorem ISlice.ext {w w' : World} {v : Value} {l : List Int} (h : ISlice w v l) (he : Ext w w') : ISlice w' v l := by
  obtain ⟨a, cap, h1, h2, h3, h4⟩ := h
  refine ⟨a, cap, h1, h2, h3, fun h0 => ?_⟩
  obtain ⟨b, off, e, hb, hN⟩ := h4 h0
  exact ⟨b, off, e, Nat.lt_of_lt_of_le hb he.size, hN.ext hb he⟩

/-- Block r holds an IntResult that nobody has written yet, and may be written. -/
def IBox (w : World) (r : Nat) : Prop :=
  r < w.heap.size ∧ w.cell? ⟨r, 0, none⟩ = some (.int .i64 0) ∧ w.cell? ⟨r, 1, none⟩ = some (.int .i64 0) ∧ w.frozen? ⟨r, 0, none⟩ = false ∧ w.frozen? ⟨r, 1, none⟩ = false
theorem IBox.new (w : World) (t : TypeId) : IBox (w.alloc (.cells #[.int .i64 0, .int .i64 0] t)) w.heap.size := ⟨by simp, by simp, by simp, by simp, by simp⟩
theorem IBox.ext {w w2 : World} {r : Nat} (h : IBox w r) (he : Ext w w2) : IBox w2 r := by
  obtain ⟨hc, hf⟩ := Ext.cell he
  obtain ⟨h1, h2, h3, h5, h6⟩ := h
  exact ⟨Nat.lt_of_lt_of_le h1 he.size, (hc _ _ h1).trans h2, (hc _ _ h1).trans h3, (hf _ _ h1).trans h5, (hf _ _ h1).trans h6⟩
theorem Ext.two {w w2 : World} (h : Ext w w2) (a b : Value) : Ext w ((w2.setCell ⟨w.heap.size, 0, none⟩ a).setCell ⟨w.heap.size, 1, none⟩ b) :=
  (h.setCell (p := ⟨w.heap.size, 0, none⟩) (Nat.le_refl _) a).setCell (p := ⟨w.heap.size, 1, none⟩) (Nat.le_refl _) b

def Sm.pairV (x y : Int) : Int × Int := Sm.sumV [1, x, y]
end Go.Proofs.YtfgjodnjahhanaaDoor
