/- Pure, Base, S1, V1, V2, Z1, in one text. -/
import Derived.WalkKit
import Derived.WalkLawsBesides
import Derived.WalkSpells
import Derived.Lib.Bytealg
import Derived.Lib.Strings
import Derived.Test.YtecgjdgfjgcmdaaGreatProg
import Derived.Deep.RegionWith
import Derived.Laws.MakeOwn
namespace Go.Proofs.YtecgjdgfjgcmdaaGreat
namespace Pth
def nb (c : UInt8) : Bool := (decide (97 ≤ c) && decide (c ≤ 122)) || (decide (48 ≤ c) && decide (c ≤ 57))

/-- The machine inside a name: k bytes of it are read; at: the place; last: where the name begins; names: how many. -/
def scan : List UInt8 → Nat → Nat → Nat → Nat → Option (Nat × Nat)
 | [], k, _, last, names => if k = 0 then none else some (names, last)
 | c :: r, k, at_, last, names =>
  if k < 8 ∧ nb c = true then scan r (k + 1) (at_ + 1) last names
  else if k = 0 then none
  else if c = 47 then scan r 0 (at_ + 1) (at_ + 1) (names + 1) else none

def slashAt : List UInt8 → Nat → Nat → Option (Nat × Nat)
 | [], _, _ => none
 | c :: r, at_, names => if c = 47 then scan r 0 (at_ + 1) (at_ + 1) (names + 1) else none

def rd (l : List UInt8) : Option (Nat × Nat) := if l = [47] then some (0, 0) else slashAt l 0 0

def many (l : List UInt8) : Bool := decide (24 < l.length) || decide (4 < l.count 47)

def faultI (l : List UInt8) : Int := if many l then 2 else if (rd l).isNone then 5 else 0

def cut : List UInt8 → List UInt8 → List (List UInt8)
 | cur, [] => [cur]
 | cur, c :: r => if c = 47 then cur :: cut [] r else cut (cur ++ [c]) r

def okName (n : List UInt8) : Bool := n.all nb && (decide (1 ≤ n.length) && decide (n.length ≤ 8))

def namesS (l : List UInt8) : Option (List (List UInt8)) :=
 if l = [47] then some [] else
 if (cut [] l).length < 2 ∨ (cut [] l).head? ≠ some [] then none
 else if (cut [] l).tail.all okName then some (cut [] l).tail else none

def manyS (l : List UInt8) : Bool := decide (24 < l.length) || (decide (l ≠ [47]) && decide (5 < (cut [] l).length))
def faultS (l : List UInt8) : Int := if manyS l then 2 else if (namesS l).isNone then 5 else 0

def lastSl : List UInt8 → Nat → Nat → Nat
 | [], _, a => a
 | c :: r, i, a => if c = 47 then lastSl r (i + 1) i else lastSl r (i + 1) a

/-! ### What the functions answer -/
def parentV (l : List UInt8) : Int × List UInt8 :=
 if faultI l ≠ 0 then (faultI l, []) else if l = [47] then (4, []) else (0, if lastSl l 0 0 = 0 then [47] else l.take (lastSl l 0 0))
def nameV (l : List UInt8) : Int × List UInt8 :=
 if faultI l ≠ 0 then (faultI l, []) else if l = [47] then (4, []) else (0, l.drop (lastSl l 0 0 + 1))
def deepV (l : List UInt8) : Int × Int :=
 if faultI l ≠ 0 then (faultI l, 0) else (0, if l = [47] then 0 else (l.count 47 : Nat))
def joined (l n : List UInt8) : List UInt8 := if l = [47] then 47 :: n else l ++ 47 :: n
def joinV (l n : List UInt8) : Int × List UInt8 :=
 if faultI l ≠ 0 then (faultI l, []) else if okName n = false then (5, []) else if faultI (joined l n) ≠ 0 then (faultI (joined l n), []) else (0, joined l n)
def under (p t : List UInt8) : Bool := decide (p = t) || (decide (t = [47]) || (t ++ [47]).isPrefixOf p)
def underV (p t : List UInt8) : Bool := decide (faultI p = 0) && (decide (faultI t = 0) && under p t)
def seqd (n : List UInt8) (k : Nat) : List UInt8 := n ++ [UInt8.ofNat (48 + k / 10), UInt8.ofNat (48 + k % 10)]
def seqV (n : List UInt8) (k : Int) : Int × List UInt8 :=
 if okName n = false then (5, []) else if k < 0 ∨ 99 < k then (3, []) else if okName (seqd n k.toNat) = false then (5, []) else (0, seqd n k.toNat)

end Pth
end Go.Proofs.YtecgjdgfjgcmdaaGreat
namespace Go.Proofs.YtecgjdgfjgcmdaaGreat
open Go.RowKit
def nbI (n : Int) : Bool := (decide (97 ≤ n) && decide (n ≤ 122)) || (decide (48 ≤ n) && decide (n ≤ 57))

theorem ret_bool {a b : Bool} (h : a = b) : Ending.returned (.bool a) = .returned (.bool b) := by rw [h]

theorem ret_int {k : IntKind} {a b : Int} (h : a = b) : Ending.returned (.int k a) = .returned (.int k b) := by rw [h]

def intOf : Value → Int | .int _ q => q | _ => 0

/-- All that was there is as it was. -/
def Ext (w w' : World) : Prop := Below w.heap.size w w'

theorem Ext.refl (w : World) : Ext w w := Below.refl _ _

theorem Ext.trans {w w1 w2 : World} (h1 : Ext w w1) (h2 : Ext w1 w2) : Ext w w2 := Below.trans h1 (Below.mono h2 (Below.size h1))

theorem Ext.alloc {w w1 : World} (h1 : Ext w w1) (o : Obj) : Ext w (w1.alloc o) := Below.alloc h1 (Below.size h1) o

theorem Ext.drew {w w1 : World} (h1 : Ext w w1) : Ext w w1.drew := Ext.trans h1 (by unfold Ext; exact (Below.refl _ _).drew)

theorem Ext.size {w w1 : World} (h1 : Ext w w1) : w.heap.size ≤ w1.heap.size := Below.size h1

theorem Ext.kept {w w1 : World} (h : Ext w w1) (may : MemPlace → Prop) : w.keptBut w1 may := Below.frame h may

def mkB (l : List UInt8) : ByteArray := ⟨l.toArray⟩

theorem Ext.cell {w w1 : World} (h : Ext w w1) : (∀ b o, b < w.heap.size → w1.cell? ⟨b, o, none⟩ = w.cell? ⟨b, o, none⟩) ∧ (∀ b o, b < w.heap.size → w1.frozen? ⟨b, o, none⟩ = w.frozen? ⟨b, o, none⟩) :=
 ⟨fun b o hb => Below.cell h (p := ⟨b, o, none⟩) hb, fun b o hb => Below.frozen h (p := ⟨b, o, none⟩) hb⟩

theorem Ext.setCell {w w1 : World} (h : Ext w w1) {p : Addr} (hp : w.heap.size ≤ p.block) (v : Value) : Ext w (w1.setCell p v) := Below.setCell h hp v

def tr (x : Int × List UInt8) : Value := .agg #[.int .i64 x.1, .string (mkB x.2)]

def ir (x : Int × Int) : Value := .agg #[.int .i64 x.1, .int .i64 x.2]

theorem alloc_cell (W : World) (o : Obj) (b k : Nat) (h : b < W.heap.size) : (W.alloc o).cell? ⟨b, k, none⟩ = W.cell? ⟨b, k, none⟩ := World.cell?_alloc_lt _ _ _ h

/-- Nothing older than the source has turned, nor any block behind it that was there. -/
def Upd (b : Nat) (w w' : World) : Prop :=
 Below b w w' ∧ w.heap.size ≤ w'.heap.size ∧ ∀ c o, b < c → c < w.heap.size → w'.cell? ⟨c, o, none⟩ = w.cell? ⟨c, o, none⟩ ∧ w'.frozen? ⟨c, o, none⟩ = w.frozen? ⟨c, o, none⟩

theorem Upd.refl (b : Nat) (w : World) : Upd b w w := ⟨Below.refl _ _, Nat.le_refl _, fun _ _ _ _ => ⟨rfl, rfl⟩⟩

theorem Upd.trans {b : Nat} {w w1 w2 : World} (h : Upd b w w1) (h2 : Upd b w1 w2) : Upd b w w2 :=
 ⟨h.1.trans h2.1, Nat.le_trans h.2.1 h2.2.1, fun c o hc hl => ⟨((h2.2.2 c o hc (Nat.lt_of_lt_of_le hl h.2.1)).1).trans (h.2.2 c o hc hl).1, ((h2.2.2 c o hc (Nat.lt_of_lt_of_le hl h.2.1)).2).trans (h.2.2 c o hc hl).2⟩⟩

theorem Upd.alloc {b : Nat} (w : World) (o : Obj) (hb : b ≤ w.heap.size) : Upd b w (w.alloc o) :=
 ⟨(Below.refl _ _).alloc hb _, by simp, fun c k _ hl => ⟨World.cell?_alloc_lt _ _ _ hl, World.frozen?_alloc_old _ _ _ (Nat.ne_of_lt hl)⟩⟩

theorem Upd.ext {b : Nat} {w w' : World} (h : Ext w w') (hb : b ≤ w.heap.size) : Upd b w w' :=
 ⟨Below.mono h hb, h.size, fun c o _ hl => ⟨Below.cell h (p := ⟨c, o, none⟩) hl, Below.frozen h (p := ⟨c, o, none⟩) hl⟩⟩
theorem Upd.setAt {b : Nat} {w w' : World} (h : Upd b w w') (o : Nat) (v : Value) : Upd b w (w'.setCell ⟨b, o, none⟩ v) := by
 refine ⟨Below.setCell (p := ⟨b, o, none⟩) h.1 (Nat.le_refl _) v, by simpa using h.2.1, fun c k hc hl => ?_⟩
 refine ⟨?_, by simpa using (h.2.2 c k hc hl).2⟩
 rw [World.cell?_setCell_other _ _ _ _ (by intro e; injection e with e1 _ _; exact (Nat.ne_of_gt hc) e1.symm)]
 exact (h.2.2 c k hc hl).1
theorem Upd.at_ne {b : Nat} {w w' : World} (h : Upd b w w') (c o : Nat) (hc : c ≠ b) (hl : c < w.heap.size) : w'.cell? ⟨c, o, none⟩ = w.cell? ⟨c, o, none⟩ ∧ w'.frozen? ⟨c, o, none⟩ = w.frozen? ⟨c, o, none⟩ := by
 rcases Nat.lt_or_ge c b with hlt | hge
 ·exact ⟨h.1.cell (p := ⟨c, o, none⟩) hlt, h.1.frozen (p := ⟨c, o, none⟩) hlt⟩
 ·exact h.2.2 c o (by omega) hl
theorem Upd.to_ext {b : Nat} {w w1 w' : World} (h : Upd b w1 w') (he : Ext w w1) (hb : w.heap.size ≤ b) : Ext w w' := Below.trans he (Below.mono h.1 hb)
end Go.Proofs.YtecgjdgfjgcmdaaGreat
namespace Go.Proofs.YtecgjdgfjgcmdaaGreat
open Go.RowKit
set_option maxHeartbeats 400000 in
theorem l1In_any (v lo hi : Int) (w : World) :
  Calls Tryz.prog 57 #[.int .i64 v, .int .i64 lo, .int .i64 hi] w fun e w' => e = .returned (.bool (decide (lo ≤ v) && decide (v ≤ hi))) ∧ w' = w := by
 by_cases h : lo ≤ v
 ·go_enter Tryz.func57, Tryz.ntmps57
  go_wp2
  go_ret
  exact ⟨ret_bool (by simp [h]), rfl⟩
 ·have h2 : decide (lo ≤ v) = false := by simpa using h
  go_enter Tryz.func57, Tryz.ntmps57
  go_wp2
  go_ret
  exact ⟨ret_bool (by simp), rfl⟩

/-! ### l1Cut -/
/-- Where the pieces stand behind a round. -/
def CutAt (l : List UInt8) (ps : List ByteArray) (f k : Nat) : Prop :=
 f ≤ k ∧ ps.length ≤ k ∧ ps.map (·.data.toList) ++ (if k ≤ l.length then Pth.cut ((l.drop f).take (k - f)) (l.drop k) else []) = Pth.cut [] l
end Go.Proofs.YtecgjdgfjgcmdaaGreat
namespace Go.Proofs.YtecgjdgfjgcmdaaGreat
open Go.RowKit
/-- One more number in a sum. -/
def Sm.step (n x : Int) : Int := (n * 31 + x + 1) % 1000003
def Sm.sum (l : List Int) : Int := l.foldl Sm.step 7
def Sm.is (n : Int) : Bool := decide (0 ≤ n) && decide (n ≤ 1000002)
def Sm.ok (l : List Int) : Bool := l.all Sm.is
def Sm.sumV (l : List Int) : Int × Int := if 200 < l.length then (2, 0) else if Sm.ok l = true then (0, Sm.sum l) else (3, 0)
/-- The numbers l lie in block b, from off on. -/
def NumsAt (w : World) (b off : Nat) (l : List Int) : Prop := ∀ (i : Nat) x, l[i]? = some x → w.cell? ⟨b, off + i, none⟩ = some (.int .i64 x)
theorem NumsAt.ext {w w' : World} {b off : Nat} {l : List Int} (h : NumsAt w b off l) (hb : b < w.heap.size) (he : Ext w w') : NumsAt w' b off l := by
 intro i x hx
 exact ((Ext.cell he).1 _ _ hb).trans (h i x hx)
/-- The slice value v reads as the numbers l. -/
def ISlice (w : World) (v : Value) (l : List Int) : Prop :=
 ∃ a cap, v = .slice a l.length cap ∧ l.length ≤ cap ∧ cap ≤ maxLen ∧ (0 < l.length → ∃ b off, a = some ⟨b, off, none⟩ ∧ b < w.heap.size ∧ NumsAt w b off l)
theorem ISlice.ext {w w' : World} {v : Value} {l : List Int} (h : ISlice w v l) (he : Ext w w') : ISlice w' v l := by
 obtain ⟨a, cap, h1, h2, h3, h4⟩ := h
 refine ⟨a, cap, h1, h2, h3, fun h0 => ?_⟩
 obtain ⟨b, off, e, hb, hN⟩ := h4 h0
 exact ⟨b, off, e, Nat.lt_of_lt_of_le hb he.size, hN.ext hb he⟩

/-- Block r holds an IntResult that nobody has written yet, and may be written. -/
def IBox (w : World) (r : Nat) : Prop :=
 r < w.heap.size ∧ w.cell? ⟨r, 0, none⟩ = some (.int .i64 0) ∧ w.cell? ⟨r, 1, none⟩ = some (.int .i64 0) ∧ w.frozen? ⟨r, 0, none⟩ = false ∧ w.frozen? ⟨r, 1, none⟩ = false
theorem IBox.new (w : World) (t : TypeId) : IBox (w.alloc (.cells #[.int .i64 0, .int .i64 0] t)) w.heap.size := ⟨by simp, by simp, by simp, by simp, by simp⟩
theorem IBox.ext {w w2 : World} {r : Nat} (h : IBox w r) (he : Ext w w2) : IBox w2 r := by
 obtain ⟨hc, hf⟩ := Ext.cell he
 obtain ⟨h1, h2, h3, h5, h6⟩ := h
 exact ⟨Nat.lt_of_lt_of_le h1 he.size, (hc _ _ h1).trans h2, (hc _ _ h1).trans h3, (hf _ _ h1).trans h5, (hf _ _ h1).trans h6⟩
theorem Ext.two {w w2 : World} (h : Ext w w2) (a b : Value) : Ext w ((w2.setCell ⟨w.heap.size, 0, none⟩ a).setCell ⟨w.heap.size, 1, none⟩ b) :=
 (h.setCell (p := ⟨w.heap.size, 0, none⟩) (Nat.le_refl _) a).setCell (p := ⟨w.heap.size, 1, none⟩) (Nat.le_refl _) b

def Sm.pairV (x y : Int) : Int × Int := Sm.sumV [1, x, y]
end Go.Proofs.YtecgjdgfjgcmdaaGreat
namespace Go.Proofs.YtecgjdgfjgcmdaaGreat
open Go.RowKit
/-! ### the laws' functions over numbers -/
/-- Block g holds room for n cells from off on, and may be written there. -/
def IRoom (w : World) (g off n : Nat) : Prop := g < w.heap.size ∧ ∀ j, j < n → (∃ u, w.cell? ⟨g, off + j, none⟩ = some u) ∧ w.frozen? ⟨g, off + j, none⟩ = false
theorem iset_ne (w : World) (g o b k : Nat) (v : Value) (h : g ≠ b ∨ o ≠ k) : (w.setCell ⟨g, o, none⟩ v).cell? ⟨b, k, none⟩ = w.cell? ⟨b, k, none⟩ :=
 World.cell?_setCell_other _ _ _ _ (by intro e; injection e with e1 e2 _; rcases h with h | h; exact h e1; exact h e2)
theorem iset_eq (w : World) (g o : Nat) (v : Value) (h : ∃ u, w.cell? ⟨g, o, none⟩ = some u) : (w.setCell ⟨g, o, none⟩ v).cell? ⟨g, o, none⟩ = some v := by
 obtain ⟨u, hu⟩ := h; exact World.cell?_setCell_same _ _ _ hu
theorem IRoom.set {w : World} {g off n k : Nat} (h : IRoom w g off n) (v : Value) (hk : k < n) : IRoom (w.setCell ⟨g, off + k, none⟩ v) g off n := by
 refine ⟨by simpa using h.1, fun j hj => ⟨?_, by simpa using (h.2 j hj).2⟩⟩
 by_cases hjk : j = k
 ·subst hjk; exact ⟨_, iset_eq _ _ _ _ (h.2 j hj).1⟩
 ·rw [iset_ne _ _ _ _ _ _ (by omega)]; exact (h.2 j hj).1
theorem NumsAt.set {w : World} {g off n k : Nat} {l : List Int} {x : Int} (hr : IRoom w g off n) (hk : k < n) (hx : l[k]? = some x) (h : NumsAt w g off (l.take k)) : NumsAt (w.setCell ⟨g, off + k, none⟩ (.int .i64 x)) g off (l.take (k + 1)) := by
 intro i y hi
 rw [List.getElem?_take] at hi
 split at hi
 ·by_cases hik : i = k
  ·subst hik
   rw [hx] at hi
   cases hi
   exact iset_eq _ _ _ _ (hr.2 i hk).1
  ·rw [iset_ne _ _ _ _ _ _ (by omega)]
   exact h i y (by rw [List.getElem?_take, if_pos (by omega)]; exact hi)
 ·cases hi

end Go.Proofs.YtecgjdgfjgcmdaaGreat
namespace Go.Proofs.YtecgjdgfjgcmdaaGreat
open Go.RowKit
structure Zn where
 path : ByteArray
 data : Int
 version : Int
 owner : Int
 next : Int
 deriving DecidableEq

def zagg (z : Zn) : Value := .agg #[.string z.path, .int .i64 z.data, .int .i64 z.version, .int .i64 z.owner, .int .i64 z.next]

/-- The nodes zs lie in block b, from off on. -/
def NodesAt (w : World) (b off : Nat) (zs : List Zn) : Prop :=
 ∀ (i : Nat) z, zs[i]? = some z → w.cell? ⟨b, off + i * 5, none⟩ = some (.string z.path) ∧ w.cell? ⟨b, off + i * 5 + 1, none⟩ = some (.int .i64 z.data) ∧ w.cell? ⟨b, off + i * 5 + 2, none⟩ = some (.int .i64 z.version) ∧ w.cell? ⟨b, off + i * 5 + 3, none⟩ = some (.int .i64 z.owner) ∧ w.cell? ⟨b, off + i * 5 + 4, none⟩ = some (.int .i64 z.next)

theorem NodesAt.ext {w w' : World} {b off : Nat} {zs : List Zn} (h : NodesAt w b off zs) (hb : b < w.heap.size) (he : Ext w w') : NodesAt w' b off zs := by
 intro i z hz
 obtain ⟨c0, c1, c2, c3, c4⟩ := h i z hz
 obtain ⟨hc, _⟩ := Ext.cell he
 exact ⟨(hc _ _ hb).trans c0, (hc _ _ hb).trans c1, (hc _ _ hb).trans c2, (hc _ _ hb).trans c3, (hc _ _ hb).trans c4⟩
/-- The slice value v reads as the nodes zs. -/
def NSlice (w : World) (v : Value) (zs : List Zn) : Prop :=
 ∃ a cap, v = .slice a zs.length cap ∧ zs.length ≤ cap ∧ cap ≤ maxLen ∧ (0 < zs.length → ∃ b off, a = some ⟨b, off, none⟩ ∧ b < w.heap.size ∧ NodesAt w b off zs)
theorem NSlice.ext {w w' : World} {v : Value} {zs : List Zn} (h : NSlice w v zs) (he : Ext w w') : NSlice w' v zs := by
 obtain ⟨a, cap, h1, h2, h3, h4⟩ := h
 refine ⟨a, cap, h1, h2, h3, fun h0 => ?_⟩
 obtain ⟨b, off, e, hb, hN⟩ := h4 h0
 exact ⟨b, off, e, Nat.lt_of_lt_of_le hb he.size, hN.ext hb he⟩

/-! ### Nodes that are stored -/
/-- Block g holds room for n nodes from off on, and may be written there. -/
def Room (w : World) (g off n : Nat) : Prop := g < w.heap.size ∧ ∀ j, j < n * 5 → (∃ u, w.cell? ⟨g, off + j, none⟩ = some u) ∧ w.frozen? ⟨g, off + j, none⟩ = false
def putZ (w : World) (g o : Nat) (z : Zn) : World :=
 ((((w.setCell ⟨g, o, none⟩ (.string z.path)).setCell ⟨g, o + 1, none⟩ (.int .i64 z.data)).setCell ⟨g, o + 2, none⟩ (.int .i64 z.version)).setCell ⟨g, o + 3, none⟩ (.int .i64 z.owner)).setCell ⟨g, o + 4, none⟩ (.int .i64 z.next)

theorem set_ne (w : World) (g o b k : Nat) (v : Value) (h : g ≠ b ∨ o ≠ k) : (w.setCell ⟨g, o, none⟩ v).cell? ⟨b, k, none⟩ = w.cell? ⟨b, k, none⟩ :=
 World.cell?_setCell_other _ _ _ _ (by intro e; injection e with e1 e2 _; rcases h with h | h; exact h e1; exact h e2)
theorem set_eq (w : World) (g o : Nat) (v : Value) (h : ∃ u, w.cell? ⟨g, o, none⟩ = some u) : (w.setCell ⟨g, o, none⟩ v).cell? ⟨g, o, none⟩ = some v := by
 obtain ⟨u, hu⟩ := h; exact World.cell?_setCell_same _ _ _ hu
theorem putZ_ne (w : World) (g o b k : Nat) (z : Zn) (h : g ≠ b ∨ k < o ∨ o + 5 ≤ k) : (putZ w g o z).cell? ⟨b, k, none⟩ = w.cell? ⟨b, k, none⟩ := by
 unfold putZ
 rw [set_ne _ _ _ _ _ _ (by omega), set_ne _ _ _ _ _ _ (by omega), set_ne _ _ _ _ _ _ (by omega), set_ne _ _ _ _ _ _ (by omega), set_ne _ _ _ _ _ _ (by omega)]
theorem putZ_eq (w : World) (g o : Nat) (z : Zn) (h : ∀ j, j < 5 → ∃ u, w.cell? ⟨g, o + j, none⟩ = some u) :
  (putZ w g o z).cell? ⟨g, o, none⟩ = some (.string z.path) ∧ (putZ w g o z).cell? ⟨g, o + 1, none⟩ = some (.int .i64 z.data) ∧ (putZ w g o z).cell? ⟨g, o + 2, none⟩ = some (.int .i64 z.version) ∧ (putZ w g o z).cell? ⟨g, o + 3, none⟩ = some (.int .i64 z.owner) ∧ (putZ w g o z).cell? ⟨g, o + 4, none⟩ = some (.int .i64 z.next) := by
 unfold putZ
 refine ⟨?_, ?_, ?_, ?_, ?_⟩
 ·rw [set_ne _ _ _ _ _ _ (by omega), set_ne _ _ _ _ _ _ (by omega), set_ne _ _ _ _ _ _ (by omega), set_ne _ _ _ _ _ _ (by omega)]; exact set_eq _ _ _ _ (h 0 (by omega))
 ·rw [set_ne _ _ _ _ _ _ (by omega), set_ne _ _ _ _ _ _ (by omega), set_ne _ _ _ _ _ _ (by omega)]; apply set_eq; rw [set_ne _ _ _ _ _ _ (by omega)]; exact h 1 (by omega)
 ·rw [set_ne _ _ _ _ _ _ (by omega), set_ne _ _ _ _ _ _ (by omega)]; apply set_eq; rw [set_ne _ _ _ _ _ _ (by omega), set_ne _ _ _ _ _ _ (by omega)]; exact h 2 (by omega)
 ·rw [set_ne _ _ _ _ _ _ (by omega)]; apply set_eq; rw [set_ne _ _ _ _ _ _ (by omega), set_ne _ _ _ _ _ _ (by omega), set_ne _ _ _ _ _ _ (by omega)]; exact h 3 (by omega)
 ·apply set_eq; rw [set_ne _ _ _ _ _ _ (by omega), set_ne _ _ _ _ _ _ (by omega), set_ne _ _ _ _ _ _ (by omega), set_ne _ _ _ _ _ _ (by omega)]; exact h 4 (by omega)
theorem putZ_size (w : World) (g o : Nat) (z : Zn) : (putZ w g o z).heap.size = w.heap.size := by simp [putZ]
theorem putZ_frozen (w : World) (g o : Nat) (z : Zn) (a : Addr) : (putZ w g o z).frozen? a = w.frozen? a := by simp [putZ]
theorem Room.put {w : World} {g off n k : Nat} (h : Room w g off n) (z : Zn) (hk : k < n) : Room (putZ w g (off + k * 5) z) g off n := by
 refine ⟨by rw [putZ_size]; exact h.1, fun j hj => ⟨?_, by rw [putZ_frozen]; exact (h.2 j hj).2⟩⟩
 obtain ⟨q0, q1, q2, q3, q4⟩ := putZ_eq w g (off + k * 5) z (fun i hi => by rw [Nat.add_assoc]; exact (h.2 (k * 5 + i) (by omega)).1)
 by_cases hh : off + j < off + k * 5 ∨ off + k * 5 + 5 ≤ off + j
 ·rw [putZ_ne _ _ _ _ _ _ (Or.inr hh)]; exact (h.2 j hj).1
 ·have hj5 : j = k * 5 ∨ j = k * 5 + 1 ∨ j = k * 5 + 2 ∨ j = k * 5 + 3 ∨ j = k * 5 + 4 := by omega
  rcases hj5 with e | e | e | e | e <;> subst e
  ·exact ⟨_, q0⟩
  ·exact ⟨_, q1⟩
  ·exact ⟨_, q2⟩
  ·exact ⟨_, q3⟩
  ·exact ⟨_, q4⟩
theorem Room.ext {w w' : World} {g off n : Nat} (h : Room w g off n) (he : Ext w w') : Room w' g off n := by
 obtain ⟨hc, hf⟩ := Ext.cell he
 exact ⟨Nat.lt_of_lt_of_le h.1 he.size, fun j hj => ⟨by rw [hc _ _ h.1]; exact (h.2 j hj).1, by rw [hf _ _ h.1]; exact (h.2 j hj).2⟩⟩
theorem Room.upd {w w' : World} {g off n b : Nat} (h : Room w g off n) (he : Upd b w w') (hne : g ≠ b) : Room w' g off n :=
 ⟨Nat.lt_of_lt_of_le h.1 he.2.1, fun j hj => ⟨by rw [(he.at_ne _ _ hne h.1).1]; exact (h.2 j hj).1, by rw [(he.at_ne _ _ hne h.1).2]; exact (h.2 j hj).2⟩⟩
theorem NodesAt.upd {w w' : World} {g off b : Nat} {zs : List Zn} (h : NodesAt w g off zs) (he : Upd b w w') (hne : g ≠ b) (hg : g < w.heap.size) : NodesAt w' g off zs := by
 intro i z hz
 obtain ⟨c0, c1, c2, c3, c4⟩ := h i z hz
 exact ⟨(he.at_ne _ _ hne hg).1.trans c0, (he.at_ne _ _ hne hg).1.trans c1, (he.at_ne _ _ hne hg).1.trans c2, (he.at_ne _ _ hne hg).1.trans c3, (he.at_ne _ _ hne hg).1.trans c4⟩
theorem NodesAt.put {w : World} {g off n k : Nat} {zs : List Zn} {z : Zn} (hr : Room w g off n) (hk : k < n) (hz : zs[k]? = some z) (h : NodesAt w g off (zs.take k)) : NodesAt (putZ w g (off + k * 5) z) g off (zs.take (k + 1)) := by
 intro i z' hi
 rw [List.getElem?_take] at hi
 split at hi
 ·rename_i hlt
  by_cases hik : i = k
  ·subst hik
   rw [hz] at hi
   cases hi
   exact putZ_eq w g (off + i * 5) z (fun j hj => by rw [Nat.add_assoc]; exact (hr.2 (i * 5 + j) (by omega)).1)
  ·obtain ⟨c0, c1, c2, c3, c4⟩ := h i z' (by rw [List.getElem?_take, if_pos (by omega)]; exact hi)
   refine ⟨?_, ?_, ?_, ?_, ?_⟩
   ·rw [putZ_ne _ _ _ _ _ _ (by omega)]; exact c0
   ·rw [putZ_ne _ _ _ _ _ _ (by omega)]; exact c1
   ·rw [putZ_ne _ _ _ _ _ _ (by omega)]; exact c2
   ·rw [putZ_ne _ _ _ _ _ _ (by omega)]; exact c3
   ·rw [putZ_ne _ _ _ _ _ _ (by omega)]; exact c4
 ·cases hi
/-- The slice value v reads as the nodes zs, which lie in block g and may be written there. -/
def Own (w : World) (v : Value) (g : Nat) (zs : List Zn) : Prop :=
 ∃ a cap, v = .slice a zs.length cap ∧ zs.length ≤ cap ∧ cap ≤ maxLen ∧ (0 < zs.length → ∃ off, a = some ⟨g, off, none⟩ ∧ Room w g off zs.length ∧ NodesAt w g off zs)
theorem Own.slice {w : World} {v : Value} {g : Nat} {zs : List Zn} (h : Own w v g zs) : NSlice w v zs := by
 obtain ⟨a, cap, h1, h2, h3, h4⟩ := h
 refine ⟨a, cap, h1, h2, h3, fun h0 => ?_⟩
 obtain ⟨off, e, hr, hN⟩ := h4 h0
 exact ⟨g, off, e, hr.1, hN⟩
theorem Own.ext {w w' : World} {v : Value} {g : Nat} {zs : List Zn} (h : Own w v g zs) (he : Ext w w') : Own w' v g zs := by
 obtain ⟨a, cap, h1, h2, h3, h4⟩ := h
 refine ⟨a, cap, h1, h2, h3, fun h0 => ?_⟩
 obtain ⟨off, e, hr, hN⟩ := h4 h0
 exact ⟨off, e, hr.ext he, hN.ext hr.1 he⟩
theorem Own.upd {w w' : World} {v : Value} {g b : Nat} {zs : List Zn} (h : Own w v g zs) (he : Upd b w w') (hne : g ≠ b) : Own w' v g zs := by
 obtain ⟨a, cap, h1, h2, h3, h4⟩ := h
 refine ⟨a, cap, h1, h2, h3, fun h0 => ?_⟩
 obtain ⟨off, e, hr, hN⟩ := h4 h0
 exact ⟨off, e, hr.upd he hne, hN.upd he hne hr.1⟩
end Go.Proofs.YtecgjdgfjgcmdaaGreat
