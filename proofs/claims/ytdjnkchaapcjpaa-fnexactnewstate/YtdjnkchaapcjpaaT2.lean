/- spec.l2Fault, TreeFault. -/
import Derived.Test.YtdjnkchaapcjpaaT1
import Derived.Test.YtdjnkchaapcjpaaS3
namespace Go.Proofs.Ytdjnkchaapcjpaa
open Go.RowKit
namespace Tre
def okNums (z : Zn) : Bool := (decide (0 ≤ z.data) && decide (z.data ≤ 9999)) && ((decide (0 ≤ z.version) && decide (z.version ≤ 999)) && ((decide (0 ≤ z.owner) && decide (z.owner ≤ 9)) && (decide (0 ≤ z.next) && decide (z.next ≤ 100))))
def notUp (z y : Zn) : Bool := Op.bytesLess z.path.toList y.path.toList || (z.path.toList == y.path.toList)
def par (p : ByteArray) : ByteArray := mkB (if Pth.lastSl p.data.toList 0 0 = 0 then [47] else p.data.toList.take (Pth.lastSl p.data.toList 0 0))
/-- What is wrong with node i alone, and beside the one ahead of it. -/
def nodeC (zs : List Zn) (i : Nat) : Int := match zs[i]? with
  | none => 0
  | some z => if Pth.faultI z.path.data.toList ≠ 0 then Pth.faultI z.path.data.toList else if okNums z = false then 3 else match i with
    | 0 => 0
    | m + 1 => match zs[m]? with
      | none => 0
      | some y => if notUp z y = true then 1 else 0
def parC (zs : List Zn) (i : Nat) : Int := match zs[i]? with
  | none => 0
  | some z => if atI zs (par z.path) < 0 then 4 else 0
def ownC (zs : List Zn) (i : Nat) : Int := match zs[i]? with
  | none => 0
  | some z => match zs[(atI zs (par z.path)).toNat]? with
    | none => 0
    | some y => if y.owner ≠ 0 then 1 else 0
def top : ByteArray := ⟨#[47]⟩
def fault (zs : List Zn) : Int :=
  if 20 < zs.length then 2
  else if first (nodeC zs) zs.length ≠ 0 then first (nodeC zs) zs.length
  else if atI zs top < 0 then 4
  else if first (parC zs) zs.length ≠ 0 then first (parC zs) zs.length
  else first (ownC zs) zs.length
theorem nodeC_path {zs : List Zn} {k : Nat} {z : Zn} {c : Int} (hz : zs[k]? = some z) (hc : c = Pth.faultI z.path.data.toList) (h0 : c ≠ 0) : nodeC zs k = c := by
  unfold nodeC; rw [hz]; show (if _ then _ else _) = _; rw [← hc, if_pos h0]
theorem nodeC_nums {zs : List Zn} {k : Nat} {z : Zn} (hz : zs[k]? = some z) (hc : 0 = Pth.faultI z.path.data.toList) (hn : okNums z = false) : nodeC zs k = 3 := by
  unfold nodeC; rw [hz]; show (if _ then _ else _) = _; rw [← hc, if_neg (by simp), if_pos hn]
theorem nodeC_zero {zs : List Zn} {z : Zn} (hz : zs[0]? = some z) (hc : 0 = Pth.faultI z.path.data.toList) (hn : okNums z = true) : nodeC zs 0 = 0 := by
  unfold nodeC; rw [hz]; show (if _ then _ else _) = _; rw [← hc, if_neg (by simp), if_neg (by rw [hn]; simp)]
theorem nodeC_succ {zs : List Zn} {m : Nat} {z y : Zn} (hz : zs[m + 1]? = some z) (hy : zs[m]? = some y) (hc : 0 = Pth.faultI z.path.data.toList) (hn : okNums z = true) : nodeC zs (m + 1) = if notUp z y = true then 1 else 0 := by
  unfold nodeC; rw [hz]; show (if _ then _ else _) = _; rw [← hc, if_neg (by simp), if_neg (by rw [hn]; simp)]
  simp only [hy]
theorem nodeC_ok {zs : List Zn} {k : Nat} {z : Zn} (hz : zs[k]? = some z) (h : nodeC zs k = 0) : Pth.faultI z.path.data.toList = 0 ∧ okNums z = true := by
  by_cases hc : Pth.faultI z.path.data.toList = 0
  · by_cases hn : okNums z = true
    · exact ⟨hc, hn⟩
    · rw [nodeC_nums hz hc.symm (by simpa using hn)] at h; cases h
  · rw [nodeC_path hz rfl hc] at h; exact absurd h hc
theorem parC_eq {zs : List Zn} {k : Nat} {z : Zn} (hz : zs[k]? = some z) : parC zs k = if atI zs (par z.path) < 0 then 4 else 0 := by
  unfold parC; rw [hz]
theorem ownC_eq {zs : List Zn} {k j : Nat} {z y : Zn} (hz : zs[k]? = some z) (hj : atI zs (par z.path) = j) (hy : zs[j]? = some y) : ownC zs k = if y.owner ≠ 0 then 1 else 0 := by
  unfold ownC; simp only [hz, hj, Int.toNat_natCast, hy]
theorem fault_many {zs : List Zn} (h : 20 < zs.length) : fault zs = 2 := by unfold fault; rw [if_pos h]
theorem fault_node {zs : List Zn} {c : Int} (h : ¬ 20 < zs.length) (h1 : first (nodeC zs) zs.length = c) (h0 : c ≠ 0) : fault zs = c := by unfold fault; rw [if_neg h, h1, if_pos h0]
theorem fault_top {zs : List Zn} (h : ¬ 20 < zs.length) (h1 : first (nodeC zs) zs.length = 0) (h2 : atI zs top < 0) : fault zs = 4 := by unfold fault; rw [if_neg h, h1, if_neg (by simp), if_pos h2]
theorem fault_par {zs : List Zn} {c : Int} (h : ¬ 20 < zs.length) (h1 : first (nodeC zs) zs.length = 0) (h2 : ¬ atI zs top < 0) (h3 : first (parC zs) zs.length = c) (h0 : c ≠ 0) : fault zs = c := by unfold fault; rw [if_neg h, h1, if_neg (by simp), if_neg h2, h3, if_pos h0]
theorem fault_own {zs : List Zn} {c : Int} (h : ¬ 20 < zs.length) (h1 : first (nodeC zs) zs.length = 0) (h2 : ¬ atI zs top < 0) (h3 : first (parC zs) zs.length = 0) (h4 : first (ownC zs) zs.length = c) : fault zs = c := by unfold fault; rw [if_neg h, h1, if_neg (by simp), if_neg h2, h3, if_neg (by simp), h4]
end Tre

end Go.Proofs.Ytdjnkchaapcjpaa
