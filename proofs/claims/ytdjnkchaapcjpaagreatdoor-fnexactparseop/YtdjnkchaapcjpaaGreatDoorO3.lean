/- operations: what is a fault of one; the specification's and the program's small functions. -/
import Derived.Test.YtdjnkchaapcjpaaGreatDoorO1
import Derived.Test.YtdjnkchaapcjpaaGreatDoorS4
namespace Go.Proofs.YtdjnkchaapcjpaaGreatDoor
open Go.RowKit
namespace Opr
def hasPath (k : Int) : Bool := decide (3 ≤ k) && decide (k ≤ 8)
def hasData (k : Int) : Bool := decide (k = 3) || decide (k = 5)
def hasVer (k : Int) : Bool := decide (k = 4) || (decide (k = 5) || decide (k = 8))
def extra (o : Opn) : Bool := (!hasPath o.kind && decide (o.path ≠ ⟨#[]⟩)) || ((!hasData o.kind && decide (o.data ≠ 0)) || ((!hasVer o.kind && decide (o.version ≠ 0)) || (decide (o.kind ≠ 3) && (o.seq || o.own))))
def inR (o : Opn) : Bool := decide (0 ≤ o.data) && (decide (o.data ≤ 9999) && (decide (-1 ≤ o.version) && decide (o.version ≤ 999)))
def fault (o : Opn) : Int :=
  if (decide (1 ≤ o.kind) && decide (o.kind ≤ 8)) = false then 1
  else if extra o = true then 1
  else if hasPath o.kind = true ∧ Pth.faultI o.path.data.toList ≠ 0 then Pth.faultI o.path.data.toList
  else if inR o = false then 3 else 0
theorem fault_kind {o : Opn} (h : o.kind < 1 ∨ 8 < o.kind) : fault o = 1 := by unfold fault; rw [if_pos (by simp; omega)]
theorem fault_extra {o : Opn} (h : extra o = true) : fault o = 1 := by unfold fault; rw [if_pos h]; split <;> rfl
theorem fault_path {o : Opn} {c : Int} (h1 : 1 ≤ o.kind) (h2 : o.kind ≤ 8) (h : extra o = false) (hp : hasPath o.kind = true) (hc : c = Pth.faultI o.path.data.toList) (h0 : c ≠ 0) : fault o = c := by
  subst hc
  unfold fault; rw [if_neg (by simp; omega), if_neg (by rw [h]; decide), if_pos ⟨hp, h0⟩]
theorem fault_range {o : Opn} (h1 : 1 ≤ o.kind) (h2 : o.kind ≤ 8) (h : extra o = false) (hp : hasPath o.kind = false ∨ Pth.faultI o.path.data.toList = 0) (hr : inR o = false) : fault o = 3 := by
  unfold fault; rw [if_neg (by simp; omega), if_neg (by rw [h]; decide), if_neg (by rintro ⟨g1, g2⟩; rcases hp with h | h; rw [h] at g1; cases g1; exact g2 h), if_pos hr]
theorem fault_ok {o : Opn} (h1 : 1 ≤ o.kind) (h2 : o.kind ≤ 8) (h : extra o = false) (hp : hasPath o.kind = false ∨ Pth.faultI o.path.data.toList = 0) (hr : inR o = true) : fault o = 0 := by
  unfold fault; rw [if_neg (by simp; omega), if_neg (by rw [h]; decide), if_neg (by rintro ⟨g1, g2⟩; rcases hp with h | h; rw [h] at g1; cases g1; exact g2 h), if_neg (by rw [hr]; decide)]
end Opr

set_option maxHeartbeats 1000000 in
theorem l5Path_any (k : Int) (w : World) : Calls Tryz.prog 130 #[.int .i64 k] w fun e w' => e = .returned (.bool (Opr.hasPath k)) ∧ w' = w := by
  go_enter Tryz.func130, Tryz.ntmps130
  go_wp2_with fail
  refine (l1In_any k 3 8 _).mono ?_
  rintro e w1 ⟨rfl, rfl⟩
  go_wp2
  go_ret
  exact ⟨rfl, rfl⟩
set_option maxHeartbeats 1000000 in
theorem l5Data_any (k : Int) (w : World) : Calls Tryz.prog 121 #[.int .i64 k] w fun e w' => e = .returned (.bool (Opr.hasData k)) ∧ w' = w := by
  by_cases h3 : k = 3
  · subst h3
    go_enter Tryz.func121, Tryz.ntmps121
    go_wp2
    go_ret
    exact ⟨rfl, rfl⟩
  · by_cases h5 : k = 5
    · subst h5
      go_enter Tryz.func121, Tryz.ntmps121
      go_wp2
      go_ret
      exact ⟨rfl, rfl⟩
    · have hf : Opr.hasData k = false := by unfold Opr.hasData; simp [h3, h5]
      rw [hf]
      go_enter Tryz.func121, Tryz.ntmps121
      go_wp2
      go_ret
      exact ⟨ret_bool (by simp [h3, h5]), rfl⟩
set_option maxHeartbeats 1000000 in
theorem l5Version_any (k : Int) (w : World) : Calls Tryz.prog 122 #[.int .i64 k] w fun e w' => e = .returned (.bool (Opr.hasVer k)) ∧ w' = w := by
  by_cases h3 : k = 4
  · subst h3
    go_enter Tryz.func122, Tryz.ntmps122
    go_wp2
    go_ret
    exact ⟨rfl, rfl⟩
  · by_cases h5 : k = 5
    · subst h5
      go_enter Tryz.func122, Tryz.ntmps122
      go_wp2
      go_ret
      exact ⟨rfl, rfl⟩
    · by_cases h8 : k = 8
      · subst h8
        go_enter Tryz.func122, Tryz.ntmps122
        go_wp2
        go_ret
        exact ⟨rfl, rfl⟩
      · have hf : Opr.hasVer k = false := by unfold Opr.hasVer; simp [h3, h5, h8]
        rw [hf]
        go_enter Tryz.func122, Tryz.ntmps122
        go_wp2
        go_ret
        exact ⟨ret_bool (by simp [h3, h5, h8]), rfl⟩
set_option maxHeartbeats 1000000 in
theorem l2DataO_any (k : Int) (w : World) : Calls Tryz.prog 139 #[.int .i64 k] w fun e w' => e = .returned (.bool (decide (0 ≤ k) && decide (k ≤ 9999))) ∧ w' = w := by
  go_enter Tryz.func139, Tryz.ntmps139
  go_wp2_with fail
  refine (l1In_any k 0 9999 _).mono ?_
  rintro e w1 ⟨rfl, rfl⟩
  go_wp2
  go_ret
  exact ⟨rfl, rfl⟩
set_option maxHeartbeats 1000000 in
theorem isUpToO_any (n m : Int) (w : World) : Calls Tryz.prog 49 #[.int .i64 n, .int .i64 m] w fun e w' => e = .returned (.bool (decide (0 ≤ n) && decide (n ≤ m))) ∧ w' = w := by
  by_cases h0 : 0 ≤ n
  · by_cases h1 : n ≤ m
    · go_enter Tryz.func49, Tryz.ntmps49
      go_wp2
      go_ret
      exact ⟨by simp [h0, h1], rfl⟩
    · go_enter Tryz.func49, Tryz.ntmps49
      go_wp2
      go_ret
      exact ⟨by simp [h1], rfl⟩
  · go_enter Tryz.func49, Tryz.ntmps49
    go_wp2
    go_ret
    exact ⟨by simp; omega, rfl⟩
set_option maxHeartbeats 1000000 in
theorem isWithin_any (n l m : Int) (w : World) : Calls Tryz.prog 74 #[.int .i64 n, .int .i64 l, .int .i64 m] w fun e w' => e = .returned (.bool (decide (l ≤ n) && decide (n ≤ m))) ∧ w' = w := by
  by_cases h0 : l ≤ n
  · by_cases h1 : n ≤ m
    · go_enter Tryz.func74, Tryz.ntmps74
      go_wp2
      go_ret
      exact ⟨by simp [h0, h1], rfl⟩
    · go_enter Tryz.func74, Tryz.ntmps74
      go_wp2
      go_ret
      exact ⟨by simp [h1], rfl⟩
  · go_enter Tryz.func74, Tryz.ntmps74
    go_wp2
    go_ret
    exact ⟨by simp; omega, rfl⟩

/-! ### What beyondKind leaves -/
def Opr.beyond (o : Opn) : Opn :=
  ⟨o.kind, if Opr.hasPath o.kind then ⟨#[]⟩ else o.path, if Opr.hasData o.kind then 0 else o.data, if Opr.hasVer o.kind then 0 else o.version, if o.kind = 3 then false else o.seq, if o.kind = 3 then false else o.own⟩
set_option maxHeartbeats 1000000 in
theorem beyondKind_1 (p : ByteArray) (d v : Int) (s q : Bool) (w : World) : Calls Tryz.prog 75 #[oagg ⟨1, p, d, v, s, q⟩] w fun e w' => e = .returned (oagg ⟨1, p, d, v, s, q⟩) ∧ Ext w w' := by
  unfold oagg
  go_enter Tryz.func75, Tryz.ntmps75
  go_wp2
  exact bodyPost_ret (v := oagg ⟨1, p, d, v, s, q⟩) (by simp [results, Tryz.results75, go_sem, oagg]) rfl ⟨rfl, ((Ext.refl _).alloc _).alloc _⟩
set_option maxHeartbeats 1000000 in
theorem beyondKind_2 (p : ByteArray) (d v : Int) (s q : Bool) (w : World) : Calls Tryz.prog 75 #[oagg ⟨2, p, d, v, s, q⟩] w fun e w' => e = .returned (oagg ⟨2, p, d, v, s, q⟩) ∧ Ext w w' := by
  unfold oagg
  go_enter Tryz.func75, Tryz.ntmps75
  go_wp2
  exact bodyPost_ret (v := oagg ⟨2, p, d, v, s, q⟩) (by simp [results, Tryz.results75, go_sem, oagg]) rfl ⟨rfl, ((Ext.refl _).alloc _).alloc _⟩
set_option maxHeartbeats 1000000 in
theorem beyondKind_3 (p : ByteArray) (d v : Int) (s q : Bool) (w : World) : Calls Tryz.prog 75 #[oagg ⟨3, p, d, v, s, q⟩] w fun e w' => e = .returned (oagg ⟨3, ⟨#[]⟩, 0, v, false, false⟩) ∧ Ext w w' := by
  unfold oagg
  go_enter Tryz.func75, Tryz.ntmps75
  go_wp2
  exact bodyPost_ret (v := oagg ⟨3, ⟨#[]⟩, 0, v, false, false⟩) (by simp [results, Tryz.results75, go_sem, oagg]) rfl ⟨rfl, ((Ext.refl _).alloc _).alloc _⟩
set_option maxHeartbeats 1000000 in
theorem beyondKind_4 (p : ByteArray) (d v : Int) (s q : Bool) (w : World) : Calls Tryz.prog 75 #[oagg ⟨4, p, d, v, s, q⟩] w fun e w' => e = .returned (oagg ⟨4, ⟨#[]⟩, d, 0, s, q⟩) ∧ Ext w w' := by
  unfold oagg
  go_enter Tryz.func75, Tryz.ntmps75
  go_wp2
  exact bodyPost_ret (v := oagg ⟨4, ⟨#[]⟩, d, 0, s, q⟩) (by simp [results, Tryz.results75, go_sem, oagg]) rfl ⟨rfl, ((Ext.refl _).alloc _).alloc _⟩
set_option maxHeartbeats 1000000 in
theorem beyondKind_5 (p : ByteArray) (d v : Int) (s q : Bool) (w : World) : Calls Tryz.prog 75 #[oagg ⟨5, p, d, v, s, q⟩] w fun e w' => e = .returned (oagg ⟨5, ⟨#[]⟩, 0, 0, s, q⟩) ∧ Ext w w' := by
  unfold oagg
  go_enter Tryz.func75, Tryz.ntmps75
  go_wp2
  exact bodyPost_ret (v := oagg ⟨5, ⟨#[]⟩, 0, 0, s, q⟩) (by simp [results, Tryz.results75, go_sem, oagg]) rfl ⟨rfl, ((Ext.refl _).alloc _).alloc _⟩
set_option maxHeartbeats 1000000 in
theorem beyondKind_6 (p : ByteArray) (d v : Int) (s q : Bool) (w : World) : Calls Tryz.prog 75 #[oagg ⟨6, p, d, v, s, q⟩] w fun e w' => e = .returned (oagg ⟨6, ⟨#[]⟩, d, v, s, q⟩) ∧ Ext w w' := by
  unfold oagg
  go_enter Tryz.func75, Tryz.ntmps75
  go_wp2
  exact bodyPost_ret (v := oagg ⟨6, ⟨#[]⟩, d, v, s, q⟩) (by simp [results, Tryz.results75, go_sem, oagg]) rfl ⟨rfl, ((Ext.refl _).alloc _).alloc _⟩
set_option maxHeartbeats 1000000 in
theorem beyondKind_7 (p : ByteArray) (d v : Int) (s q : Bool) (w : World) : Calls Tryz.prog 75 #[oagg ⟨7, p, d, v, s, q⟩] w fun e w' => e = .returned (oagg ⟨7, ⟨#[]⟩, d, v, s, q⟩) ∧ Ext w w' := by
  unfold oagg
  go_enter Tryz.func75, Tryz.ntmps75
  go_wp2
  exact bodyPost_ret (v := oagg ⟨7, ⟨#[]⟩, d, v, s, q⟩) (by simp [results, Tryz.results75, go_sem, oagg]) rfl ⟨rfl, ((Ext.refl _).alloc _).alloc _⟩
set_option maxHeartbeats 1000000 in
theorem beyondKind_8 (p : ByteArray) (d v : Int) (s q : Bool) (w : World) : Calls Tryz.prog 75 #[oagg ⟨8, p, d, v, s, q⟩] w fun e w' => e = .returned (oagg ⟨8, ⟨#[]⟩, d, 0, s, q⟩) ∧ Ext w w' := by
  unfold oagg
  go_enter Tryz.func75, Tryz.ntmps75
  go_wp2
  exact bodyPost_ret (v := oagg ⟨8, ⟨#[]⟩, d, 0, s, q⟩) (by simp [results, Tryz.results75, go_sem, oagg]) rfl ⟨rfl, ((Ext.refl _).alloc _).alloc _⟩
end Go.Proofs.YtdjnkchaapcjpaaGreatDoor
