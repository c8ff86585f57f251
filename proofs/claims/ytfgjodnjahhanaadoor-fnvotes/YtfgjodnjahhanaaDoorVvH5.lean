/- the fault of a message: its mathematics, and the specification's small functions. -/
import Derived.Test.YtfgjodnjahhanaaDoorVvH2
namespace Go.Proofs.YtfgjodnjahhanaaDoor
open Go.RowKit
namespace Msg
/-- Do the numbers rise? -/
def rises : List Int → Bool
  | [] => true
  | x :: l => (match l with | [] => true | y :: _ => decide (x < y)) && rises l
def bareN (kind slot value : Int) (nc nr : Nat) : Bool := decide (1 ≤ kind ∧ kind ≤ 5 ∧ (kind ≤ 3 ∨ (slot = 0 ∧ value = 0)) ∧ (kind = 4 ∨ nc = 0) ∧ (kind = 5 ∨ nr = 0))
def boundsN (f kind view from_ slot value : Int) : Bool := decide (0 ≤ view ∧ view ≤ 20 ∧ 1 ≤ from_ ∧ from_ ≤ 3 * f + 1 ∧ (kind ≤ 3 → 1 ≤ slot ∧ slot ≤ 30 ∧ 0 ≤ value ∧ value ≤ 12))
def manyN (f : Int) (nc nr : Nat) : Bool := decide (30 < nc ∨ 3 * f + 1 < nr)
def certOk (view : Int) (c : Ct) : Bool := decide (1 ≤ c.slot ∧ c.slot ≤ 30 ∧ 0 ≤ c.view ∧ c.view ≤ view - 1 ∧ 0 ≤ c.value ∧ c.value ≤ 12)
def refOk (r : Int) : Bool := decide (0 ≤ r ∧ r ≤ 239)
def slots (l : List Ct) : List Int := l.map (fun c => c.slot)
def parts (m : Ms) : Bool := m.certs.all (certOk m.view) && m.refs.all refOk
def lists (m : Ms) : Int := if rises (slots m.certs) = false then 1 else if rises m.refs = false then 1 else if parts m = false then 3 else 0
/-- The fault of m, f being right. -/
def faultM (f : Int) (m : Ms) : Int := if bareN m.kind m.slot m.value m.certs.length m.refs.length = false then 1 else if boundsN f m.kind m.view m.from_ m.slot m.value = false then 3 else if manyN f m.certs.length m.refs.length = true then 2 else lists m
def fOk (f : Int) : Bool := decide (1 ≤ f) && decide (f ≤ 2)
def fault (f : Int) (m : Ms) : Int := if fOk f = false then 3 else faultM f m
end Msg
theorem l1In_isM (v lo hi : Int) (b : Bool) (w : World) (h : (decide (lo ≤ v) && decide (v ≤ hi)) = b) :
    Calls Tryd.prog 30 #[.int .i64 v, .int .i64 lo, .int .i64 hi] w fun e w' => e = .returned (.bool b) ∧ w' = w := by
  rw [← h]; exact l1In_any v lo hi w

set_option maxHeartbeats 1000000 in
theorem l8F_any (f : Int) (w : World) : Calls Tryd.prog 42 #[.int .i64 f] w fun e w' => e = .returned (.bool (Msg.fOk f)) ∧ w' = w := by
  have HB := l1In_isM f 1 2 (Msg.fOk f) w rfl
  generalize Msg.fOk f = bb at *
  go_enter Tryd.func42, Tryd.ntmps42
  go_wp2_with fail
  refine HB.mono ?_
  rintro e w9 ⟨rfl, hw⟩
  rw [hw]
  clear hw w9
  go_wp2
  go_ret
  exact ⟨rfl, rfl⟩

set_option maxHeartbeats 1000000 in
theorem l8Id_any (f id : Int) (bb : Bool) (w : World) (h0 : 1 ≤ f) (h1 : f ≤ 2) (hb : (decide (1 ≤ id) && decide (id ≤ 3 * f + 1)) = bb) : Calls Tryd.prog 43 #[.int .i64 f, .int .i64 id] w fun e w' => e = .returned (.bool bb) ∧ w' = w := by
  have HB := l1In_isM id 1 (3 * f + 1) bb w hb
  have e1 : IntKind.i64.wrap (3 * f) = 3 * f := by rw [IntKind.wrap_i64]; omega
  have e2 : IntKind.i64.wrap (3 * f + 1) = 3 * f + 1 := by rw [IntKind.wrap_i64]; omega
  go_enter Tryd.func43, Tryd.ntmps43
  go_wp2_with fail
  refine HB.mono ?_
  rintro e w9 ⟨rfl, hw⟩
  rw [hw]
  clear hw w9
  go_wp2
  go_ret
  exact ⟨rfl, rfl⟩
end Go.Proofs.YtfgjodnjahhanaaDoor
