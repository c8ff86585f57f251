/-
  No cell of these rows narrows 'for every input' (looked for: loops, veiled, ifaces, maps, wideKeys, modest, calm, conditions, laid).
  DERIVED. THE GIVEN ROWS OF THIS SEAT. 6 by the template 'for every input the law returns true; each argument reads behind the call as it read before'; 0 by the template 'total and deterministic' (their statements: YtjlmkjcahnnjpaaTotals.lean).
  GIVEN WITH THE SEED: the statements are not yours to turn. If you find one false, say at which input.
  Laid BY PROGRAM, IN A SANDBOX (cutbox-rows.mjs): the forced cells as the released guide's own fill.sh prints them over the translation 2cd104a8dddc5256… (all of the seat's roots in one cut). By AI agents, Wed Nov 11 2026. No macro, syntax, notation, axiom, sorry.
-/
import Derived.Test.YtjlmkjcahnnjpaaChecked
import GoSem.Claim
import GoSem.ClaimJoined
import GoSem.ClaimMapViews
import Derived.JoinedTies
import Derived.KernelRfl
namespace Go.Proofs.Ytjlmkjcahnnjpaa
/- THE CELL 'sum', in the pinned program and in every row, IS THE sha256 OF THE DUMP (.gsa) THAT YtjlmkjcahnnjpaaProg.lean LOADS. Nothing in Lean hashes anything: it is a label: what it is worth is what the hold of that sum in a sandbox is worth. -/
noncomputable def Try.pinned : Pinned := { name := "ytjlmkjcahnnjpaa", sum := "2cd104a8dddc52566c7cc2dbbbea3cc6d6a398d0a7e6efd51b4010c4d866a961", checked := Try.checked }
namespace Rows
def none {H : Type} : Left H := { results := [], args := [] }

/-- 'laws.FnSessions': WHATEVER THE INPUT: true; the input reads as it did. -/
def fnSessionsSpec : ChangeSpec := { name := "fnSessions", fn := fun _ => fun
  | [d] => { results := [.lit (.bool true)], args := [d] }
  | _ => none }
def fnSessionsRow : OpenClaim := { program := "ytjlmkjcahnnjpaa", sum := "2cd104a8dddc52566c7cc2dbbbea3cc6d6a398d0a7e6efd51b4010c4d866a961", func := "loop.example/g00369/laws.FnSessions", spec := "fnSessions", unfollowed := true, recurses := true, apart := false }
def FnSessionsSaid : Prop := fnSessionsRow.holds Try.pinned (OpenSpec.ofChange fnSessionsSpec)

/-- ITS FALSE NEIGHBOUR: 'it returns false'. Refute it at one input. -/
def fnSessionsWrong : ChangeSpec := { name := "fnSessions", fn := fun _ => fun
  | [d] => { results := [.lit (.bool false)], args := [d] }
  | _ => none }
def FnSessionsWrongFalsely : Prop := fnSessionsRow.holds Try.pinned (OpenSpec.ofChange fnSessionsWrong)

/-- 'laws.FnExactSessionsFault': WHATEVER THE INPUT: true; the input reads as it did. -/
def fnExactSessionsFaultSpec : ChangeSpec := { name := "fnExactSessionsFault", fn := fun _ => fun
  | [d] => { results := [.lit (.bool true)], args := [d] }
  | _ => none }
def fnExactSessionsFaultRow : OpenClaim := { program := "ytjlmkjcahnnjpaa", sum := "2cd104a8dddc52566c7cc2dbbbea3cc6d6a398d0a7e6efd51b4010c4d866a961", func := "loop.example/g00369/laws.FnExactSessionsFault", spec := "fnExactSessionsFault", apart := false }
def FnExactSessionsFaultSaid : Prop := fnExactSessionsFaultRow.holds Try.pinned (OpenSpec.ofChange fnExactSessionsFaultSpec)

/-- ITS FALSE NEIGHBOUR: 'it returns false'. Refute it at one input. -/
def fnExactSessionsFaultWrong : ChangeSpec := { name := "fnExactSessionsFault", fn := fun _ => fun
  | [d] => { results := [.lit (.bool false)], args := [d] }
  | _ => none }
def FnExactSessionsFaultWrongFalsely : Prop := fnExactSessionsFaultRow.holds Try.pinned (OpenSpec.ofChange fnExactSessionsFaultWrong)

/-- 'laws.FnExactOpenSession': WHATEVER THE INPUT: true; the input reads as it did. -/
def fnExactOpenSessionSpec : ChangeSpec := { name := "fnExactOpenSession", fn := fun _ => fun
  | [d1, d2, d3] => { results := [.lit (.bool true)], args := [d1, d2, d3] }
  | _ => none }
def fnExactOpenSessionRow : OpenClaim := { program := "ytjlmkjcahnnjpaa", sum := "2cd104a8dddc52566c7cc2dbbbea3cc6d6a398d0a7e6efd51b4010c4d866a961", func := "loop.example/g00369/laws.FnExactOpenSession", spec := "fnExactOpenSession", unfollowed := true, recurses := true, apart := false }
def FnExactOpenSessionSaid : Prop := fnExactOpenSessionRow.holds Try.pinned (OpenSpec.ofChange fnExactOpenSessionSpec)

/-- ITS FALSE NEIGHBOUR: 'it returns false'. Refute it at one input. -/
def fnExactOpenSessionWrong : ChangeSpec := { name := "fnExactOpenSession", fn := fun _ => fun
  | [d1, d2, d3] => { results := [.lit (.bool false)], args := [d1, d2, d3] }
  | _ => none }
def FnExactOpenSessionWrongFalsely : Prop := fnExactOpenSessionRow.holds Try.pinned (OpenSpec.ofChange fnExactOpenSessionWrong)

/-- 'laws.FnExactTouchSession': WHATEVER THE INPUT: true; the input reads as it did. -/
def fnExactTouchSessionSpec : ChangeSpec := { name := "fnExactTouchSession", fn := fun _ => fun
  | [d1, d2, d3] => { results := [.lit (.bool true)], args := [d1, d2, d3] }
  | _ => none }
def fnExactTouchSessionRow : OpenClaim := { program := "ytjlmkjcahnnjpaa", sum := "2cd104a8dddc52566c7cc2dbbbea3cc6d6a398d0a7e6efd51b4010c4d866a961", func := "loop.example/g00369/laws.FnExactTouchSession", spec := "fnExactTouchSession", unfollowed := true, recurses := true, apart := false }
def FnExactTouchSessionSaid : Prop := fnExactTouchSessionRow.holds Try.pinned (OpenSpec.ofChange fnExactTouchSessionSpec)

/-- ITS FALSE NEIGHBOUR: 'it returns false'. Refute it at one input. -/
def fnExactTouchSessionWrong : ChangeSpec := { name := "fnExactTouchSession", fn := fun _ => fun
  | [d1, d2, d3] => { results := [.lit (.bool false)], args := [d1, d2, d3] }
  | _ => none }
def FnExactTouchSessionWrongFalsely : Prop := fnExactTouchSessionRow.holds Try.pinned (OpenSpec.ofChange fnExactTouchSessionWrong)

/-- 'laws.FnExactLiveSession': WHATEVER THE INPUT: true; the input reads as it did. -/
def fnExactLiveSessionSpec : ChangeSpec := { name := "fnExactLiveSession", fn := fun _ => fun
  | [d1, d2, d3] => { results := [.lit (.bool true)], args := [d1, d2, d3] }
  | _ => none }
def fnExactLiveSessionRow : OpenClaim := { program := "ytjlmkjcahnnjpaa", sum := "2cd104a8dddc52566c7cc2dbbbea3cc6d6a398d0a7e6efd51b4010c4d866a961", func := "loop.example/g00369/laws.FnExactLiveSession", spec := "fnExactLiveSession", apart := false }
def FnExactLiveSessionSaid : Prop := fnExactLiveSessionRow.holds Try.pinned (OpenSpec.ofChange fnExactLiveSessionSpec)

/-- ITS FALSE NEIGHBOUR: 'it returns false'. Refute it at one input. -/
def fnExactLiveSessionWrong : ChangeSpec := { name := "fnExactLiveSession", fn := fun _ => fun
  | [d1, d2, d3] => { results := [.lit (.bool false)], args := [d1, d2, d3] }
  | _ => none }
def FnExactLiveSessionWrongFalsely : Prop := fnExactLiveSessionRow.holds Try.pinned (OpenSpec.ofChange fnExactLiveSessionWrong)

/-- 'laws.FnExactSplitSessions': WHATEVER THE INPUT: true; the input reads as it did. -/
def fnExactSplitSessionsSpec : ChangeSpec := { name := "fnExactSplitSessions", fn := fun _ => fun
  | [d1, d2] => { results := [.lit (.bool true)], args := [d1, d2] }
  | _ => none }
def fnExactSplitSessionsRow : OpenClaim := { program := "ytjlmkjcahnnjpaa", sum := "2cd104a8dddc52566c7cc2dbbbea3cc6d6a398d0a7e6efd51b4010c4d866a961", func := "loop.example/g00369/laws.FnExactSplitSessions", spec := "fnExactSplitSessions", unfollowed := true, recurses := true, apart := false }
def FnExactSplitSessionsSaid : Prop := fnExactSplitSessionsRow.holds Try.pinned (OpenSpec.ofChange fnExactSplitSessionsSpec)

/-- ITS FALSE NEIGHBOUR: 'it returns false'. Refute it at one input. -/
def fnExactSplitSessionsWrong : ChangeSpec := { name := "fnExactSplitSessions", fn := fun _ => fun
  | [d1, d2] => { results := [.lit (.bool false)], args := [d1, d2] }
  | _ => none }
def FnExactSplitSessionsWrongFalsely : Prop := fnExactSplitSessionsRow.holds Try.pinned (OpenSpec.ofChange fnExactSplitSessionsWrong)

/- THE SECOND FORM. 'bulk': how many values and letters a reading holds, each counted each time it is reached (what is shared counts as often as it is met; a slice's spare places count too). A statement '..UptoSaid' is the law's where the arguments, and the package variables that the reading takes, are together of bulk at most 1048576: NARROWER than '..Said'. Prove '..Said' where nothing that the law and all that it calls make is longer than what came in: it says more and counts as full. Else prove '..UptoSaid'. A law counts once. -/
mutual
def uptoBulk {H : Type} : DataW H → Nat
  | .lit (.string bytes) => bytes.length + 1
  | .lit _ => 1
  | .nil => 1
  | .ptr d => uptoBulk d + 1
  | .slice elems spare => uptoBulkAll elems + uptoBulkAll spare + 1
  | .agg parts => uptoBulkAll parts + 1
  | .iface _ d => uptoBulk d + 1
  | .map entries => uptoBulkEntries entries + 1
  | .held _ => 1
def uptoBulkAll {H : Type} : List (DataW H) → Nat
  | [] => 0
  | d :: r => uptoBulk d + uptoBulkAll r
def uptoBulkEntries {H : Type} : List (Lit × DataW H) → Nat
  | [] => 0
  | x :: r => uptoBulkEntry x + uptoBulkEntries r
def uptoBulkEntry {H : Type} : Lit × DataW H → Nat
  | (.string bytes, d) => bytes.length + uptoBulk d + 1
  | (_, d) => uptoBulk d + 1
 end
def uptoSmall : (H : Type) → List (DataW H) → Bool := fun _ ds => decide (uptoBulkAll ds ≤ 1048576)
def OpenSpec.upto (s : _root_.Go.ChangeSpec) : _root_.Go.OpenSpec := { _root_.Go.OpenSpec.ofChange s with cond := some uptoSmall }

/-- 'laws.FnSessions', WHERE WHAT IT READS IS OF BULK AT MOST 1048576: true; the input reads as it did. -/
def fnSessionsUptoRow : OpenClaim := { program := "ytjlmkjcahnnjpaa", sum := "2cd104a8dddc52566c7cc2dbbbea3cc6d6a398d0a7e6efd51b4010c4d866a961", func := "loop.example/g00369/laws.FnSessions", spec := "fnSessions", unfollowed := true, recurses := true, apart := false, narrowed := true }
def FnSessionsUptoSaid : Prop := fnSessionsUptoRow.holds Try.pinned (OpenSpec.upto fnSessionsSpec)

/-- 'laws.FnExactSessionsFault', WHERE WHAT IT READS IS OF BULK AT MOST 1048576: true; the input reads as it did. -/
def fnExactSessionsFaultUptoRow : OpenClaim := { program := "ytjlmkjcahnnjpaa", sum := "2cd104a8dddc52566c7cc2dbbbea3cc6d6a398d0a7e6efd51b4010c4d866a961", func := "loop.example/g00369/laws.FnExactSessionsFault", spec := "fnExactSessionsFault", apart := false, narrowed := true }
def FnExactSessionsFaultUptoSaid : Prop := fnExactSessionsFaultUptoRow.holds Try.pinned (OpenSpec.upto fnExactSessionsFaultSpec)

/-- 'laws.FnExactOpenSession', WHERE WHAT IT READS IS OF BULK AT MOST 1048576: true; the input reads as it did. -/
def fnExactOpenSessionUptoRow : OpenClaim := { program := "ytjlmkjcahnnjpaa", sum := "2cd104a8dddc52566c7cc2dbbbea3cc6d6a398d0a7e6efd51b4010c4d866a961", func := "loop.example/g00369/laws.FnExactOpenSession", spec := "fnExactOpenSession", unfollowed := true, recurses := true, apart := false, narrowed := true }
def FnExactOpenSessionUptoSaid : Prop := fnExactOpenSessionUptoRow.holds Try.pinned (OpenSpec.upto fnExactOpenSessionSpec)

/-- 'laws.FnExactTouchSession', WHERE WHAT IT READS IS OF BULK AT MOST 1048576: true; the input reads as it did. -/
def fnExactTouchSessionUptoRow : OpenClaim := { program := "ytjlmkjcahnnjpaa", sum := "2cd104a8dddc52566c7cc2dbbbea3cc6d6a398d0a7e6efd51b4010c4d866a961", func := "loop.example/g00369/laws.FnExactTouchSession", spec := "fnExactTouchSession", unfollowed := true, recurses := true, apart := false, narrowed := true }
def FnExactTouchSessionUptoSaid : Prop := fnExactTouchSessionUptoRow.holds Try.pinned (OpenSpec.upto fnExactTouchSessionSpec)

/-- 'laws.FnExactLiveSession', WHERE WHAT IT READS IS OF BULK AT MOST 1048576: true; the input reads as it did. -/
def fnExactLiveSessionUptoRow : OpenClaim := { program := "ytjlmkjcahnnjpaa", sum := "2cd104a8dddc52566c7cc2dbbbea3cc6d6a398d0a7e6efd51b4010c4d866a961", func := "loop.example/g00369/laws.FnExactLiveSession", spec := "fnExactLiveSession", apart := false, narrowed := true }
def FnExactLiveSessionUptoSaid : Prop := fnExactLiveSessionUptoRow.holds Try.pinned (OpenSpec.upto fnExactLiveSessionSpec)

/-- 'laws.FnExactSplitSessions', WHERE WHAT IT READS IS OF BULK AT MOST 1048576: true; the input reads as it did. -/
def fnExactSplitSessionsUptoRow : OpenClaim := { program := "ytjlmkjcahnnjpaa", sum := "2cd104a8dddc52566c7cc2dbbbea3cc6d6a398d0a7e6efd51b4010c4d866a961", func := "loop.example/g00369/laws.FnExactSplitSessions", spec := "fnExactSplitSessions", unfollowed := true, recurses := true, apart := false, narrowed := true }
def FnExactSplitSessionsUptoSaid : Prop := fnExactSplitSessionsUptoRow.holds Try.pinned (OpenSpec.upto fnExactSplitSessionsSpec)

end Rows
end Go.Proofs.Ytjlmkjcahnnjpaa
