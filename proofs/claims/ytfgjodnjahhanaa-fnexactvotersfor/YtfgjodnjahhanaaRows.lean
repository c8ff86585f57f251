/-
  No cell of these rows narrows 'for every input' (looked for: loops, veiled, ifaces, maps, wideKeys, modest, calm, conditions, laid).
  DERIVED. THE GIVEN ROWS OF THIS SEAT. 3 by the template 'for every input the law returns true; each argument reads behind the call as it read before'; 0 by the template 'total and deterministic' (their statements: YtfgjodnjahhanaaTotals.lean).
  GIVEN WITH THE SEED: the statements are not yours to turn. If you find one false, say at which input.
  Laid BY PROGRAM, IN A SANDBOX (cutbox-rows.mjs): the forced cells as the released guide's own fill.sh prints them over the translation 0eb4b23c3a1feaae… (all of the seat's roots in one cut). By AI agents, Wed Nov 11 2026. No macro, syntax, notation, axiom, sorry.
-/
import Derived.Test.YtfgjodnjahhanaaChecked
import GoSem.Claim
import GoSem.ClaimJoined
import GoSem.ClaimMapViews
import Derived.JoinedTies
import Derived.KernelRfl
namespace Go.Proofs.Ytfgjodnjahhanaa
/- THE CELL 'sum', in the pinned program and in every row, IS THE sha256 OF THE DUMP (.gsa) THAT YtfgjodnjahhanaaProg.lean LOADS. Nothing in Lean hashes anything: it is a label: what it is worth is what the hold of that sum in a sandbox is worth. -/
noncomputable def Try.pinned : Pinned := { name := "ytfgjodnjahhanaa", sum := "0eb4b23c3a1feaae54180d45cbed4dff452ca2eb562a20be7fc84fd5ae9e6cc4", checked := Try.checked }
namespace Rows
def none {H : Type} : Left H := { results := [], args := [] }

/-- 'laws.FnExactVotesFault': WHATEVER THE INPUT: true; the input reads as it did. -/
def fnExactVotesFaultSpec : ChangeSpec := { name := "fnExactVotesFault", fn := fun _ => fun
  | [d1, d2] => { results := [.lit (.bool true)], args := [d1, d2] }
  | _ => none }
def fnExactVotesFaultRow : OpenClaim := { program := "ytfgjodnjahhanaa", sum := "0eb4b23c3a1feaae54180d45cbed4dff452ca2eb562a20be7fc84fd5ae9e6cc4", func := "loop.example/g00369/laws.FnExactVotesFault", spec := "fnExactVotesFault", apart := false }
def FnExactVotesFaultSaid : Prop := fnExactVotesFaultRow.holds Try.pinned (OpenSpec.ofChange fnExactVotesFaultSpec)

/-- ITS FALSE NEIGHBOUR: 'it returns false'. Refute it at one input. -/
def fnExactVotesFaultWrong : ChangeSpec := { name := "fnExactVotesFault", fn := fun _ => fun
  | [d1, d2] => { results := [.lit (.bool false)], args := [d1, d2] }
  | _ => none }
def FnExactVotesFaultWrongFalsely : Prop := fnExactVotesFaultRow.holds Try.pinned (OpenSpec.ofChange fnExactVotesFaultWrong)

/-- 'laws.FnExactVotersFor': WHATEVER THE INPUT: true; the input reads as it did. -/
def fnExactVotersForSpec : ChangeSpec := { name := "fnExactVotersFor", fn := fun _ => fun
  | [d1, d2, d3] => { results := [.lit (.bool true)], args := [d1, d2, d3] }
  | _ => none }
def fnExactVotersForRow : OpenClaim := { program := "ytfgjodnjahhanaa", sum := "0eb4b23c3a1feaae54180d45cbed4dff452ca2eb562a20be7fc84fd5ae9e6cc4", func := "loop.example/g00369/laws.FnExactVotersFor", spec := "fnExactVotersFor", unfollowed := true, recurses := true, apart := false }
def FnExactVotersForSaid : Prop := fnExactVotersForRow.holds Try.pinned (OpenSpec.ofChange fnExactVotersForSpec)

/-- ITS FALSE NEIGHBOUR: 'it returns false'. Refute it at one input. -/
def fnExactVotersForWrong : ChangeSpec := { name := "fnExactVotersFor", fn := fun _ => fun
  | [d1, d2, d3] => { results := [.lit (.bool false)], args := [d1, d2, d3] }
  | _ => none }
def FnExactVotersForWrongFalsely : Prop := fnExactVotersForRow.holds Try.pinned (OpenSpec.ofChange fnExactVotersForWrong)

/-- 'laws.FnExactAcceptOf': WHATEVER THE INPUT: true; the input reads as it did. -/
def fnExactAcceptOfSpec : ChangeSpec := { name := "fnExactAcceptOf", fn := fun _ => fun
  | [d1, d2] => { results := [.lit (.bool true)], args := [d1, d2] }
  | _ => none }
def fnExactAcceptOfRow : OpenClaim := { program := "ytfgjodnjahhanaa", sum := "0eb4b23c3a1feaae54180d45cbed4dff452ca2eb562a20be7fc84fd5ae9e6cc4", func := "loop.example/g00369/laws.FnExactAcceptOf", spec := "fnExactAcceptOf", apart := false }
def FnExactAcceptOfSaid : Prop := fnExactAcceptOfRow.holds Try.pinned (OpenSpec.ofChange fnExactAcceptOfSpec)

/-- ITS FALSE NEIGHBOUR: 'it returns false'. Refute it at one input. -/
def fnExactAcceptOfWrong : ChangeSpec := { name := "fnExactAcceptOf", fn := fun _ => fun
  | [d1, d2] => { results := [.lit (.bool false)], args := [d1, d2] }
  | _ => none }
def FnExactAcceptOfWrongFalsely : Prop := fnExactAcceptOfRow.holds Try.pinned (OpenSpec.ofChange fnExactAcceptOfWrong)

/- THE SECOND FORM. 'bulk': how many values and letters a reading holds, each counted each time it is reached (what is shared counts as often as it is met; a slice's spare places count too). A statement '..UptoSaid' is the law's where the arguments, and the package variables that the reading takes, are together of bulk at most 1048576: NARROWER than '..Said'. Prove '..Said' where nothing that the law and all that it calls make is longer than what came in: it says more and counts as full. Else prove '..UptoSaid'. A law counts once. -/
mutual
def uptoBulk {H : Type} : DataW H → Nat
  | .lit (.string bytes) => bytes.length + 1
  | .lit _ => 1
  | .nil => 1
  | .ptr d => uptoBulk d + 1
  | .slice elems spare => uptoBulkAll elems + uptoBulkAll spare + 1
  | .agg parts => uptoBulkAll parts + 1
  | .iface _ d => uptoBulk d + 1
  | .map entries => uptoBulkEntries entries + 1
  | .held _ => 1
def uptoBulkAll {H : Type} : List (DataW H) → Nat
  | [] => 0
  | d :: r => uptoBulk d + uptoBulkAll r
def uptoBulkEntries {H : Type} : List (Lit × DataW H) → Nat
  | [] => 0
  | x :: r => uptoBulkEntry x + uptoBulkEntries r
def uptoBulkEntry {H : Type} : Lit × DataW H → Nat
  | (.string bytes, d) => bytes.length + uptoBulk d + 1
  | (_, d) => uptoBulk d + 1
 end
def uptoSmall : (H : Type) → List (DataW H) → Bool := fun _ ds => decide (uptoBulkAll ds ≤ 1048576)
def OpenSpec.upto (s : _root_.Go.ChangeSpec) : _root_.Go.OpenSpec := { _root_.Go.OpenSpec.ofChange s with cond := some uptoSmall }

/-- 'laws.FnExactVotesFault', WHERE WHAT IT READS IS OF BULK AT MOST 1048576: true; the input reads as it did. -/
def fnExactVotesFaultUptoRow : OpenClaim := { program := "ytfgjodnjahhanaa", sum := "0eb4b23c3a1feaae54180d45cbed4dff452ca2eb562a20be7fc84fd5ae9e6cc4", func := "loop.example/g00369/laws.FnExactVotesFault", spec := "fnExactVotesFault", apart := false, narrowed := true }
def FnExactVotesFaultUptoSaid : Prop := fnExactVotesFaultUptoRow.holds Try.pinned (OpenSpec.upto fnExactVotesFaultSpec)

/-- 'laws.FnExactVotersFor', WHERE WHAT IT READS IS OF BULK AT MOST 1048576: true; the input reads as it did. -/
def fnExactVotersForUptoRow : OpenClaim := { program := "ytfgjodnjahhanaa", sum := "0eb4b23c3a1feaae54180d45cbed4dff452ca2eb562a20be7fc84fd5ae9e6cc4", func := "loop.example/g00369/laws.FnExactVotersFor", spec := "fnExactVotersFor", unfollowed := true, recurses := true, apart := false, narrowed := true }
def FnExactVotersForUptoSaid : Prop := fnExactVotersForUptoRow.holds Try.pinned (OpenSpec.upto fnExactVotersForSpec)

/-- 'laws.FnExactAcceptOf', WHERE WHAT IT READS IS OF BULK AT MOST 1048576: true; the input reads as it did. -/
def fnExactAcceptOfUptoRow : OpenClaim := { program := "ytfgjodnjahhanaa", sum := "0eb4b23c3a1feaae54180d45cbed4dff452ca2eb562a20be7fc84fd5ae9e6cc4", func := "loop.example/g00369/laws.FnExactAcceptOf", spec := "fnExactAcceptOf", apart := false, narrowed := true }
def FnExactAcceptOfUptoSaid : Prop := fnExactAcceptOfUptoRow.holds Try.pinned (OpenSpec.upto fnExactAcceptOfSpec)

end Rows
end Go.Proofs.Ytfgjodnjahhanaa
