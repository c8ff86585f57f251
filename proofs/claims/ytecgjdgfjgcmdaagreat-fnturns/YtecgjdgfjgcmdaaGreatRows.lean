/-
  No cell of these rows narrows 'for every input' (looked for: loops, veiled, ifaces, maps, wideKeys, modest, calm, conditions, laid).
  DERIVED. THE GIVEN ROWS OF THIS SEAT. 8 by the template 'for every input the law returns true; each argument reads behind the call as it read before'; 0 by the template 'total and deterministic' (their statements: YtecgjdgfjgcmdaaGreatTotals.lean).
  GIVEN WITH THE SEED: the statements are not yours to turn. If you find one false, say at which input.
  Laid BY PROGRAM, IN A SANDBOX (cutbox-rows.mjs): the forced cells as the released guide's own fill.sh prints them over the translation d64a42a41f95adbb… (all of the seat's roots in one cut). By AI agents, Wed Nov 11 2026. No macro, syntax, notation, axiom, sorry.
-/
import Derived.Test.YtecgjdgfjgcmdaaGreatChecked
import GoSem.Claim
import GoSem.ClaimJoined
import GoSem.ClaimMapViews
import Derived.JoinedTies
import Derived.KernelRfl
namespace Go.Proofs.YtecgjdgfjgcmdaaGreat
/- THE CELL 'sum', in the pinned program and in every row, IS THE sha256 OF THE DUMP (.gsa) THAT YtecgjdgfjgcmdaaGreatProg.lean LOADS. Nothing in Lean hashes anything: it is a label: what it is worth is what the hold of that sum in a sandbox is worth. -/
noncomputable def Tryz.pinned : Pinned := { name := "ytecgjdgfjgcmdaagreat", sum := "d64a42a41f95adbb19814b948ee791658e73b364c0b53c59f1004a6137bfeb5f", checked := Tryz.checked }
namespace Rows
def none {H : Type} : Left H := { results := [], args := [] }

/-- 'laws.FnExactReplicaFault': WHATEVER THE INPUT: true; the input reads as it did. -/
def fnExactReplicaFaultSpec : ChangeSpec := { name := "fnExactReplicaFault", fn := fun _ => fun
  | [d1, d2, d3] => { results := [.lit (.bool true)], args := [d1, d2, d3] }
  | _ => none }
def fnExactReplicaFaultRow : OpenClaim := { program := "ytecgjdgfjgcmdaagreat", sum := "d64a42a41f95adbb19814b948ee791658e73b364c0b53c59f1004a6137bfeb5f", func := "loop.example/g00369/laws.FnExactReplicaFault", spec := "fnExactReplicaFault", unfollowed := true, recurses := true, apart := false }
def FnExactReplicaFaultSaid : Prop := fnExactReplicaFaultRow.holds Tryz.pinned (OpenSpec.ofChange fnExactReplicaFaultSpec)

/-- ITS FALSE NEIGHBOUR: 'it returns false'. Refute it at one input. -/
def fnExactReplicaFaultWrong : ChangeSpec := { name := "fnExactReplicaFault", fn := fun _ => fun
  | [d1, d2, d3] => { results := [.lit (.bool false)], args := [d1, d2, d3] }
  | _ => none }
def FnExactReplicaFaultWrongFalsely : Prop := fnExactReplicaFaultRow.holds Tryz.pinned (OpenSpec.ofChange fnExactReplicaFaultWrong)

/-- 'laws.FnExactMayPropose': WHATEVER THE INPUT: true; the input reads as it did. -/
def fnExactMayProposeSpec : ChangeSpec := { name := "fnExactMayPropose", fn := fun _ => fun
  | [d1, d2, d3, d4, d5] => { results := [.lit (.bool true)], args := [d1, d2, d3, d4, d5] }
  | _ => none }
def fnExactMayProposeRow : OpenClaim := { program := "ytecgjdgfjgcmdaagreat", sum := "d64a42a41f95adbb19814b948ee791658e73b364c0b53c59f1004a6137bfeb5f", func := "loop.example/g00369/laws.FnExactMayPropose", spec := "fnExactMayPropose", unfollowed := true, recurses := true, apart := false }
def FnExactMayProposeSaid : Prop := fnExactMayProposeRow.holds Tryz.pinned (OpenSpec.ofChange fnExactMayProposeSpec)

/-- ITS FALSE NEIGHBOUR: 'it returns false'. Refute it at one input. -/
def fnExactMayProposeWrong : ChangeSpec := { name := "fnExactMayPropose", fn := fun _ => fun
  | [d1, d2, d3, d4, d5] => { results := [.lit (.bool false)], args := [d1, d2, d3, d4, d5] }
  | _ => none }
def FnExactMayProposeWrongFalsely : Prop := fnExactMayProposeRow.holds Tryz.pinned (OpenSpec.ofChange fnExactMayProposeWrong)

/-- 'laws.FnExactMayPrepare': WHATEVER THE INPUT: true; the input reads as it did. -/
def fnExactMayPrepareSpec : ChangeSpec := { name := "fnExactMayPrepare", fn := fun _ => fun
  | [d1, d2, d3, d4] => { results := [.lit (.bool true)], args := [d1, d2, d3, d4] }
  | _ => none }
def fnExactMayPrepareRow : OpenClaim := { program := "ytecgjdgfjgcmdaagreat", sum := "d64a42a41f95adbb19814b948ee791658e73b364c0b53c59f1004a6137bfeb5f", func := "loop.example/g00369/laws.FnExactMayPrepare", spec := "fnExactMayPrepare", unfollowed := true, recurses := true, apart := false }
def FnExactMayPrepareSaid : Prop := fnExactMayPrepareRow.holds Tryz.pinned (OpenSpec.ofChange fnExactMayPrepareSpec)

/-- ITS FALSE NEIGHBOUR: 'it returns false'. Refute it at one input. -/
def fnExactMayPrepareWrong : ChangeSpec := { name := "fnExactMayPrepare", fn := fun _ => fun
  | [d1, d2, d3, d4] => { results := [.lit (.bool false)], args := [d1, d2, d3, d4] }
  | _ => none }
def FnExactMayPrepareWrongFalsely : Prop := fnExactMayPrepareRow.holds Tryz.pinned (OpenSpec.ofChange fnExactMayPrepareWrong)

/-- 'laws.FnExactMayCommit': WHATEVER THE INPUT: true; the input reads as it did. -/
def fnExactMayCommitSpec : ChangeSpec := { name := "fnExactMayCommit", fn := fun _ => fun
  | [d1, d2, d3, d4, d5] => { results := [.lit (.bool true)], args := [d1, d2, d3, d4, d5] }
  | _ => none }
def fnExactMayCommitRow : OpenClaim := { program := "ytecgjdgfjgcmdaagreat", sum := "d64a42a41f95adbb19814b948ee791658e73b364c0b53c59f1004a6137bfeb5f", func := "loop.example/g00369/laws.FnExactMayCommit", spec := "fnExactMayCommit", unfollowed := true, recurses := true, apart := false }
def FnExactMayCommitSaid : Prop := fnExactMayCommitRow.holds Tryz.pinned (OpenSpec.ofChange fnExactMayCommitSpec)

/-- ITS FALSE NEIGHBOUR: 'it returns false'. Refute it at one input. -/
def fnExactMayCommitWrong : ChangeSpec := { name := "fnExactMayCommit", fn := fun _ => fun
  | [d1, d2, d3, d4, d5] => { results := [.lit (.bool false)], args := [d1, d2, d3, d4, d5] }
  | _ => none }
def FnExactMayCommitWrongFalsely : Prop := fnExactMayCommitRow.holds Tryz.pinned (OpenSpec.ofChange fnExactMayCommitWrong)

/-- 'laws.FnExactChangeMsg': WHATEVER THE INPUT: true; the input reads as it did. -/
def fnExactChangeMsgSpec : ChangeSpec := { name := "fnExactChangeMsg", fn := fun _ => fun
  | [d1, d2, d3, d4] => { results := [.lit (.bool true)], args := [d1, d2, d3, d4] }
  | _ => none }
def fnExactChangeMsgRow : OpenClaim := { program := "ytecgjdgfjgcmdaagreat", sum := "d64a42a41f95adbb19814b948ee791658e73b364c0b53c59f1004a6137bfeb5f", func := "loop.example/g00369/laws.FnExactChangeMsg", spec := "fnExactChangeMsg", unfollowed := true, recurses := true, apart := false }
def FnExactChangeMsgSaid : Prop := fnExactChangeMsgRow.holds Tryz.pinned (OpenSpec.ofChange fnExactChangeMsgSpec)

/-- ITS FALSE NEIGHBOUR: 'it returns false'. Refute it at one input. -/
def fnExactChangeMsgWrong : ChangeSpec := { name := "fnExactChangeMsg", fn := fun _ => fun
  | [d1, d2, d3, d4] => { results := [.lit (.bool false)], args := [d1, d2, d3, d4] }
  | _ => none }
def FnExactChangeMsgWrongFalsely : Prop := fnExactChangeMsgRow.holds Tryz.pinned (OpenSpec.ofChange fnExactChangeMsgWrong)

/-- 'laws.FnExactNewMsg': WHATEVER THE INPUT: true; the input reads as it did. -/
def fnExactNewMsgSpec : ChangeSpec := { name := "fnExactNewMsg", fn := fun _ => fun
  | [d1, d2, d3] => { results := [.lit (.bool true)], args := [d1, d2, d3] }
  | _ => none }
def fnExactNewMsgRow : OpenClaim := { program := "ytecgjdgfjgcmdaagreat", sum := "d64a42a41f95adbb19814b948ee791658e73b364c0b53c59f1004a6137bfeb5f", func := "loop.example/g00369/laws.FnExactNewMsg", spec := "fnExactNewMsg", unfollowed := true, recurses := true, apart := false }
def FnExactNewMsgSaid : Prop := fnExactNewMsgRow.holds Tryz.pinned (OpenSpec.ofChange fnExactNewMsgSpec)

/-- ITS FALSE NEIGHBOUR: 'it returns false'. Refute it at one input. -/
def fnExactNewMsgWrong : ChangeSpec := { name := "fnExactNewMsg", fn := fun _ => fun
  | [d1, d2, d3] => { results := [.lit (.bool false)], args := [d1, d2, d3] }
  | _ => none }
def FnExactNewMsgWrongFalsely : Prop := fnExactNewMsgRow.holds Tryz.pinned (OpenSpec.ofChange fnExactNewMsgWrong)

/-- 'laws.FnMays': WHATEVER THE INPUT: true; the input reads as it did. -/
def fnMaysSpec : ChangeSpec := { name := "fnMays", fn := fun _ => fun
  | [d] => { results := [.lit (.bool true)], args := [d] }
  | _ => none }
def fnMaysRow : OpenClaim := { program := "ytecgjdgfjgcmdaagreat", sum := "d64a42a41f95adbb19814b948ee791658e73b364c0b53c59f1004a6137bfeb5f", func := "loop.example/g00369/laws.FnMays", spec := "fnMays", unfollowed := true, recurses := true, apart := false }
def FnMaysSaid : Prop := fnMaysRow.holds Tryz.pinned (OpenSpec.ofChange fnMaysSpec)

/-- ITS FALSE NEIGHBOUR: 'it returns false'. Refute it at one input. -/
def fnMaysWrong : ChangeSpec := { name := "fnMays", fn := fun _ => fun
  | [d] => { results := [.lit (.bool false)], args := [d] }
  | _ => none }
def FnMaysWrongFalsely : Prop := fnMaysRow.holds Tryz.pinned (OpenSpec.ofChange fnMaysWrong)

/-- 'laws.FnTurns': WHATEVER THE INPUT: true; the input reads as it did. -/
def fnTurnsSpec : ChangeSpec := { name := "fnTurns", fn := fun _ => fun
  | [d] => { results := [.lit (.bool true)], args := [d] }
  | _ => none }
def fnTurnsRow : OpenClaim := { program := "ytecgjdgfjgcmdaagreat", sum := "d64a42a41f95adbb19814b948ee791658e73b364c0b53c59f1004a6137bfeb5f", func := "loop.example/g00369/laws.FnTurns", spec := "fnTurns", unfollowed := true, recurses := true, apart := false }
def FnTurnsSaid : Prop := fnTurnsRow.holds Tryz.pinned (OpenSpec.ofChange fnTurnsSpec)

/-- ITS FALSE NEIGHBOUR: 'it returns false'. Refute it at one input. -/
def fnTurnsWrong : ChangeSpec := { name := "fnTurns", fn := fun _ => fun
  | [d] => { results := [.lit (.bool false)], args := [d] }
  | _ => none }
def FnTurnsWrongFalsely : Prop := fnTurnsRow.holds Tryz.pinned (OpenSpec.ofChange fnTurnsWrong)

/- THE SECOND FORM. 'bulk': how many values and letters a reading holds, each counted each time it is reached (what is shared counts as often as it is met; a slice's spare places count too). A statement '..UptoSaid' is the law's where the arguments, and the package variables that the reading takes, are together of bulk at most 1048576: NARROWER than '..Said'. Prove '..Said' where nothing that the law and all that it calls make is longer than what came in: it says more and counts as full. Else prove '..UptoSaid'. A law counts once. -/
mutual
def uptoBulk {H : Type} : DataW H → Nat
  | .lit (.string bytes) => bytes.length + 1
  | .lit _ => 1
  | .nil => 1
  | .ptr d => uptoBulk d + 1
  | .slice elems spare => uptoBulkAll elems + uptoBulkAll spare + 1
  | .agg parts => uptoBulkAll parts + 1
  | .iface _ d => uptoBulk d + 1
  | .map entries => uptoBulkEntries entries + 1
  | .held _ => 1
def uptoBulkAll {H : Type} : List (DataW H) → Nat
  | [] => 0
  | d :: r => uptoBulk d + uptoBulkAll r
def uptoBulkEntries {H : Type} : List (Lit × DataW H) → Nat
  | [] => 0
  | x :: r => uptoBulkEntry x + uptoBulkEntries r
def uptoBulkEntry {H : Type} : Lit × DataW H → Nat
  | (.string bytes, d) => bytes.length + uptoBulk d + 1
  | (_, d) => uptoBulk d + 1
 end
def uptoSmall : (H : Type) → List (DataW H) → Bool := fun _ ds => decide (uptoBulkAll ds ≤ 1048576)
def OpenSpec.upto (s : _root_.Go.ChangeSpec) : _root_.Go.OpenSpec := { _root_.Go.OpenSpec.ofChange s with cond := some uptoSmall }

/-- 'laws.FnExactReplicaFault', WHERE WHAT IT READS IS OF BULK AT MOST 1048576: true; the input reads as it did. -/
def fnExactReplicaFaultUptoRow : OpenClaim := { program := "ytecgjdgfjgcmdaagreat", sum := "d64a42a41f95adbb19814b948ee791658e73b364c0b53c59f1004a6137bfeb5f", func := "loop.example/g00369/laws.FnExactReplicaFault", spec := "fnExactReplicaFault", unfollowed := true, recurses := true, apart := false, narrowed := true }
def FnExactReplicaFaultUptoSaid : Prop := fnExactReplicaFaultUptoRow.holds Tryz.pinned (OpenSpec.upto fnExactReplicaFaultSpec)

/-- 'laws.FnExactMayPropose', WHERE WHAT IT READS IS OF BULK AT MOST 1048576: true; the input reads as it did. -/
def fnExactMayProposeUptoRow : OpenClaim := { program := "ytecgjdgfjgcmdaagreat", sum := "d64a42a41f95adbb19814b948ee791658e73b364c0b53c59f1004a6137bfeb5f", func := "loop.example/g00369/laws.FnExactMayPropose", spec := "fnExactMayPropose", unfollowed := true, recurses := true, apart := false, narrowed := true }
def FnExactMayProposeUptoSaid : Prop := fnExactMayProposeUptoRow.holds Tryz.pinned (OpenSpec.upto fnExactMayProposeSpec)

/-- 'laws.FnExactMayPrepare', WHERE WHAT IT READS IS OF BULK AT MOST 1048576: true; the input reads as it did. -/
def fnExactMayPrepareUptoRow : OpenClaim := { program := "ytecgjdgfjgcmdaagreat", sum := "d64a42a41f95adbb19814b948ee791658e73b364c0b53c59f1004a6137bfeb5f", func := "loop.example/g00369/laws.FnExactMayPrepare", spec := "fnExactMayPrepare", unfollowed := true, recurses := true, apart := false, narrowed := true }
def FnExactMayPrepareUptoSaid : Prop := fnExactMayPrepareUptoRow.holds Tryz.pinned (OpenSpec.upto fnExactMayPrepareSpec)

/-- 'laws.FnExactMayCommit', WHERE WHAT IT READS IS OF BULK AT MOST 1048576: true; the input reads as it did. -/
def fnExactMayCommitUptoRow : OpenClaim := { program := "ytecgjdgfjgcmdaagreat", sum := "d64a42a41f95adbb19814b948ee791658e73b364c0b53c59f1004a6137bfeb5f", func := "loop.example/g00369/laws.FnExactMayCommit", spec := "fnExactMayCommit", unfollowed := true, recurses := true, apart := false, narrowed := true }
def FnExactMayCommitUptoSaid : Prop := fnExactMayCommitUptoRow.holds Tryz.pinned (OpenSpec.upto fnExactMayCommitSpec)

/-- 'laws.FnExactChangeMsg', WHERE WHAT IT READS IS OF BULK AT MOST 1048576: true; the input reads as it did. -/
def fnExactChangeMsgUptoRow : OpenClaim := { program := "ytecgjdgfjgcmdaagreat", sum := "d64a42a41f95adbb19814b948ee791658e73b364c0b53c59f1004a6137bfeb5f", func := "loop.example/g00369/laws.FnExactChangeMsg", spec := "fnExactChangeMsg", unfollowed := true, recurses := true, apart := false, narrowed := true }
def FnExactChangeMsgUptoSaid : Prop := fnExactChangeMsgUptoRow.holds Tryz.pinned (OpenSpec.upto fnExactChangeMsgSpec)

/-- 'laws.FnExactNewMsg', WHERE WHAT IT READS IS OF BULK AT MOST 1048576: true; the input reads as it did. -/
def fnExactNewMsgUptoRow : OpenClaim := { program := "ytecgjdgfjgcmdaagreat", sum := "d64a42a41f95adbb19814b948ee791658e73b364c0b53c59f1004a6137bfeb5f", func := "loop.example/g00369/laws.FnExactNewMsg", spec := "fnExactNewMsg", unfollowed := true, recurses := true, apart := false, narrowed := true }
def FnExactNewMsgUptoSaid : Prop := fnExactNewMsgUptoRow.holds Tryz.pinned (OpenSpec.upto fnExactNewMsgSpec)

/-- 'laws.FnMays', WHERE WHAT IT READS IS OF BULK AT MOST 1048576: true; the input reads as it did. -/
def fnMaysUptoRow : OpenClaim := { program := "ytecgjdgfjgcmdaagreat", sum := "d64a42a41f95adbb19814b948ee791658e73b364c0b53c59f1004a6137bfeb5f", func := "loop.example/g00369/laws.FnMays", spec := "fnMays", unfollowed := true, recurses := true, apart := false, narrowed := true }
def FnMaysUptoSaid : Prop := fnMaysUptoRow.holds Tryz.pinned (OpenSpec.upto fnMaysSpec)

/-- 'laws.FnTurns', WHERE WHAT IT READS IS OF BULK AT MOST 1048576: true; the input reads as it did. -/
def fnTurnsUptoRow : OpenClaim := { program := "ytecgjdgfjgcmdaagreat", sum := "d64a42a41f95adbb19814b948ee791658e73b364c0b53c59f1004a6137bfeb5f", func := "loop.example/g00369/laws.FnTurns", spec := "fnTurns", unfollowed := true, recurses := true, apart := false, narrowed := true }
def FnTurnsUptoSaid : Prop := fnTurnsUptoRow.holds Tryz.pinned (OpenSpec.upto fnTurnsSpec)

end Rows
end Go.Proofs.YtecgjdgfjgcmdaaGreat
