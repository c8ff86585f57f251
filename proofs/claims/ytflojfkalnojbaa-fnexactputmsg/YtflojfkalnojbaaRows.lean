/-
  No cell of these rows narrows 'for every input' (looked for: loops, veiled, ifaces, maps, wideKeys, modest, calm, conditions, laid).
  DERIVED. THE GIVEN ROWS OF THIS SEAT. 11 by the template 'for every input the law returns true; each argument reads behind the call as it read before'; 0 by the template 'total and deterministic' (their statements: YtflojfkalnojbaaTotals.lean).
  GIVEN WITH THE SEED: the statements are not yours to turn. If you find one false, say at which input.
  Laid BY PROGRAM, IN A SANDBOX (cutbox-rows.mjs): the forced cells as the released guide's own fill.sh prints them over the translation 00bdd9cd867db79a… (all of the seat's roots in one cut). By AI agents, Wed Nov 11 2026. No macro, syntax, notation, axiom, sorry.
-/
import Derived.Test.YtflojfkalnojbaaChecked
import GoSem.Claim
import GoSem.ClaimJoined
import GoSem.ClaimMapViews
import Derived.JoinedTies
import Derived.KernelRfl
namespace Go.Proofs.Ytflojfkalnojbaa
/- THE CELL 'sum', in the pinned program and in every row, IS THE sha256 OF THE DUMP (.gsa) THAT YtflojfkalnojbaaProg.lean LOADS. Nothing in Lean hashes anything: it is a label: what it is worth is what the hold of that sum in a sandbox is worth. -/
noncomputable def Try.pinned : Pinned := { name := "ytflojfkalnojbaa", sum := "00bdd9cd867db79aae2da0c8d138efbf9c67fe47782655e09ccab9bf3504465b", checked := Try.checked }
namespace Rows
def none {H : Type} : Left H := { results := [], args := [] }

/-- 'laws.FnQuorums': WHATEVER THE INPUT: true; the input reads as it did. -/
def fnQuorumsSpec : ChangeSpec := { name := "fnQuorums", fn := fun _ => fun
  | [d] => { results := [.lit (.bool true)], args := [d] }
  | _ => none }
def fnQuorumsRow : OpenClaim := { program := "ytflojfkalnojbaa", sum := "00bdd9cd867db79aae2da0c8d138efbf9c67fe47782655e09ccab9bf3504465b", func := "loop.example/g00369/laws.FnQuorums", spec := "fnQuorums", unfollowed := true, recurses := true, apart := false }
def FnQuorumsSaid : Prop := fnQuorumsRow.holds Try.pinned (OpenSpec.ofChange fnQuorumsSpec)

/-- ITS FALSE NEIGHBOUR: 'it returns false'. Refute it at one input. -/
def fnQuorumsWrong : ChangeSpec := { name := "fnQuorums", fn := fun _ => fun
  | [d] => { results := [.lit (.bool false)], args := [d] }
  | _ => none }
def FnQuorumsWrongFalsely : Prop := fnQuorumsRow.holds Try.pinned (OpenSpec.ofChange fnQuorumsWrong)

/-- 'laws.FnPicks': WHATEVER THE INPUT: true; the input reads as it did. -/
def fnPicksSpec : ChangeSpec := { name := "fnPicks", fn := fun _ => fun
  | [d] => { results := [.lit (.bool true)], args := [d] }
  | _ => none }
def fnPicksRow : OpenClaim := { program := "ytflojfkalnojbaa", sum := "00bdd9cd867db79aae2da0c8d138efbf9c67fe47782655e09ccab9bf3504465b", func := "loop.example/g00369/laws.FnPicks", spec := "fnPicks", unfollowed := true, recurses := true, apart := false }
def FnPicksSaid : Prop := fnPicksRow.holds Try.pinned (OpenSpec.ofChange fnPicksSpec)

/-- ITS FALSE NEIGHBOUR: 'it returns false'. Refute it at one input. -/
def fnPicksWrong : ChangeSpec := { name := "fnPicks", fn := fun _ => fun
  | [d] => { results := [.lit (.bool false)], args := [d] }
  | _ => none }
def FnPicksWrongFalsely : Prop := fnPicksRow.holds Try.pinned (OpenSpec.ofChange fnPicksWrong)

/-- 'laws.FnViews': WHATEVER THE INPUT: true; the input reads as it did. -/
def fnViewsSpec : ChangeSpec := { name := "fnViews", fn := fun _ => fun
  | [d] => { results := [.lit (.bool true)], args := [d] }
  | _ => none }
def fnViewsRow : OpenClaim := { program := "ytflojfkalnojbaa", sum := "00bdd9cd867db79aae2da0c8d138efbf9c67fe47782655e09ccab9bf3504465b", func := "loop.example/g00369/laws.FnViews", spec := "fnViews", unfollowed := true, recurses := true, apart := false }
def FnViewsSaid : Prop := fnViewsRow.holds Try.pinned (OpenSpec.ofChange fnViewsSpec)

/-- ITS FALSE NEIGHBOUR: 'it returns false'. Refute it at one input. -/
def fnViewsWrong : ChangeSpec := { name := "fnViews", fn := fun _ => fun
  | [d] => { results := [.lit (.bool false)], args := [d] }
  | _ => none }
def FnViewsWrongFalsely : Prop := fnViewsRow.holds Try.pinned (OpenSpec.ofChange fnViewsWrong)

/-- 'laws.FnExactPutMsg': WHATEVER THE INPUT: true; the input reads as it did. -/
def fnExactPutMsgSpec : ChangeSpec := { name := "fnExactPutMsg", fn := fun _ => fun
  | [d1, d2, d3] => { results := [.lit (.bool true)], args := [d1, d2, d3] }
  | _ => none }
def fnExactPutMsgRow : OpenClaim := { program := "ytflojfkalnojbaa", sum := "00bdd9cd867db79aae2da0c8d138efbf9c67fe47782655e09ccab9bf3504465b", func := "loop.example/g00369/laws.FnExactPutMsg", spec := "fnExactPutMsg", apart := false }
def FnExactPutMsgSaid : Prop := fnExactPutMsgRow.holds Try.pinned (OpenSpec.ofChange fnExactPutMsgSpec)

/-- ITS FALSE NEIGHBOUR: 'it returns false'. Refute it at one input. -/
def fnExactPutMsgWrong : ChangeSpec := { name := "fnExactPutMsg", fn := fun _ => fun
  | [d1, d2, d3] => { results := [.lit (.bool false)], args := [d1, d2, d3] }
  | _ => none }
def FnExactPutMsgWrongFalsely : Prop := fnExactPutMsgRow.holds Try.pinned (OpenSpec.ofChange fnExactPutMsgWrong)

/-- 'laws.FnExactCertRight': WHATEVER THE INPUT: true; the input reads as it did. -/
def fnExactCertRightSpec : ChangeSpec := { name := "fnExactCertRight", fn := fun _ => fun
  | [d1, d2, d3] => { results := [.lit (.bool true)], args := [d1, d2, d3] }
  | _ => none }
def fnExactCertRightRow : OpenClaim := { program := "ytflojfkalnojbaa", sum := "00bdd9cd867db79aae2da0c8d138efbf9c67fe47782655e09ccab9bf3504465b", func := "loop.example/g00369/laws.FnExactCertRight", spec := "fnExactCertRight", apart := false }
def FnExactCertRightSaid : Prop := fnExactCertRightRow.holds Try.pinned (OpenSpec.ofChange fnExactCertRightSpec)

/-- ITS FALSE NEIGHBOUR: 'it returns false'. Refute it at one input. -/
def fnExactCertRightWrong : ChangeSpec := { name := "fnExactCertRight", fn := fun _ => fun
  | [d1, d2, d3] => { results := [.lit (.bool false)], args := [d1, d2, d3] }
  | _ => none }
def FnExactCertRightWrongFalsely : Prop := fnExactCertRightRow.holds Try.pinned (OpenSpec.ofChange fnExactCertRightWrong)

/-- 'laws.FnExactChangeRight': WHATEVER THE INPUT: true; the input reads as it did. -/
def fnExactChangeRightSpec : ChangeSpec := { name := "fnExactChangeRight", fn := fun _ => fun
  | [d1, d2, d3] => { results := [.lit (.bool true)], args := [d1, d2, d3] }
  | _ => none }
def fnExactChangeRightRow : OpenClaim := { program := "ytflojfkalnojbaa", sum := "00bdd9cd867db79aae2da0c8d138efbf9c67fe47782655e09ccab9bf3504465b", func := "loop.example/g00369/laws.FnExactChangeRight", spec := "fnExactChangeRight", apart := false }
def FnExactChangeRightSaid : Prop := fnExactChangeRightRow.holds Try.pinned (OpenSpec.ofChange fnExactChangeRightSpec)

/-- ITS FALSE NEIGHBOUR: 'it returns false'. Refute it at one input. -/
def fnExactChangeRightWrong : ChangeSpec := { name := "fnExactChangeRight", fn := fun _ => fun
  | [d1, d2, d3] => { results := [.lit (.bool false)], args := [d1, d2, d3] }
  | _ => none }
def FnExactChangeRightWrongFalsely : Prop := fnExactChangeRightRow.holds Try.pinned (OpenSpec.ofChange fnExactChangeRightWrong)

/-- 'laws.FnExactChangesFor': WHATEVER THE INPUT: true; the input reads as it did. -/
def fnExactChangesForSpec : ChangeSpec := { name := "fnExactChangesFor", fn := fun _ => fun
  | [d1, d2, d3] => { results := [.lit (.bool true)], args := [d1, d2, d3] }
  | _ => none }
def fnExactChangesForRow : OpenClaim := { program := "ytflojfkalnojbaa", sum := "00bdd9cd867db79aae2da0c8d138efbf9c67fe47782655e09ccab9bf3504465b", func := "loop.example/g00369/laws.FnExactChangesFor", spec := "fnExactChangesFor", apart := false }
def FnExactChangesForSaid : Prop := fnExactChangesForRow.holds Try.pinned (OpenSpec.ofChange fnExactChangesForSpec)

/-- ITS FALSE NEIGHBOUR: 'it returns false'. Refute it at one input. -/
def fnExactChangesForWrong : ChangeSpec := { name := "fnExactChangesFor", fn := fun _ => fun
  | [d1, d2, d3] => { results := [.lit (.bool false)], args := [d1, d2, d3] }
  | _ => none }
def FnExactChangesForWrongFalsely : Prop := fnExactChangesForRow.holds Try.pinned (OpenSpec.ofChange fnExactChangesForWrong)

/-- 'laws.FnExactNewRight': WHATEVER THE INPUT: true; the input reads as it did. -/
def fnExactNewRightSpec : ChangeSpec := { name := "fnExactNewRight", fn := fun _ => fun
  | [d1, d2, d3] => { results := [.lit (.bool true)], args := [d1, d2, d3] }
  | _ => none }
def fnExactNewRightRow : OpenClaim := { program := "ytflojfkalnojbaa", sum := "00bdd9cd867db79aae2da0c8d138efbf9c67fe47782655e09ccab9bf3504465b", func := "loop.example/g00369/laws.FnExactNewRight", spec := "fnExactNewRight", apart := false }
def FnExactNewRightSaid : Prop := fnExactNewRightRow.holds Try.pinned (OpenSpec.ofChange fnExactNewRightSpec)

/-- ITS FALSE NEIGHBOUR: 'it returns false'. Refute it at one input. -/
def fnExactNewRightWrong : ChangeSpec := { name := "fnExactNewRight", fn := fun _ => fun
  | [d1, d2, d3] => { results := [.lit (.bool false)], args := [d1, d2, d3] }
  | _ => none }
def FnExactNewRightWrongFalsely : Prop := fnExactNewRightRow.holds Try.pinned (OpenSpec.ofChange fnExactNewRightWrong)

/-- 'laws.FnExactPickOf': WHATEVER THE INPUT: true; the input reads as it did. -/
def fnExactPickOfSpec : ChangeSpec := { name := "fnExactPickOf", fn := fun _ => fun
  | [d1, d2, d3] => { results := [.lit (.bool true)], args := [d1, d2, d3] }
  | _ => none }
def fnExactPickOfRow : OpenClaim := { program := "ytflojfkalnojbaa", sum := "00bdd9cd867db79aae2da0c8d138efbf9c67fe47782655e09ccab9bf3504465b", func := "loop.example/g00369/laws.FnExactPickOf", spec := "fnExactPickOf", unfollowed := true, recurses := true, apart := false }
def FnExactPickOfSaid : Prop := fnExactPickOfRow.holds Try.pinned (OpenSpec.ofChange fnExactPickOfSpec)

/-- ITS FALSE NEIGHBOUR: 'it returns false'. Refute it at one input. -/
def fnExactPickOfWrong : ChangeSpec := { name := "fnExactPickOf", fn := fun _ => fun
  | [d1, d2, d3] => { results := [.lit (.bool false)], args := [d1, d2, d3] }
  | _ => none }
def FnExactPickOfWrongFalsely : Prop := fnExactPickOfRow.holds Try.pinned (OpenSpec.ofChange fnExactPickOfWrong)

/-- 'laws.FnExactProposeRight': WHATEVER THE INPUT: true; the input reads as it did. -/
def fnExactProposeRightSpec : ChangeSpec := { name := "fnExactProposeRight", fn := fun _ => fun
  | [d1, d2, d3, d4] => { results := [.lit (.bool true)], args := [d1, d2, d3, d4] }
  | _ => none }
def fnExactProposeRightRow : OpenClaim := { program := "ytflojfkalnojbaa", sum := "00bdd9cd867db79aae2da0c8d138efbf9c67fe47782655e09ccab9bf3504465b", func := "loop.example/g00369/laws.FnExactProposeRight", spec := "fnExactProposeRight", unfollowed := true, recurses := true, apart := false }
def FnExactProposeRightSaid : Prop := fnExactProposeRightRow.holds Try.pinned (OpenSpec.ofChange fnExactProposeRightSpec)

/-- ITS FALSE NEIGHBOUR: 'it returns false'. Refute it at one input. -/
def fnExactProposeRightWrong : ChangeSpec := { name := "fnExactProposeRight", fn := fun _ => fun
  | [d1, d2, d3, d4] => { results := [.lit (.bool false)], args := [d1, d2, d3, d4] }
  | _ => none }
def FnExactProposeRightWrongFalsely : Prop := fnExactProposeRightRow.holds Try.pinned (OpenSpec.ofChange fnExactProposeRightWrong)

/-- 'laws.FnExactCertsOf': WHATEVER THE INPUT: true; the input reads as it did. -/
def fnExactCertsOfSpec : ChangeSpec := { name := "fnExactCertsOf", fn := fun _ => fun
  | [d1, d2, d3, d4] => { results := [.lit (.bool true)], args := [d1, d2, d3, d4] }
  | _ => none }
def fnExactCertsOfRow : OpenClaim := { program := "ytflojfkalnojbaa", sum := "00bdd9cd867db79aae2da0c8d138efbf9c67fe47782655e09ccab9bf3504465b", func := "loop.example/g00369/laws.FnExactCertsOf", spec := "fnExactCertsOf", unfollowed := true, recurses := true, apart := false }
def FnExactCertsOfSaid : Prop := fnExactCertsOfRow.holds Try.pinned (OpenSpec.ofChange fnExactCertsOfSpec)

/-- ITS FALSE NEIGHBOUR: 'it returns false'. Refute it at one input. -/
def fnExactCertsOfWrong : ChangeSpec := { name := "fnExactCertsOf", fn := fun _ => fun
  | [d1, d2, d3, d4] => { results := [.lit (.bool false)], args := [d1, d2, d3, d4] }
  | _ => none }
def FnExactCertsOfWrongFalsely : Prop := fnExactCertsOfRow.holds Try.pinned (OpenSpec.ofChange fnExactCertsOfWrong)

/- THE SECOND FORM. 'bulk': how many values and letters a reading holds, each counted each time it is reached (what is shared counts as often as it is met; a slice's spare places count too). A statement '..UptoSaid' is the law's where the arguments, and the package variables that the reading takes, are together of bulk at most 1048576: NARROWER than '..Said'. Prove '..Said' where nothing that the law and all that it calls make is longer than what came in: it says more and counts as full. Else prove '..UptoSaid'. A law counts once. -/
mutual
def uptoBulk {H : Type} : DataW H → Nat
  | .lit (.string bytes) => bytes.length + 1
  | .lit _ => 1
  | .nil => 1
  | .ptr d => uptoBulk d + 1
  | .slice elems spare => uptoBulkAll elems + uptoBulkAll spare + 1
  | .agg parts => uptoBulkAll parts + 1
  | .iface _ d => uptoBulk d + 1
  | .map entries => uptoBulkEntries entries + 1
  | .held _ => 1
def uptoBulkAll {H : Type} : List (DataW H) → Nat
  | [] => 0
  | d :: r => uptoBulk d + uptoBulkAll r
def uptoBulkEntries {H : Type} : List (Lit × DataW H) → Nat
  | [] => 0
  | x :: r => uptoBulkEntry x + uptoBulkEntries r
def uptoBulkEntry {H : Type} : Lit × DataW H → Nat
  | (.string bytes, d) => bytes.length + uptoBulk d + 1
  | (_, d) => uptoBulk d + 1
 end
def uptoSmall : (H : Type) → List (DataW H) → Bool := fun _ ds => decide (uptoBulkAll ds ≤ 1048576)
def OpenSpec.upto (s : _root_.Go.ChangeSpec) : _root_.Go.OpenSpec := { _root_.Go.OpenSpec.ofChange s with cond := some uptoSmall }

/-- 'laws.FnQuorums', WHERE WHAT IT READS IS OF BULK AT MOST 1048576: true; the input reads as it did. -/
def fnQuorumsUptoRow : OpenClaim := { program := "ytflojfkalnojbaa", sum := "00bdd9cd867db79aae2da0c8d138efbf9c67fe47782655e09ccab9bf3504465b", func := "loop.example/g00369/laws.FnQuorums", spec := "fnQuorums", unfollowed := true, recurses := true, apart := false, narrowed := true }
def FnQuorumsUptoSaid : Prop := fnQuorumsUptoRow.holds Try.pinned (OpenSpec.upto fnQuorumsSpec)

/-- 'laws.FnPicks', WHERE WHAT IT READS IS OF BULK AT MOST 1048576: true; the input reads as it did. -/
def fnPicksUptoRow : OpenClaim := { program := "ytflojfkalnojbaa", sum := "00bdd9cd867db79aae2da0c8d138efbf9c67fe47782655e09ccab9bf3504465b", func := "loop.example/g00369/laws.FnPicks", spec := "fnPicks", unfollowed := true, recurses := true, apart := false, narrowed := true }
def FnPicksUptoSaid : Prop := fnPicksUptoRow.holds Try.pinned (OpenSpec.upto fnPicksSpec)

/-- 'laws.FnViews', WHERE WHAT IT READS IS OF BULK AT MOST 1048576: true; the input reads as it did. -/
def fnViewsUptoRow : OpenClaim := { program := "ytflojfkalnojbaa", sum := "00bdd9cd867db79aae2da0c8d138efbf9c67fe47782655e09ccab9bf3504465b", func := "loop.example/g00369/laws.FnViews", spec := "fnViews", unfollowed := true, recurses := true, apart := false, narrowed := true }
def FnViewsUptoSaid : Prop := fnViewsUptoRow.holds Try.pinned (OpenSpec.upto fnViewsSpec)

/-- 'laws.FnExactPutMsg', WHERE WHAT IT READS IS OF BULK AT MOST 1048576: true; the input reads as it did. -/
def fnExactPutMsgUptoRow : OpenClaim := { program := "ytflojfkalnojbaa", sum := "00bdd9cd867db79aae2da0c8d138efbf9c67fe47782655e09ccab9bf3504465b", func := "loop.example/g00369/laws.FnExactPutMsg", spec := "fnExactPutMsg", apart := false, narrowed := true }
def FnExactPutMsgUptoSaid : Prop := fnExactPutMsgUptoRow.holds Try.pinned (OpenSpec.upto fnExactPutMsgSpec)

/-- 'laws.FnExactCertRight', WHERE WHAT IT READS IS OF BULK AT MOST 1048576: true; the input reads as it did. -/
def fnExactCertRightUptoRow : OpenClaim := { program := "ytflojfkalnojbaa", sum := "00bdd9cd867db79aae2da0c8d138efbf9c67fe47782655e09ccab9bf3504465b", func := "loop.example/g00369/laws.FnExactCertRight", spec := "fnExactCertRight", apart := false, narrowed := true }
def FnExactCertRightUptoSaid : Prop := fnExactCertRightUptoRow.holds Try.pinned (OpenSpec.upto fnExactCertRightSpec)

/-- 'laws.FnExactChangeRight', WHERE WHAT IT READS IS OF BULK AT MOST 1048576: true; the input reads as it did. -/
def fnExactChangeRightUptoRow : OpenClaim := { program := "ytflojfkalnojbaa", sum := "00bdd9cd867db79aae2da0c8d138efbf9c67fe47782655e09ccab9bf3504465b", func := "loop.example/g00369/laws.FnExactChangeRight", spec := "fnExactChangeRight", apart := false, narrowed := true }
def FnExactChangeRightUptoSaid : Prop := fnExactChangeRightUptoRow.holds Try.pinned (OpenSpec.upto fnExactChangeRightSpec)

/-- 'laws.FnExactChangesFor', WHERE WHAT IT READS IS OF BULK AT MOST 1048576: true; the input reads as it did. -/
def fnExactChangesForUptoRow : OpenClaim := { program := "ytflojfkalnojbaa", sum := "00bdd9cd867db79aae2da0c8d138efbf9c67fe47782655e09ccab9bf3504465b", func := "loop.example/g00369/laws.FnExactChangesFor", spec := "fnExactChangesFor", apart := false, narrowed := true }
def FnExactChangesForUptoSaid : Prop := fnExactChangesForUptoRow.holds Try.pinned (OpenSpec.upto fnExactChangesForSpec)

/-- 'laws.FnExactNewRight', WHERE WHAT IT READS IS OF BULK AT MOST 1048576: true; the input reads as it did. -/
def fnExactNewRightUptoRow : OpenClaim := { program := "ytflojfkalnojbaa", sum := "00bdd9cd867db79aae2da0c8d138efbf9c67fe47782655e09ccab9bf3504465b", func := "loop.example/g00369/laws.FnExactNewRight", spec := "fnExactNewRight", apart := false, narrowed := true }
def FnExactNewRightUptoSaid : Prop := fnExactNewRightUptoRow.holds Try.pinned (OpenSpec.upto fnExactNewRightSpec)

/-- 'laws.FnExactPickOf', WHERE WHAT IT READS IS OF BULK AT MOST 1048576: true; the input reads as it did. -/
def fnExactPickOfUptoRow : OpenClaim := { program := "ytflojfkalnojbaa", sum := "00bdd9cd867db79aae2da0c8d138efbf9c67fe47782655e09ccab9bf3504465b", func := "loop.example/g00369/laws.FnExactPickOf", spec := "fnExactPickOf", unfollowed := true, recurses := true, apart := false, narrowed := true }
def FnExactPickOfUptoSaid : Prop := fnExactPickOfUptoRow.holds Try.pinned (OpenSpec.upto fnExactPickOfSpec)

/-- 'laws.FnExactProposeRight', WHERE WHAT IT READS IS OF BULK AT MOST 1048576: true; the input reads as it did. -/
def fnExactProposeRightUptoRow : OpenClaim := { program := "ytflojfkalnojbaa", sum := "00bdd9cd867db79aae2da0c8d138efbf9c67fe47782655e09ccab9bf3504465b", func := "loop.example/g00369/laws.FnExactProposeRight", spec := "fnExactProposeRight", unfollowed := true, recurses := true, apart := false, narrowed := true }
def FnExactProposeRightUptoSaid : Prop := fnExactProposeRightUptoRow.holds Try.pinned (OpenSpec.upto fnExactProposeRightSpec)

/-- 'laws.FnExactCertsOf', WHERE WHAT IT READS IS OF BULK AT MOST 1048576: true; the input reads as it did. -/
def fnExactCertsOfUptoRow : OpenClaim := { program := "ytflojfkalnojbaa", sum := "00bdd9cd867db79aae2da0c8d138efbf9c67fe47782655e09ccab9bf3504465b", func := "loop.example/g00369/laws.FnExactCertsOf", spec := "fnExactCertsOf", unfollowed := true, recurses := true, apart := false, narrowed := true }
def FnExactCertsOfUptoSaid : Prop := fnExactCertsOfUptoRow.holds Try.pinned (OpenSpec.upto fnExactCertsOfSpec)

end Rows
end Go.Proofs.Ytflojfkalnojbaa
