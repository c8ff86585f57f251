/-
  DERIVED. GIVEN WITH THE SEED: THE CARDS: each row of YtdjnkchaapcjpaaGreatDoorRows.lean that lists a variable, with what it lists TIED to the program's text (the seventh form; the later family's looks); each row that meets fmt, with fmt's text TOLD by the authors' own Lean function (tested against real Go, not proved from fmt's source: count such statements apart). THE CARD IS WHAT COUNTS. Prove the row's statement (the work); the ties are given (YtdjnkchaapcjpaaGreatDoorTie.lean); close each card by the builder's one call (the guide's Derived/Test/ToyasCard.lean, 'card_holds'). Laid BY PROGRAM, IN A SANDBOX (cutbox-door.mjs). By AI agents, Wed Nov 11 2026. No macro, syntax, notation, axiom, sorry.
-/
import Derived.Test.YtdjnkchaapcjpaaGreatDoorRows
import GoSem.ClaimSeven
namespace Go.Proofs.YtdjnkchaapcjpaaGreatDoor
namespace Rows

/-- THE TIED CARD OF 'laws.FnExactStateFault'. -/
def fnExactStateFaultCard : Claim7 := { stood := { row := fnExactStateFaultRow, standIns := [], harness := (true, "3f3066ed0baee283256b00c51726a0828a187927eca9103b6c6a0fb7c911924b"), looks := true }, kinds := [], alts := [], laidByText := true, laidKinds := [.handle], laidTests := true, laidLooks := .later }
def FnExactStateFaultCardSaid : Prop := Claim7.holds Tryz.pinned (.plain (OpenSpec.ofChange fnExactStateFaultSpec)) fnExactStateFaultCard

/-- THE TIED CARD OF 'laws.FnExactMarkOf'. -/
def fnExactMarkOfCard : Claim7 := { stood := { row := fnExactMarkOfRow, standIns := [], harness := (true, "3f3066ed0baee283256b00c51726a0828a187927eca9103b6c6a0fb7c911924b"), looks := true }, kinds := [], alts := [], laidByText := true, laidKinds := [.handle], laidTests := true, laidLooks := .later }
def FnExactMarkOfCardSaid : Prop := Claim7.holds Tryz.pinned (.plain (OpenSpec.ofChange fnExactMarkOfSpec)) fnExactMarkOfCard

/-- THE TIED CARD OF 'laws.FnExactRootIn'. -/
def fnExactRootInCard : Claim7 := { stood := { row := fnExactRootInRow, standIns := [], harness := (true, "3f3066ed0baee283256b00c51726a0828a187927eca9103b6c6a0fb7c911924b"), looks := true }, kinds := [], alts := [], laidByText := true, laidKinds := [.handle], laidTests := true, laidLooks := .later }
def FnExactRootInCardSaid : Prop := Claim7.holds Tryz.pinned (.plain (OpenSpec.ofChange fnExactRootInSpec)) fnExactRootInCard

/-- THE TIED CARD OF 'laws.FnExactParseOp'. -/
def fnExactParseOpCard : Claim7 := { stood := { row := fnExactParseOpRow, standIns := [], harness := (true, "3f3066ed0baee283256b00c51726a0828a187927eca9103b6c6a0fb7c911924b"), looks := true }, kinds := [], alts := [], laidByText := true, laidKinds := [.data, .data, .data, .data, .handle, .sentinel, .sentinel, .pinned], laidTests := true, laidLooks := .later }
def FnExactParseOpCardSaid : Prop := Claim7.holds Tryz.pinned (.plain (OpenSpec.ofChange fnExactParseOpSpec)) fnExactParseOpCard

/-- THE TIED CARD OF 'laws.FnOps'. -/
def fnOpsCard : Claim7 := { stood := { row := fnOpsRow, standIns := [], harness := (true, "3f3066ed0baee283256b00c51726a0828a187927eca9103b6c6a0fb7c911924b"), looks := true }, kinds := [], alts := [], laidByText := true, laidKinds := [.data, .data, .data, .data, .handle, .sentinel, .sentinel, .pinned], laidTests := true, laidLooks := .later }
def FnOpsCardSaid : Prop := Claim7.holds Tryz.pinned (.plain (OpenSpec.ofChange fnOpsSpec)) fnOpsCard

/-- THE TIED CARD OF 'laws.FnExactCreateZ'. -/
def fnExactCreateZCard : Claim7 := { stood := { row := fnExactCreateZRow, standIns := [], harness := (true, "3f3066ed0baee283256b00c51726a0828a187927eca9103b6c6a0fb7c911924b"), looks := true }, kinds := [], alts := [], laidByText := true, laidKinds := [.data, .data, .data, .handle], laidTests := true, laidLooks := .later }
def FnExactCreateZCardSaid : Prop := Claim7.holds Tryz.pinned (.plain (OpenSpec.ofChange fnExactCreateZSpec)) fnExactCreateZCard

/-- THE SECOND FORM's CARD OF 'laws.FnExactStateFault'. -/
def fnExactStateFaultUptoCard : Claim7 := { stood := { row := fnExactStateFaultUptoRow, standIns := [], harness := (true, "3f3066ed0baee283256b00c51726a0828a187927eca9103b6c6a0fb7c911924b"), looks := true }, kinds := [], alts := [], laidByText := true, laidKinds := [.handle], laidTests := true, laidLooks := .later }
def FnExactStateFaultUptoCardSaid : Prop := Claim7.holds Tryz.pinned (.plain (OpenSpec.upto fnExactStateFaultSpec)) fnExactStateFaultUptoCard

/-- THE SECOND FORM's CARD OF 'laws.FnExactMarkOf'. -/
def fnExactMarkOfUptoCard : Claim7 := { stood := { row := fnExactMarkOfUptoRow, standIns := [], harness := (true, "3f3066ed0baee283256b00c51726a0828a187927eca9103b6c6a0fb7c911924b"), looks := true }, kinds := [], alts := [], laidByText := true, laidKinds := [.handle], laidTests := true, laidLooks := .later }
def FnExactMarkOfUptoCardSaid : Prop := Claim7.holds Tryz.pinned (.plain (OpenSpec.upto fnExactMarkOfSpec)) fnExactMarkOfUptoCard

/-- THE SECOND FORM's CARD OF 'laws.FnExactRootIn'. -/
def fnExactRootInUptoCard : Claim7 := { stood := { row := fnExactRootInUptoRow, standIns := [], harness := (true, "3f3066ed0baee283256b00c51726a0828a187927eca9103b6c6a0fb7c911924b"), looks := true }, kinds := [], alts := [], laidByText := true, laidKinds := [.handle], laidTests := true, laidLooks := .later }
def FnExactRootInUptoCardSaid : Prop := Claim7.holds Tryz.pinned (.plain (OpenSpec.upto fnExactRootInSpec)) fnExactRootInUptoCard

/-- THE SECOND FORM's CARD OF 'laws.FnExactParseOp'. -/
def fnExactParseOpUptoCard : Claim7 := { stood := { row := fnExactParseOpUptoRow, standIns := [], harness := (true, "3f3066ed0baee283256b00c51726a0828a187927eca9103b6c6a0fb7c911924b"), looks := true }, kinds := [], alts := [], laidByText := true, laidKinds := [.data, .data, .data, .data, .handle, .sentinel, .sentinel, .pinned], laidTests := true, laidLooks := .later }
def FnExactParseOpUptoCardSaid : Prop := Claim7.holds Tryz.pinned (.plain (OpenSpec.upto fnExactParseOpSpec)) fnExactParseOpUptoCard

/-- THE SECOND FORM's CARD OF 'laws.FnOps'. -/
def fnOpsUptoCard : Claim7 := { stood := { row := fnOpsUptoRow, standIns := [], harness := (true, "3f3066ed0baee283256b00c51726a0828a187927eca9103b6c6a0fb7c911924b"), looks := true }, kinds := [], alts := [], laidByText := true, laidKinds := [.data, .data, .data, .data, .handle, .sentinel, .sentinel, .pinned], laidTests := true, laidLooks := .later }
def FnOpsUptoCardSaid : Prop := Claim7.holds Tryz.pinned (.plain (OpenSpec.upto fnOpsSpec)) fnOpsUptoCard

/-- THE SECOND FORM's CARD OF 'laws.FnExactCreateZ'. -/
def fnExactCreateZUptoCard : Claim7 := { stood := { row := fnExactCreateZUptoRow, standIns := [], harness := (true, "3f3066ed0baee283256b00c51726a0828a187927eca9103b6c6a0fb7c911924b"), looks := true }, kinds := [], alts := [], laidByText := true, laidKinds := [.data, .data, .data, .handle], laidTests := true, laidLooks := .later }
def FnExactCreateZUptoCardSaid : Prop := Claim7.holds Tryz.pinned (.plain (OpenSpec.upto fnExactCreateZSpec)) fnExactCreateZUptoCard
end Rows
end Go.Proofs.YtdjnkchaapcjpaaGreatDoor
