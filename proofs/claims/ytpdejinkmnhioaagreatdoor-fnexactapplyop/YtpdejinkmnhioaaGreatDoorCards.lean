/-
  DERIVED. GIVEN WITH THE SEED: THE CARDS: each row of YtpdejinkmnhioaaGreatDoorRows.lean that lists a variable, with what it lists TIED to the program's text (the seventh form; the later family's looks); each row that meets fmt, with fmt's text TOLD by the authors' own Lean function (tested against real Go, not proved from fmt's source: count such statements apart). THE CARD IS WHAT COUNTS. Prove the row's statement (the work); the ties are given (YtpdejinkmnhioaaGreatDoorTie.lean); close each card by the builder's one call (the guide's Derived/Test/ToyasCard.lean, 'card_holds'). Laid BY PROGRAM, IN A SANDBOX (cutbox-door.mjs). By AI agents, Wed Nov 11 2026. No macro, syntax, notation, axiom, sorry.
-/
import Derived.Test.YtpdejinkmnhioaaGreatDoorRows
import GoSem.ClaimSeven
namespace Go.Proofs.YtpdejinkmnhioaaGreatDoor
namespace Rows

/-- THE TIED CARD OF 'laws.FnExactApplyOp'. -/
def fnExactApplyOpCard : Claim7 := { stood := { row := fnExactApplyOpRow, standIns := [], harness := (true, "53ae6148e5b9bd2a1cce4dcfc5a212174e1343e66b2482fa42fff1fc320e2f26"), looks := true }, kinds := [], alts := [], laidByText := true, laidKinds := [.data, .data, .data, .handle], laidTests := true, laidLooks := .later }
def FnExactApplyOpCardSaid : Prop := Claim7.holds Tryz.pinned (.plain (OpenSpec.ofChange fnExactApplyOpSpec)) fnExactApplyOpCard

/-- THE TIED CARD OF 'laws.FnExactApplyRequest'. -/
def fnExactApplyRequestCard : Claim7 := { stood := { row := fnExactApplyRequestRow, standIns := [], harness := (true, "53ae6148e5b9bd2a1cce4dcfc5a212174e1343e66b2482fa42fff1fc320e2f26"), looks := true }, kinds := [], alts := [], laidByText := true, laidKinds := [.data, .data, .data, .handle], laidTests := true, laidLooks := .later }
def FnExactApplyRequestCardSaid : Prop := Claim7.holds Tryz.pinned (.plain (OpenSpec.ofChange fnExactApplyRequestSpec)) fnExactApplyRequestCard

/-- THE TIED CARD OF 'laws.FnExactRunRequests'. -/
def fnExactRunRequestsCard : Claim7 := { stood := { row := fnExactRunRequestsRow, standIns := [], harness := (true, "53ae6148e5b9bd2a1cce4dcfc5a212174e1343e66b2482fa42fff1fc320e2f26"), looks := true }, kinds := [], alts := [], laidByText := true, laidKinds := [.data, .data, .data, .handle], laidTests := true, laidLooks := .later }
def FnExactRunRequestsCardSaid : Prop := Claim7.holds Tryz.pinned (.plain (OpenSpec.ofChange fnExactRunRequestsSpec)) fnExactRunRequestsCard

/-- THE TIED CARD OF 'laws.FnApplies'. -/
def fnAppliesCard : Claim7 := { stood := { row := fnAppliesRow, standIns := [], harness := (true, "53ae6148e5b9bd2a1cce4dcfc5a212174e1343e66b2482fa42fff1fc320e2f26"), looks := true }, kinds := [], alts := [], laidByText := true, laidKinds := [.data, .data, .data, .handle], laidTests := true, laidLooks := .later }
def FnAppliesCardSaid : Prop := Claim7.holds Tryz.pinned (.plain (OpenSpec.ofChange fnAppliesSpec)) fnAppliesCard

/-- THE TIED CARD OF 'laws.FnOnce'. -/
def fnOnceCard : Claim7 := { stood := { row := fnOnceRow, standIns := [], harness := (true, "53ae6148e5b9bd2a1cce4dcfc5a212174e1343e66b2482fa42fff1fc320e2f26"), looks := true }, kinds := [], alts := [], laidByText := true, laidKinds := [.data, .data, .data, .handle], laidTests := true, laidLooks := .later }
def FnOnceCardSaid : Prop := Claim7.holds Tryz.pinned (.plain (OpenSpec.ofChange fnOnceSpec)) fnOnceCard

/-- THE TIED CARD OF 'laws.FnAllOrNone'. -/
def fnAllOrNoneCard : Claim7 := { stood := { row := fnAllOrNoneRow, standIns := [], harness := (true, "53ae6148e5b9bd2a1cce4dcfc5a212174e1343e66b2482fa42fff1fc320e2f26"), looks := true }, kinds := [], alts := [], laidByText := true, laidKinds := [.data, .data, .data, .handle], laidTests := true, laidLooks := .later }
def FnAllOrNoneCardSaid : Prop := Claim7.holds Tryz.pinned (.plain (OpenSpec.ofChange fnAllOrNoneSpec)) fnAllOrNoneCard

/-- THE TIED CARD OF 'laws.FnRuns'. -/
def fnRunsCard : Claim7 := { stood := { row := fnRunsRow, standIns := [], harness := (true, "53ae6148e5b9bd2a1cce4dcfc5a212174e1343e66b2482fa42fff1fc320e2f26"), looks := true }, kinds := [], alts := [], laidByText := true, laidKinds := [.data, .data, .data, .handle], laidTests := true, laidLooks := .later }
def FnRunsCardSaid : Prop := Claim7.holds Tryz.pinned (.plain (OpenSpec.ofChange fnRunsSpec)) fnRunsCard

/-- THE TIED CARD OF 'laws.FnTold'. -/
def fnToldCard : Claim7 := { stood := { row := fnToldRow, standIns := [], harness := (true, "53ae6148e5b9bd2a1cce4dcfc5a212174e1343e66b2482fa42fff1fc320e2f26"), looks := true }, kinds := [], alts := [], laidByText := true, laidKinds := [.data, .data, .data, .handle], laidTests := true, laidLooks := .later }
def FnToldCardSaid : Prop := Claim7.holds Tryz.pinned (.plain (OpenSpec.ofChange fnToldSpec)) fnToldCard

/-- THE SECOND FORM's CARD OF 'laws.FnExactApplyOp'. -/
def fnExactApplyOpUptoCard : Claim7 := { stood := { row := fnExactApplyOpUptoRow, standIns := [], harness := (true, "53ae6148e5b9bd2a1cce4dcfc5a212174e1343e66b2482fa42fff1fc320e2f26"), looks := true }, kinds := [], alts := [], laidByText := true, laidKinds := [.data, .data, .data, .handle], laidTests := true, laidLooks := .later }
def FnExactApplyOpUptoCardSaid : Prop := Claim7.holds Tryz.pinned (.plain (OpenSpec.upto fnExactApplyOpSpec)) fnExactApplyOpUptoCard

/-- THE SECOND FORM's CARD OF 'laws.FnExactApplyRequest'. -/
def fnExactApplyRequestUptoCard : Claim7 := { stood := { row := fnExactApplyRequestUptoRow, standIns := [], harness := (true, "53ae6148e5b9bd2a1cce4dcfc5a212174e1343e66b2482fa42fff1fc320e2f26"), looks := true }, kinds := [], alts := [], laidByText := true, laidKinds := [.data, .data, .data, .handle], laidTests := true, laidLooks := .later }
def FnExactApplyRequestUptoCardSaid : Prop := Claim7.holds Tryz.pinned (.plain (OpenSpec.upto fnExactApplyRequestSpec)) fnExactApplyRequestUptoCard

/-- THE SECOND FORM's CARD OF 'laws.FnExactRunRequests'. -/
def fnExactRunRequestsUptoCard : Claim7 := { stood := { row := fnExactRunRequestsUptoRow, standIns := [], harness := (true, "53ae6148e5b9bd2a1cce4dcfc5a212174e1343e66b2482fa42fff1fc320e2f26"), looks := true }, kinds := [], alts := [], laidByText := true, laidKinds := [.data, .data, .data, .handle], laidTests := true, laidLooks := .later }
def FnExactRunRequestsUptoCardSaid : Prop := Claim7.holds Tryz.pinned (.plain (OpenSpec.upto fnExactRunRequestsSpec)) fnExactRunRequestsUptoCard

/-- THE SECOND FORM's CARD OF 'laws.FnApplies'. -/
def fnAppliesUptoCard : Claim7 := { stood := { row := fnAppliesUptoRow, standIns := [], harness := (true, "53ae6148e5b9bd2a1cce4dcfc5a212174e1343e66b2482fa42fff1fc320e2f26"), looks := true }, kinds := [], alts := [], laidByText := true, laidKinds := [.data, .data, .data, .handle], laidTests := true, laidLooks := .later }
def FnAppliesUptoCardSaid : Prop := Claim7.holds Tryz.pinned (.plain (OpenSpec.upto fnAppliesSpec)) fnAppliesUptoCard

/-- THE SECOND FORM's CARD OF 'laws.FnOnce'. -/
def fnOnceUptoCard : Claim7 := { stood := { row := fnOnceUptoRow, standIns := [], harness := (true, "53ae6148e5b9bd2a1cce4dcfc5a212174e1343e66b2482fa42fff1fc320e2f26"), looks := true }, kinds := [], alts := [], laidByText := true, laidKinds := [.data, .data, .data, .handle], laidTests := true, laidLooks := .later }
def FnOnceUptoCardSaid : Prop := Claim7.holds Tryz.pinned (.plain (OpenSpec.upto fnOnceSpec)) fnOnceUptoCard

/-- THE SECOND FORM's CARD OF 'laws.FnAllOrNone'. -/
def fnAllOrNoneUptoCard : Claim7 := { stood := { row := fnAllOrNoneUptoRow, standIns := [], harness := (true, "53ae6148e5b9bd2a1cce4dcfc5a212174e1343e66b2482fa42fff1fc320e2f26"), looks := true }, kinds := [], alts := [], laidByText := true, laidKinds := [.data, .data, .data, .handle], laidTests := true, laidLooks := .later }
def FnAllOrNoneUptoCardSaid : Prop := Claim7.holds Tryz.pinned (.plain (OpenSpec.upto fnAllOrNoneSpec)) fnAllOrNoneUptoCard

/-- THE SECOND FORM's CARD OF 'laws.FnRuns'. -/
def fnRunsUptoCard : Claim7 := { stood := { row := fnRunsUptoRow, standIns := [], harness := (true, "53ae6148e5b9bd2a1cce4dcfc5a212174e1343e66b2482fa42fff1fc320e2f26"), looks := true }, kinds := [], alts := [], laidByText := true, laidKinds := [.data, .data, .data, .handle], laidTests := true, laidLooks := .later }
def FnRunsUptoCardSaid : Prop := Claim7.holds Tryz.pinned (.plain (OpenSpec.upto fnRunsSpec)) fnRunsUptoCard

/-- THE SECOND FORM's CARD OF 'laws.FnTold'. -/
def fnToldUptoCard : Claim7 := { stood := { row := fnToldUptoRow, standIns := [], harness := (true, "53ae6148e5b9bd2a1cce4dcfc5a212174e1343e66b2482fa42fff1fc320e2f26"), looks := true }, kinds := [], alts := [], laidByText := true, laidKinds := [.data, .data, .data, .handle], laidTests := true, laidLooks := .later }
def FnToldUptoCardSaid : Prop := Claim7.holds Tryz.pinned (.plain (OpenSpec.upto fnToldSpec)) fnToldUptoCard
end Rows
end Go.Proofs.YtpdejinkmnhioaaGreatDoor
