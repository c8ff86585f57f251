/-
  DERIVED. GIVEN WITH THE SEED: THE CARDS: each row of YtgfoliafpjhjcaaGreatDoorRows.lean that lists a variable, with what it lists TIED to the program's text (the seventh form; the later family's looks); each row that meets fmt, with fmt's text TOLD by the authors' own Lean function (tested against real Go, not proved from fmt's source: count such statements apart). THE CARD IS WHAT COUNTS. Prove the row's statement (the work); the ties are given (YtgfoliafpjhjcaaGreatDoorTie.lean); close each card by the builder's one call (the guide's Derived/Test/ToyasCard.lean, 'card_holds'). Laid BY PROGRAM, IN A SANDBOX (cutbox-door.mjs). By AI agents, Wed Nov 11 2026. No macro, syntax, notation, axiom, sorry.
-/
import Derived.Test.YtgfoliafpjhjcaaGreatDoorRows
import GoSem.ClaimSeven
namespace Go.Proofs.YtgfoliafpjhjcaaGreatDoor
namespace Rows

/-- THE TIED CARD OF 'laws.FnCreates'. -/
def fnCreatesCard : Claim7 := { stood := { row := fnCreatesRow, standIns := [], harness := (true, "b08f3ebaa7f44bf298a487252a84a4bc095b4d86aecf675bf854637484c15406"), looks := true }, kinds := [], alts := [], laidByText := true, laidKinds := [.data, .data, .data, .handle], laidTests := true, laidLooks := .later }
def FnCreatesCardSaid : Prop := Claim7.holds Tryz.pinned (.plain (OpenSpec.ofChange fnCreatesSpec)) fnCreatesCard

/-- THE TIED CARD OF 'laws.FnNumbers'. -/
def fnNumbersCard : Claim7 := { stood := { row := fnNumbersRow, standIns := [], harness := (true, "b08f3ebaa7f44bf298a487252a84a4bc095b4d86aecf675bf854637484c15406"), looks := true }, kinds := [], alts := [], laidByText := true, laidKinds := [.data, .data, .data, .handle], laidTests := true, laidLooks := .later }
def FnNumbersCardSaid : Prop := Claim7.holds Tryz.pinned (.plain (OpenSpec.ofChange fnNumbersSpec)) fnNumbersCard

/-- THE TIED CARD OF 'laws.FnDeletes'. -/
def fnDeletesCard : Claim7 := { stood := { row := fnDeletesRow, standIns := [], harness := (true, "b08f3ebaa7f44bf298a487252a84a4bc095b4d86aecf675bf854637484c15406"), looks := true }, kinds := [], alts := [], laidByText := true, laidKinds := [.data, .data, .data, .handle], laidTests := true, laidLooks := .later }
def FnDeletesCardSaid : Prop := Claim7.holds Tryz.pinned (.plain (OpenSpec.ofChange fnDeletesSpec)) fnDeletesCard

/-- THE TIED CARD OF 'laws.FnProofs'. -/
def fnProofsCard : Claim7 := { stood := { row := fnProofsRow, standIns := [], harness := (true, "b08f3ebaa7f44bf298a487252a84a4bc095b4d86aecf675bf854637484c15406"), looks := true }, kinds := [], alts := [], laidByText := true, laidKinds := [.handle], laidTests := true, laidLooks := .later }
def FnProofsCardSaid : Prop := Claim7.holds Tryz.pinned (.plain (OpenSpec.ofChange fnProofsSpec)) fnProofsCard

/-- THE SECOND FORM's CARD OF 'laws.FnCreates'. -/
def fnCreatesUptoCard : Claim7 := { stood := { row := fnCreatesUptoRow, standIns := [], harness := (true, "b08f3ebaa7f44bf298a487252a84a4bc095b4d86aecf675bf854637484c15406"), looks := true }, kinds := [], alts := [], laidByText := true, laidKinds := [.data, .data, .data, .handle], laidTests := true, laidLooks := .later }
def FnCreatesUptoCardSaid : Prop := Claim7.holds Tryz.pinned (.plain (OpenSpec.upto fnCreatesSpec)) fnCreatesUptoCard

/-- THE SECOND FORM's CARD OF 'laws.FnNumbers'. -/
def fnNumbersUptoCard : Claim7 := { stood := { row := fnNumbersUptoRow, standIns := [], harness := (true, "b08f3ebaa7f44bf298a487252a84a4bc095b4d86aecf675bf854637484c15406"), looks := true }, kinds := [], alts := [], laidByText := true, laidKinds := [.data, .data, .data, .handle], laidTests := true, laidLooks := .later }
def FnNumbersUptoCardSaid : Prop := Claim7.holds Tryz.pinned (.plain (OpenSpec.upto fnNumbersSpec)) fnNumbersUptoCard

/-- THE SECOND FORM's CARD OF 'laws.FnDeletes'. -/
def fnDeletesUptoCard : Claim7 := { stood := { row := fnDeletesUptoRow, standIns := [], harness := (true, "b08f3ebaa7f44bf298a487252a84a4bc095b4d86aecf675bf854637484c15406"), looks := true }, kinds := [], alts := [], laidByText := true, laidKinds := [.data, .data, .data, .handle], laidTests := true, laidLooks := .later }
def FnDeletesUptoCardSaid : Prop := Claim7.holds Tryz.pinned (.plain (OpenSpec.upto fnDeletesSpec)) fnDeletesUptoCard

/-- THE SECOND FORM's CARD OF 'laws.FnProofs'. -/
def fnProofsUptoCard : Claim7 := { stood := { row := fnProofsUptoRow, standIns := [], harness := (true, "b08f3ebaa7f44bf298a487252a84a4bc095b4d86aecf675bf854637484c15406"), looks := true }, kinds := [], alts := [], laidByText := true, laidKinds := [.handle], laidTests := true, laidLooks := .later }
def FnProofsUptoCardSaid : Prop := Claim7.holds Tryz.pinned (.plain (OpenSpec.upto fnProofsSpec)) fnProofsUptoCard
end Rows
end Go.Proofs.YtgfoliafpjhjcaaGreatDoor
