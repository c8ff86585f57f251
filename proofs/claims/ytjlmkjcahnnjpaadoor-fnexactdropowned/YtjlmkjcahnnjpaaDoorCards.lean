/-
  DERIVED. GIVEN WITH THE SEED: THE CARDS: each row of YtjlmkjcahnnjpaaDoorRows.lean that lists a variable, with what it lists TIED to the program's text (the seventh form; the later family's looks); each row that meets fmt, with fmt's text TOLD by the authors' own Lean function (tested against real Go, not proved from fmt's source: count such statements apart). THE CARD IS WHAT COUNTS. Prove the row's statement (the work); the ties are given (YtjlmkjcahnnjpaaDoorTie.lean); close each card by the builder's one call (the guide's Derived/Test/ToyasCard.lean, 'card_holds'). Laid BY PROGRAM, IN A SANDBOX (cutbox-door.mjs). By AI agents, Wed Nov 11 2026. No macro, syntax, notation, axiom, sorry.
-/
import Derived.Test.YtjlmkjcahnnjpaaDoorRows
import GoSem.ClaimSeven
namespace Go.Proofs.YtjlmkjcahnnjpaaDoor
namespace Rows

/-- THE TIED CARD OF 'laws.FnExactDropOwned'. -/
def fnExactDropOwnedCard : Claim7 := { stood := { row := fnExactDropOwnedRow, standIns := [], harness := (true, "a8272bc7e696b814981837b4b3737f7fc5036d9d66c25e1b8711304c87d68f71"), looks := true }, kinds := [], alts := [], laidByText := true, laidKinds := [.handle], laidTests := true, laidLooks := .later }
def FnExactDropOwnedCardSaid : Prop := Claim7.holds Tryd.pinned (.plain (OpenSpec.ofChange fnExactDropOwnedSpec)) fnExactDropOwnedCard

/-- THE TIED CARD OF 'laws.FnSets'. -/
def fnSetsCard : Claim7 := { stood := { row := fnSetsRow, standIns := [], harness := (true, "a8272bc7e696b814981837b4b3737f7fc5036d9d66c25e1b8711304c87d68f71"), looks := true }, kinds := [], alts := [], laidByText := true, laidKinds := [.handle], laidTests := true, laidLooks := .later }
def FnSetsCardSaid : Prop := Claim7.holds Tryd.pinned (.plain (OpenSpec.ofChange fnSetsSpec)) fnSetsCard

/-- THE SECOND FORM's CARD OF 'laws.FnExactDropOwned'. -/
def fnExactDropOwnedUptoCard : Claim7 := { stood := { row := fnExactDropOwnedUptoRow, standIns := [], harness := (true, "a8272bc7e696b814981837b4b3737f7fc5036d9d66c25e1b8711304c87d68f71"), looks := true }, kinds := [], alts := [], laidByText := true, laidKinds := [.handle], laidTests := true, laidLooks := .later }
def FnExactDropOwnedUptoCardSaid : Prop := Claim7.holds Tryd.pinned (.plain (OpenSpec.upto fnExactDropOwnedSpec)) fnExactDropOwnedUptoCard

/-- THE SECOND FORM's CARD OF 'laws.FnSets'. -/
def fnSetsUptoCard : Claim7 := { stood := { row := fnSetsUptoRow, standIns := [], harness := (true, "a8272bc7e696b814981837b4b3737f7fc5036d9d66c25e1b8711304c87d68f71"), looks := true }, kinds := [], alts := [], laidByText := true, laidKinds := [.handle], laidTests := true, laidLooks := .later }
def FnSetsUptoCardSaid : Prop := Claim7.holds Tryd.pinned (.plain (OpenSpec.upto fnSetsSpec)) fnSetsUptoCard
end Rows
end Go.Proofs.YtjlmkjcahnnjpaaDoor
