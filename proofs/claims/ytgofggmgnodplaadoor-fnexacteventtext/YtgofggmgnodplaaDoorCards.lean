/-
  DERIVED. GIVEN WITH THE SEED: THE CARDS: each row of YtgofggmgnodplaaDoorRows.lean that lists a variable, with what it lists TIED to the program's text (the seventh form; the later family's looks); each row that meets fmt, with fmt's text TOLD by the authors' own Lean function (tested against real Go, not proved from fmt's source: count such statements apart). THE CARD IS WHAT COUNTS. Prove the row's statement (the work); the ties are given (YtgofggmgnodplaaDoorTie.lean); close each card by the builder's one call (the guide's Derived/Test/ToyasCard.lean, 'card_holds'). Laid BY PROGRAM, IN A SANDBOX (cutbox-door.mjs). By AI agents, Wed Nov 11 2026. No macro, syntax, notation, axiom, sorry.
-/
import Derived.Test.YtgofggmgnodplaaDoorRows
import GoSem.ClaimSeven
namespace Go.Proofs.YtgofggmgnodplaaDoor
namespace Rows

/-- THE TIED CARD OF 'laws.FnExactWatchesFault'. -/
def fnExactWatchesFaultCard : Claim7 := { stood := { row := fnExactWatchesFaultRow, standIns := [], harness := (true, "c8d37c4ad16f6195285079789f0dfed90720f1d939ea4e927b316044c0b947c6"), looks := true }, kinds := [], alts := [], laidByText := true, laidKinds := [.handle], laidTests := true, laidLooks := .later }
def FnExactWatchesFaultCardSaid : Prop := Claim7.holds Tryd.pinned (.plain (OpenSpec.ofChange fnExactWatchesFaultSpec)) fnExactWatchesFaultCard

/-- THE TIED CARD OF 'laws.FnExactChangeOf'. -/
def fnExactChangeOfCard : Claim7 := { stood := { row := fnExactChangeOfRow, standIns := [], harness := (true, "c8d37c4ad16f6195285079789f0dfed90720f1d939ea4e927b316044c0b947c6"), looks := true }, kinds := [], alts := [], laidByText := true, laidKinds := [.handle], laidTests := true, laidLooks := .later }
def FnExactChangeOfCardSaid : Prop := Claim7.holds Tryd.pinned (.plain (OpenSpec.ofChange fnExactChangeOfSpec)) fnExactChangeOfCard

/-- THE TIED CARD OF 'laws.FnExactEventText'. -/
def fnExactEventTextCard : Claim7 := { stood := { row := fnExactEventTextRow, standIns := [], harness := (true, "c8d37c4ad16f6195285079789f0dfed90720f1d939ea4e927b316044c0b947c6"), looks := true }, kinds := [], alts := [], laidByText := true, laidKinds := [.data, .data, .data, .handle], laidTests := true, laidLooks := .later }
def FnExactEventTextCardSaid : Prop := Claim7.holds Tryd.pinned (.plain (OpenSpec.ofChange fnExactEventTextSpec)) fnExactEventTextCard

/-- THE SECOND FORM's CARD OF 'laws.FnExactWatchesFault'. -/
def fnExactWatchesFaultUptoCard : Claim7 := { stood := { row := fnExactWatchesFaultUptoRow, standIns := [], harness := (true, "c8d37c4ad16f6195285079789f0dfed90720f1d939ea4e927b316044c0b947c6"), looks := true }, kinds := [], alts := [], laidByText := true, laidKinds := [.handle], laidTests := true, laidLooks := .later }
def FnExactWatchesFaultUptoCardSaid : Prop := Claim7.holds Tryd.pinned (.plain (OpenSpec.upto fnExactWatchesFaultSpec)) fnExactWatchesFaultUptoCard

/-- THE SECOND FORM's CARD OF 'laws.FnExactChangeOf'. -/
def fnExactChangeOfUptoCard : Claim7 := { stood := { row := fnExactChangeOfUptoRow, standIns := [], harness := (true, "c8d37c4ad16f6195285079789f0dfed90720f1d939ea4e927b316044c0b947c6"), looks := true }, kinds := [], alts := [], laidByText := true, laidKinds := [.handle], laidTests := true, laidLooks := .later }
def FnExactChangeOfUptoCardSaid : Prop := Claim7.holds Tryd.pinned (.plain (OpenSpec.upto fnExactChangeOfSpec)) fnExactChangeOfUptoCard

/-- THE SECOND FORM's CARD OF 'laws.FnExactEventText'. -/
def fnExactEventTextUptoCard : Claim7 := { stood := { row := fnExactEventTextUptoRow, standIns := [], harness := (true, "c8d37c4ad16f6195285079789f0dfed90720f1d939ea4e927b316044c0b947c6"), looks := true }, kinds := [], alts := [], laidByText := true, laidKinds := [.data, .data, .data, .handle], laidTests := true, laidLooks := .later }
def FnExactEventTextUptoCardSaid : Prop := Claim7.holds Tryd.pinned (.plain (OpenSpec.upto fnExactEventTextSpec)) fnExactEventTextUptoCard
end Rows
end Go.Proofs.YtgofggmgnodplaaDoor
