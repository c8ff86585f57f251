/-
  DERIVED. GIVEN WITH THE SEED: THE CARDS: each row of YtihfgaanaffinaaDoorRows.lean that lists a variable, with what it lists TIED to the program's text (the seventh form; the later family's looks); each row that meets fmt, with fmt's text TOLD by the authors' own Lean function (tested against real Go, not proved from fmt's source: count such statements apart). THE CARD IS WHAT COUNTS. Prove the row's statement (the work); the ties are given (YtihfgaanaffinaaDoorTie.lean); close each card by the builder's one call (the guide's Derived/Test/ToyasCard.lean, 'card_holds'). Laid BY PROGRAM, IN A SANDBOX (cutbox-door.mjs). By AI agents, Wed Nov 11 2026. No macro, syntax, notation, axiom, sorry.
-/
import Derived.Test.YtihfgaanaffinaaDoorRows
import GoSem.ClaimSeven
namespace Go.Proofs.YtihfgaanaffinaaDoor
namespace Rows

/-- THE TIED CARD OF 'laws.FnPaths'. -/
def fnPathsCard : Claim7 := { stood := { row := fnPathsRow, standIns := [], harness := (true, "4d3bf1dd15b3cfca34ec9fbcc87e1098506b938ea79cd431c7c486e55d6030e4"), looks := true }, kinds := [], alts := [], laidByText := true, laidKinds := [.handle], laidTests := true, laidLooks := .later }
def FnPathsCardSaid : Prop := Claim7.holds Tryd.pinned (.plain (OpenSpec.ofChange fnPathsSpec)) fnPathsCard

/-- THE TIED CARD OF 'laws.FnSets'. -/
def fnSetsCard : Claim7 := { stood := { row := fnSetsRow, standIns := [], harness := (true, "4d3bf1dd15b3cfca34ec9fbcc87e1098506b938ea79cd431c7c486e55d6030e4"), looks := true }, kinds := [], alts := [], laidByText := true, laidKinds := [.handle], laidTests := true, laidLooks := .later }
def FnSetsCardSaid : Prop := Claim7.holds Tryd.pinned (.plain (OpenSpec.ofChange fnSetsSpec)) fnSetsCard

/-- THE TIED CARD OF 'laws.FnExactPathFault'. -/
def fnExactPathFaultCard : Claim7 := { stood := { row := fnExactPathFaultRow, standIns := [], harness := (true, "4d3bf1dd15b3cfca34ec9fbcc87e1098506b938ea79cd431c7c486e55d6030e4"), looks := true }, kinds := [], alts := [], laidByText := true, laidKinds := [.handle], laidTests := true, laidLooks := .later }
def FnExactPathFaultCardSaid : Prop := Claim7.holds Tryd.pinned (.plain (OpenSpec.ofChange fnExactPathFaultSpec)) fnExactPathFaultCard

/-- THE TIED CARD OF 'laws.FnExactParentOf'. -/
def fnExactParentOfCard : Claim7 := { stood := { row := fnExactParentOfRow, standIns := [], harness := (true, "4d3bf1dd15b3cfca34ec9fbcc87e1098506b938ea79cd431c7c486e55d6030e4"), looks := true }, kinds := [], alts := [], laidByText := true, laidKinds := [.handle], laidTests := true, laidLooks := .later }
def FnExactParentOfCardSaid : Prop := Claim7.holds Tryd.pinned (.plain (OpenSpec.ofChange fnExactParentOfSpec)) fnExactParentOfCard

/-- THE TIED CARD OF 'laws.FnExactNameIn'. -/
def fnExactNameInCard : Claim7 := { stood := { row := fnExactNameInRow, standIns := [], harness := (true, "4d3bf1dd15b3cfca34ec9fbcc87e1098506b938ea79cd431c7c486e55d6030e4"), looks := true }, kinds := [], alts := [], laidByText := true, laidKinds := [.handle], laidTests := true, laidLooks := .later }
def FnExactNameInCardSaid : Prop := Claim7.holds Tryd.pinned (.plain (OpenSpec.ofChange fnExactNameInSpec)) fnExactNameInCard

/-- THE TIED CARD OF 'laws.FnExactJoinPath'. -/
def fnExactJoinPathCard : Claim7 := { stood := { row := fnExactJoinPathRow, standIns := [], harness := (true, "4d3bf1dd15b3cfca34ec9fbcc87e1098506b938ea79cd431c7c486e55d6030e4"), looks := true }, kinds := [], alts := [], laidByText := true, laidKinds := [.handle], laidTests := true, laidLooks := .later }
def FnExactJoinPathCardSaid : Prop := Claim7.holds Tryd.pinned (.plain (OpenSpec.ofChange fnExactJoinPathSpec)) fnExactJoinPathCard

/-- THE TIED CARD OF 'laws.FnExactIsUnder'. -/
def fnExactIsUnderCard : Claim7 := { stood := { row := fnExactIsUnderRow, standIns := [], harness := (true, "4d3bf1dd15b3cfca34ec9fbcc87e1098506b938ea79cd431c7c486e55d6030e4"), looks := true }, kinds := [], alts := [], laidByText := true, laidKinds := [.handle], laidTests := true, laidLooks := .later }
def FnExactIsUnderCardSaid : Prop := Claim7.holds Tryd.pinned (.plain (OpenSpec.ofChange fnExactIsUnderSpec)) fnExactIsUnderCard

/-- THE TIED CARD OF 'laws.FnExactDeepIn'. -/
def fnExactDeepInCard : Claim7 := { stood := { row := fnExactDeepInRow, standIns := [], harness := (true, "4d3bf1dd15b3cfca34ec9fbcc87e1098506b938ea79cd431c7c486e55d6030e4"), looks := true }, kinds := [], alts := [], laidByText := true, laidKinds := [.handle], laidTests := true, laidLooks := .later }
def FnExactDeepInCardSaid : Prop := Claim7.holds Tryd.pinned (.plain (OpenSpec.ofChange fnExactDeepInSpec)) fnExactDeepInCard

/-- THE TIED CARD OF 'laws.FnExactSeqName'. -/
def fnExactSeqNameCard : Claim7 := { stood := { row := fnExactSeqNameRow, standIns := [], harness := (true, "4d3bf1dd15b3cfca34ec9fbcc87e1098506b938ea79cd431c7c486e55d6030e4"), looks := true }, kinds := [], alts := [], laidByText := true, laidKinds := [.data, .data, .data], laidTests := true, laidLooks := .later }
def FnExactSeqNameCardSaid : Prop := Claim7.holds Tryd.pinned (.plain (OpenSpec.ofChange fnExactSeqNameSpec)) fnExactSeqNameCard

/-- THE TIED CARD OF 'laws.FnExactTreeFault'. -/
def fnExactTreeFaultCard : Claim7 := { stood := { row := fnExactTreeFaultRow, standIns := [], harness := (true, "4d3bf1dd15b3cfca34ec9fbcc87e1098506b938ea79cd431c7c486e55d6030e4"), looks := true }, kinds := [], alts := [], laidByText := true, laidKinds := [.handle], laidTests := true, laidLooks := .later }
def FnExactTreeFaultCardSaid : Prop := Claim7.holds Tryd.pinned (.plain (OpenSpec.ofChange fnExactTreeFaultSpec)) fnExactTreeFaultCard

/-- THE TIED CARD OF 'laws.FnExactDeleteZ'. -/
def fnExactDeleteZCard : Claim7 := { stood := { row := fnExactDeleteZRow, standIns := [], harness := (true, "4d3bf1dd15b3cfca34ec9fbcc87e1098506b938ea79cd431c7c486e55d6030e4"), looks := true }, kinds := [], alts := [], laidByText := true, laidKinds := [.handle], laidTests := true, laidLooks := .later }
def FnExactDeleteZCardSaid : Prop := Claim7.holds Tryd.pinned (.plain (OpenSpec.ofChange fnExactDeleteZSpec)) fnExactDeleteZCard

/-- THE TIED CARD OF 'laws.FnExactSetZ'. -/
def fnExactSetZCard : Claim7 := { stood := { row := fnExactSetZRow, standIns := [], harness := (true, "4d3bf1dd15b3cfca34ec9fbcc87e1098506b938ea79cd431c7c486e55d6030e4"), looks := true }, kinds := [], alts := [], laidByText := true, laidKinds := [.handle], laidTests := true, laidLooks := .later }
def FnExactSetZCardSaid : Prop := Claim7.holds Tryd.pinned (.plain (OpenSpec.ofChange fnExactSetZSpec)) fnExactSetZCard

/-- THE TIED CARD OF 'laws.FnExactGetZ'. -/
def fnExactGetZCard : Claim7 := { stood := { row := fnExactGetZRow, standIns := [], harness := (true, "4d3bf1dd15b3cfca34ec9fbcc87e1098506b938ea79cd431c7c486e55d6030e4"), looks := true }, kinds := [], alts := [], laidByText := true, laidKinds := [.handle], laidTests := true, laidLooks := .later }
def FnExactGetZCardSaid : Prop := Claim7.holds Tryd.pinned (.plain (OpenSpec.ofChange fnExactGetZSpec)) fnExactGetZCard

/-- THE TIED CARD OF 'laws.FnExactKidsZ'. -/
def fnExactKidsZCard : Claim7 := { stood := { row := fnExactKidsZRow, standIns := [], harness := (true, "4d3bf1dd15b3cfca34ec9fbcc87e1098506b938ea79cd431c7c486e55d6030e4"), looks := true }, kinds := [], alts := [], laidByText := true, laidKinds := [.handle], laidTests := true, laidLooks := .later }
def FnExactKidsZCardSaid : Prop := Claim7.holds Tryd.pinned (.plain (OpenSpec.ofChange fnExactKidsZSpec)) fnExactKidsZCard

/-- THE SECOND FORM's CARD OF 'laws.FnPaths'. -/
def fnPathsUptoCard : Claim7 := { stood := { row := fnPathsUptoRow, standIns := [], harness := (true, "4d3bf1dd15b3cfca34ec9fbcc87e1098506b938ea79cd431c7c486e55d6030e4"), looks := true }, kinds := [], alts := [], laidByText := true, laidKinds := [.handle], laidTests := true, laidLooks := .later }
def FnPathsUptoCardSaid : Prop := Claim7.holds Tryd.pinned (.plain (OpenSpec.upto fnPathsSpec)) fnPathsUptoCard

/-- THE SECOND FORM's CARD OF 'laws.FnSets'. -/
def fnSetsUptoCard : Claim7 := { stood := { row := fnSetsUptoRow, standIns := [], harness := (true, "4d3bf1dd15b3cfca34ec9fbcc87e1098506b938ea79cd431c7c486e55d6030e4"), looks := true }, kinds := [], alts := [], laidByText := true, laidKinds := [.handle], laidTests := true, laidLooks := .later }
def FnSetsUptoCardSaid : Prop := Claim7.holds Tryd.pinned (.plain (OpenSpec.upto fnSetsSpec)) fnSetsUptoCard

/-- THE SECOND FORM's CARD OF 'laws.FnExactPathFault'. -/
def fnExactPathFaultUptoCard : Claim7 := { stood := { row := fnExactPathFaultUptoRow, standIns := [], harness := (true, "4d3bf1dd15b3cfca34ec9fbcc87e1098506b938ea79cd431c7c486e55d6030e4"), looks := true }, kinds := [], alts := [], laidByText := true, laidKinds := [.handle], laidTests := true, laidLooks := .later }
def FnExactPathFaultUptoCardSaid : Prop := Claim7.holds Tryd.pinned (.plain (OpenSpec.upto fnExactPathFaultSpec)) fnExactPathFaultUptoCard

/-- THE SECOND FORM's CARD OF 'laws.FnExactParentOf'. -/
def fnExactParentOfUptoCard : Claim7 := { stood := { row := fnExactParentOfUptoRow, standIns := [], harness := (true, "4d3bf1dd15b3cfca34ec9fbcc87e1098506b938ea79cd431c7c486e55d6030e4"), looks := true }, kinds := [], alts := [], laidByText := true, laidKinds := [.handle], laidTests := true, laidLooks := .later }
def FnExactParentOfUptoCardSaid : Prop := Claim7.holds Tryd.pinned (.plain (OpenSpec.upto fnExactParentOfSpec)) fnExactParentOfUptoCard

/-- THE SECOND FORM's CARD OF 'laws.FnExactNameIn'. -/
def fnExactNameInUptoCard : Claim7 := { stood := { row := fnExactNameInUptoRow, standIns := [], harness := (true, "4d3bf1dd15b3cfca34ec9fbcc87e1098506b938ea79cd431c7c486e55d6030e4"), looks := true }, kinds := [], alts := [], laidByText := true, laidKinds := [.handle], laidTests := true, laidLooks := .later }
def FnExactNameInUptoCardSaid : Prop := Claim7.holds Tryd.pinned (.plain (OpenSpec.upto fnExactNameInSpec)) fnExactNameInUptoCard

/-- THE SECOND FORM's CARD OF 'laws.FnExactJoinPath'. -/
def fnExactJoinPathUptoCard : Claim7 := { stood := { row := fnExactJoinPathUptoRow, standIns := [], harness := (true, "4d3bf1dd15b3cfca34ec9fbcc87e1098506b938ea79cd431c7c486e55d6030e4"), looks := true }, kinds := [], alts := [], laidByText := true, laidKinds := [.handle], laidTests := true, laidLooks := .later }
def FnExactJoinPathUptoCardSaid : Prop := Claim7.holds Tryd.pinned (.plain (OpenSpec.upto fnExactJoinPathSpec)) fnExactJoinPathUptoCard

/-- THE SECOND FORM's CARD OF 'laws.FnExactIsUnder'. -/
def fnExactIsUnderUptoCard : Claim7 := { stood := { row := fnExactIsUnderUptoRow, standIns := [], harness := (true, "4d3bf1dd15b3cfca34ec9fbcc87e1098506b938ea79cd431c7c486e55d6030e4"), looks := true }, kinds := [], alts := [], laidByText := true, laidKinds := [.handle], laidTests := true, laidLooks := .later }
def FnExactIsUnderUptoCardSaid : Prop := Claim7.holds Tryd.pinned (.plain (OpenSpec.upto fnExactIsUnderSpec)) fnExactIsUnderUptoCard

/-- THE SECOND FORM's CARD OF 'laws.FnExactDeepIn'. -/
def fnExactDeepInUptoCard : Claim7 := { stood := { row := fnExactDeepInUptoRow, standIns := [], harness := (true, "4d3bf1dd15b3cfca34ec9fbcc87e1098506b938ea79cd431c7c486e55d6030e4"), looks := true }, kinds := [], alts := [], laidByText := true, laidKinds := [.handle], laidTests := true, laidLooks := .later }
def FnExactDeepInUptoCardSaid : Prop := Claim7.holds Tryd.pinned (.plain (OpenSpec.upto fnExactDeepInSpec)) fnExactDeepInUptoCard

/-- THE SECOND FORM's CARD OF 'laws.FnExactSeqName'. -/
def fnExactSeqNameUptoCard : Claim7 := { stood := { row := fnExactSeqNameUptoRow, standIns := [], harness := (true, "4d3bf1dd15b3cfca34ec9fbcc87e1098506b938ea79cd431c7c486e55d6030e4"), looks := true }, kinds := [], alts := [], laidByText := true, laidKinds := [.data, .data, .data], laidTests := true, laidLooks := .later }
def FnExactSeqNameUptoCardSaid : Prop := Claim7.holds Tryd.pinned (.plain (OpenSpec.upto fnExactSeqNameSpec)) fnExactSeqNameUptoCard

/-- THE SECOND FORM's CARD OF 'laws.FnExactTreeFault'. -/
def fnExactTreeFaultUptoCard : Claim7 := { stood := { row := fnExactTreeFaultUptoRow, standIns := [], harness := (true, "4d3bf1dd15b3cfca34ec9fbcc87e1098506b938ea79cd431c7c486e55d6030e4"), looks := true }, kinds := [], alts := [], laidByText := true, laidKinds := [.handle], laidTests := true, laidLooks := .later }
def FnExactTreeFaultUptoCardSaid : Prop := Claim7.holds Tryd.pinned (.plain (OpenSpec.upto fnExactTreeFaultSpec)) fnExactTreeFaultUptoCard

/-- THE SECOND FORM's CARD OF 'laws.FnExactDeleteZ'. -/
def fnExactDeleteZUptoCard : Claim7 := { stood := { row := fnExactDeleteZUptoRow, standIns := [], harness := (true, "4d3bf1dd15b3cfca34ec9fbcc87e1098506b938ea79cd431c7c486e55d6030e4"), looks := true }, kinds := [], alts := [], laidByText := true, laidKinds := [.handle], laidTests := true, laidLooks := .later }
def FnExactDeleteZUptoCardSaid : Prop := Claim7.holds Tryd.pinned (.plain (OpenSpec.upto fnExactDeleteZSpec)) fnExactDeleteZUptoCard

/-- THE SECOND FORM's CARD OF 'laws.FnExactSetZ'. -/
def fnExactSetZUptoCard : Claim7 := { stood := { row := fnExactSetZUptoRow, standIns := [], harness := (true, "4d3bf1dd15b3cfca34ec9fbcc87e1098506b938ea79cd431c7c486e55d6030e4"), looks := true }, kinds := [], alts := [], laidByText := true, laidKinds := [.handle], laidTests := true, laidLooks := .later }
def FnExactSetZUptoCardSaid : Prop := Claim7.holds Tryd.pinned (.plain (OpenSpec.upto fnExactSetZSpec)) fnExactSetZUptoCard

/-- THE SECOND FORM's CARD OF 'laws.FnExactGetZ'. -/
def fnExactGetZUptoCard : Claim7 := { stood := { row := fnExactGetZUptoRow, standIns := [], harness := (true, "4d3bf1dd15b3cfca34ec9fbcc87e1098506b938ea79cd431c7c486e55d6030e4"), looks := true }, kinds := [], alts := [], laidByText := true, laidKinds := [.handle], laidTests := true, laidLooks := .later }
def FnExactGetZUptoCardSaid : Prop := Claim7.holds Tryd.pinned (.plain (OpenSpec.upto fnExactGetZSpec)) fnExactGetZUptoCard

/-- THE SECOND FORM's CARD OF 'laws.FnExactKidsZ'. -/
def fnExactKidsZUptoCard : Claim7 := { stood := { row := fnExactKidsZUptoRow, standIns := [], harness := (true, "4d3bf1dd15b3cfca34ec9fbcc87e1098506b938ea79cd431c7c486e55d6030e4"), looks := true }, kinds := [], alts := [], laidByText := true, laidKinds := [.handle], laidTests := true, laidLooks := .later }
def FnExactKidsZUptoCardSaid : Prop := Claim7.holds Tryd.pinned (.plain (OpenSpec.upto fnExactKidsZSpec)) fnExactKidsZUptoCard
end Rows
end Go.Proofs.YtihfgaanaffinaaDoor
