/-
  DERIVED. GIVEN WITH THE SEED: THE CARDS: each row of YthgcodbcafpmhaaGreatDoorRows.lean that lists a variable, with what it lists TIED to the program's text (the seventh form; the later family's looks); each row that meets fmt, with fmt's text TOLD by the authors' own Lean function (tested against real Go, not proved from fmt's source: count such statements apart). THE CARD IS WHAT COUNTS. Prove the row's statement (the work); the ties are given (YthgcodbcafpmhaaGreatDoorTie.lean); close each card by the builder's one call (the guide's Derived/Test/ToyasCard.lean, 'card_holds'). Laid BY PROGRAM, IN A SANDBOX (cutbox-door.mjs). By AI agents, Wed Nov 11 2026. No macro, syntax, notation, axiom, sorry.
-/
import Derived.Test.YthgcodbcafpmhaaGreatDoorRows
import GoSem.ClaimSeven
namespace Go.Proofs.YthgcodbcafpmhaaGreatDoor
namespace Rows

/-- THE TIED CARD OF 'laws.FnTexts'. -/
def fnTextsCard : Claim7 := { stood := { row := fnTextsRow, standIns := [], harness := (true, "b51778a715597513b1d318f3024d3b6501766af0b063396060eafef59562d699"), looks := true }, kinds := [], alts := [], laidByText := true, laidKinds := [.data, .data, .data, .sentinel, .sentinel], laidTests := true, laidLooks := .later }
def FnTextsCardSaid : Prop := Claim7.holds Tryz.pinned (.plain (OpenSpec.ofChange fnTextsSpec)) fnTextsCard

/-- THE TIED CARD OF 'laws.FnExactFormatScript'. -/
def fnExactFormatScriptCard : Claim7 := { stood := { row := fnExactFormatScriptRow, standIns := [], harness := (true, "b51778a715597513b1d318f3024d3b6501766af0b063396060eafef59562d699"), looks := true }, kinds := [], alts := [], laidByText := true, laidKinds := [.data, .data, .data], laidTests := true, laidLooks := .later }
def FnExactFormatScriptCardSaid : Prop := Claim7.holds Tryz.pinned (.plain (OpenSpec.ofChange fnExactFormatScriptSpec)) fnExactFormatScriptCard

/-- THE TIED CARD OF 'laws.FnExactFormatLibrary'. -/
def fnExactFormatLibraryCard : Claim7 := { stood := { row := fnExactFormatLibraryRow, standIns := [], harness := (true, "b51778a715597513b1d318f3024d3b6501766af0b063396060eafef59562d699"), looks := true }, kinds := [], alts := [], laidByText := true, laidKinds := [.data, .data, .data], laidTests := true, laidLooks := .later }
def FnExactFormatLibraryCardSaid : Prop := Claim7.holds Tryz.pinned (.plain (OpenSpec.ofChange fnExactFormatLibrarySpec)) fnExactFormatLibraryCard

/-- THE TIED CARD OF 'laws.FnExactParseLibrary'. -/
def fnExactParseLibraryCard : Claim7 := { stood := { row := fnExactParseLibraryRow, standIns := [], harness := (true, "b51778a715597513b1d318f3024d3b6501766af0b063396060eafef59562d699"), looks := true }, kinds := [], alts := [], laidByText := true, laidKinds := [.data, .data, .data, .sentinel, .sentinel], laidTests := true, laidLooks := .later }
def FnExactParseLibraryCardSaid : Prop := Claim7.holds Tryz.pinned (.plain (OpenSpec.ofChange fnExactParseLibrarySpec)) fnExactParseLibraryCard

/-- THE SECOND FORM's CARD OF 'laws.FnTexts'. -/
def fnTextsUptoCard : Claim7 := { stood := { row := fnTextsUptoRow, standIns := [], harness := (true, "b51778a715597513b1d318f3024d3b6501766af0b063396060eafef59562d699"), looks := true }, kinds := [], alts := [], laidByText := true, laidKinds := [.data, .data, .data, .sentinel, .sentinel], laidTests := true, laidLooks := .later }
def FnTextsUptoCardSaid : Prop := Claim7.holds Tryz.pinned (.plain (OpenSpec.upto fnTextsSpec)) fnTextsUptoCard

/-- THE SECOND FORM's CARD OF 'laws.FnExactFormatScript'. -/
def fnExactFormatScriptUptoCard : Claim7 := { stood := { row := fnExactFormatScriptUptoRow, standIns := [], harness := (true, "b51778a715597513b1d318f3024d3b6501766af0b063396060eafef59562d699"), looks := true }, kinds := [], alts := [], laidByText := true, laidKinds := [.data, .data, .data], laidTests := true, laidLooks := .later }
def FnExactFormatScriptUptoCardSaid : Prop := Claim7.holds Tryz.pinned (.plain (OpenSpec.upto fnExactFormatScriptSpec)) fnExactFormatScriptUptoCard

/-- THE SECOND FORM's CARD OF 'laws.FnExactFormatLibrary'. -/
def fnExactFormatLibraryUptoCard : Claim7 := { stood := { row := fnExactFormatLibraryUptoRow, standIns := [], harness := (true, "b51778a715597513b1d318f3024d3b6501766af0b063396060eafef59562d699"), looks := true }, kinds := [], alts := [], laidByText := true, laidKinds := [.data, .data, .data], laidTests := true, laidLooks := .later }
def FnExactFormatLibraryUptoCardSaid : Prop := Claim7.holds Tryz.pinned (.plain (OpenSpec.upto fnExactFormatLibrarySpec)) fnExactFormatLibraryUptoCard

/-- THE SECOND FORM's CARD OF 'laws.FnExactParseLibrary'. -/
def fnExactParseLibraryUptoCard : Claim7 := { stood := { row := fnExactParseLibraryUptoRow, standIns := [], harness := (true, "b51778a715597513b1d318f3024d3b6501766af0b063396060eafef59562d699"), looks := true }, kinds := [], alts := [], laidByText := true, laidKinds := [.data, .data, .data, .sentinel, .sentinel], laidTests := true, laidLooks := .later }
def FnExactParseLibraryUptoCardSaid : Prop := Claim7.holds Tryz.pinned (.plain (OpenSpec.upto fnExactParseLibrarySpec)) fnExactParseLibraryUptoCard
end Rows
end Go.Proofs.YthgcodbcafpmhaaGreatDoor
