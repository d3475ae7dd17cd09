/-
  DERIVED. GIVEN WITH THE SEED: THE CARDS: each row of YtnfelopknfdpfaaDoorRows.lean that lists a variable, with what it lists TIED to the program's text (the seventh form; the later family's looks); each row that meets fmt, with fmt's text TOLD by the authors' own Lean function (tested against real Go, not proved from fmt's source: count such statements apart). THE CARD IS WHAT COUNTS. Prove the row's statement (the work); the ties are given (YtnfelopknfdpfaaDoorTie.lean); close each card by the builder's one call (the guide's Derived/Test/ToyasCard.lean, 'card_holds'). Laid BY PROGRAM, IN A SANDBOX (cutbox-door.mjs). By AI agents, Wed Nov 11 2026. No macro, syntax, notation, axiom, sorry.
-/
import Derived.Test.YtnfelopknfdpfaaDoorRows
import GoSem.ClaimSeven
namespace Go.Proofs.YtnfelopknfdpfaaDoor
namespace Rows

/-- THE TIED CARD OF 'assayerlaw14.ValueRanges'. -/
def valueRangesCard : Claim7 := { stood := { row := valueRangesRow, standIns := [], harness := (true, "b310eac0ef8a1ac1c34a9edcf983cb0e87f34fa9e661bc095e308e9fd7d017e8"), looks := false }, kinds := [], alts := [], laidByText := true, laidKinds := [.data, .data, .pinned], laidTests := true, laidLooks := .later }
def ValueRangesCardSaid : Prop := Claim7.holds Tryd.pinned (.plain (OpenSpec.ofChange valueRangesSpec)) valueRangesCard

/-- THE TIED CARD OF 'assayerlaw14.ValueGo'. -/
def valueGoCard : Claim7 := { stood := { row := valueGoRow, standIns := [], harness := (true, "b310eac0ef8a1ac1c34a9edcf983cb0e87f34fa9e661bc095e308e9fd7d017e8"), looks := false }, kinds := [], alts := [], laidByText := true, laidKinds := [.data, .data, .pinned], laidTests := true, laidLooks := .later }
def ValueGoCardSaid : Prop := Claim7.holds Tryd.pinned (.plain (OpenSpec.ofChange valueGoSpec)) valueGoCard

/-- THE TIED CARD OF 'assayerlaw14.ValueUnions'. -/
def valueUnionsCard : Claim7 := { stood := { row := valueUnionsRow, standIns := [], harness := (true, "b310eac0ef8a1ac1c34a9edcf983cb0e87f34fa9e661bc095e308e9fd7d017e8"), looks := false }, kinds := [], alts := [], laidByText := true, laidKinds := [.data, .data, .pinned], laidTests := true, laidLooks := .later }
def ValueUnionsCardSaid : Prop := Claim7.holds Tryd.pinned (.plain (OpenSpec.ofChange valueUnionsSpec)) valueUnionsCard

/-- THE SECOND FORM's CARD OF 'assayerlaw14.ValueRanges'. -/
def valueRangesUptoCard : Claim7 := { stood := { row := valueRangesUptoRow, standIns := [], harness := (true, "b310eac0ef8a1ac1c34a9edcf983cb0e87f34fa9e661bc095e308e9fd7d017e8"), looks := false }, kinds := [], alts := [], laidByText := true, laidKinds := [.data, .data, .pinned], laidTests := true, laidLooks := .later }
def ValueRangesUptoCardSaid : Prop := Claim7.holds Tryd.pinned (.plain (OpenSpec.upto valueRangesSpec)) valueRangesUptoCard

/-- THE SECOND FORM's CARD OF 'assayerlaw14.ValueGo'. -/
def valueGoUptoCard : Claim7 := { stood := { row := valueGoUptoRow, standIns := [], harness := (true, "b310eac0ef8a1ac1c34a9edcf983cb0e87f34fa9e661bc095e308e9fd7d017e8"), looks := false }, kinds := [], alts := [], laidByText := true, laidKinds := [.data, .data, .pinned], laidTests := true, laidLooks := .later }
def ValueGoUptoCardSaid : Prop := Claim7.holds Tryd.pinned (.plain (OpenSpec.upto valueGoSpec)) valueGoUptoCard

/-- THE SECOND FORM's CARD OF 'assayerlaw14.ValueUnions'. -/
def valueUnionsUptoCard : Claim7 := { stood := { row := valueUnionsUptoRow, standIns := [], harness := (true, "b310eac0ef8a1ac1c34a9edcf983cb0e87f34fa9e661bc095e308e9fd7d017e8"), looks := false }, kinds := [], alts := [], laidByText := true, laidKinds := [.data, .data, .pinned], laidTests := true, laidLooks := .later }
def ValueUnionsUptoCardSaid : Prop := Claim7.holds Tryd.pinned (.plain (OpenSpec.upto valueUnionsSpec)) valueUnionsUptoCard
end Rows
end Go.Proofs.YtnfelopknfdpfaaDoor
