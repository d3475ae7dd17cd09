/-
  DERIVED. GIVEN WITH THE SEED: THE CARDS: each row of YtpaacfoiiihbeaaDoorRows.lean that lists a variable, with what it lists TIED to the program's text (the seventh form; the later family's looks); each row that meets fmt, with fmt's text TOLD by the authors' own Lean function (tested against real Go, not proved from fmt's source: count such statements apart). THE CARD IS WHAT COUNTS. Prove the row's statement (the work); the ties are given (YtpaacfoiiihbeaaDoorTie.lean); close each card by the builder's one call (the guide's Derived/Test/ToyasCard.lean, 'card_holds'). Laid BY PROGRAM, IN A SANDBOX (cutbox-door.mjs). By AI agents, Wed Nov 11 2026. No macro, syntax, notation, axiom, sorry.
-/
import Derived.Test.YtpaacfoiiihbeaaDoorRows
import GoSem.ClaimSeven
namespace Go.Proofs.YtpaacfoiiihbeaaDoor
namespace Rows

/-- THE TIED CARD OF 'assayerlaw6.KindAll'. -/
def kindAllCard : Claim7 := { stood := { row := kindAllRow, standIns := [], harness := (true, "97001a8c3bbe79890cc30272b5d6dc8029efd6ff96ad86753b2472ef418d7329"), looks := false }, kinds := [], alts := [], laidByText := true, laidKinds := [.data], laidTests := true, laidLooks := .later }
def KindAllCardSaid : Prop := Claim7.holds Tryd.pinned (.plain (OpenSpec.ofChange kindAllSpec)) kindAllCard

/-- THE TIED CARD OF 'assayerlaw6.KindBack'. -/
def kindBackCard : Claim7 := { stood := { row := kindBackRow, standIns := [], harness := (true, "97001a8c3bbe79890cc30272b5d6dc8029efd6ff96ad86753b2472ef418d7329"), looks := false }, kinds := [], alts := [], laidByText := true, laidKinds := [.data], laidTests := true, laidLooks := .later }
def KindBackCardSaid : Prop := Claim7.holds Tryd.pinned (.plain (OpenSpec.ofChange kindBackSpec)) kindBackCard

/-- THE TIED CARD OF 'assayerlaw6.KindNests'. -/
def kindNestsCard : Claim7 := { stood := { row := kindNestsRow, standIns := [], harness := (true, "97001a8c3bbe79890cc30272b5d6dc8029efd6ff96ad86753b2472ef418d7329"), looks := false }, kinds := [], alts := [], laidByText := true, laidKinds := [.data], laidTests := true, laidLooks := .later }
def KindNestsCardSaid : Prop := Claim7.holds Tryd.pinned (.plain (OpenSpec.ofChange kindNestsSpec)) kindNestsCard

/-- THE TIED CARD OF 'assayerlaw6.KindForms'. -/
def kindFormsCard : Claim7 := { stood := { row := kindFormsRow, standIns := [], harness := (true, "97001a8c3bbe79890cc30272b5d6dc8029efd6ff96ad86753b2472ef418d7329"), looks := false }, kinds := [], alts := [], laidByText := true, laidKinds := [.data], laidTests := true, laidLooks := .later }
def KindFormsCardSaid : Prop := Claim7.holds Tryd.pinned (.plain (OpenSpec.ofChange kindFormsSpec)) kindFormsCard

/-- THE TIED CARD OF 'assayerlaw6.KindNames'. -/
def kindNamesCard : Claim7 := { stood := { row := kindNamesRow, standIns := [], harness := (true, "97001a8c3bbe79890cc30272b5d6dc8029efd6ff96ad86753b2472ef418d7329"), looks := false }, kinds := [], alts := [], laidByText := true, laidKinds := [.data], laidTests := true, laidLooks := .later }
def KindNamesCardSaid : Prop := Claim7.holds Tryd.pinned (.plain (OpenSpec.ofChange kindNamesSpec)) kindNamesCard

/-- THE SECOND FORM's CARD OF 'assayerlaw6.KindAll'. -/
def kindAllUptoCard : Claim7 := { stood := { row := kindAllUptoRow, standIns := [], harness := (true, "97001a8c3bbe79890cc30272b5d6dc8029efd6ff96ad86753b2472ef418d7329"), looks := false }, kinds := [], alts := [], laidByText := true, laidKinds := [.data], laidTests := true, laidLooks := .later }
def KindAllUptoCardSaid : Prop := Claim7.holds Tryd.pinned (.plain (OpenSpec.upto kindAllSpec)) kindAllUptoCard

/-- THE SECOND FORM's CARD OF 'assayerlaw6.KindBack'. -/
def kindBackUptoCard : Claim7 := { stood := { row := kindBackUptoRow, standIns := [], harness := (true, "97001a8c3bbe79890cc30272b5d6dc8029efd6ff96ad86753b2472ef418d7329"), looks := false }, kinds := [], alts := [], laidByText := true, laidKinds := [.data], laidTests := true, laidLooks := .later }
def KindBackUptoCardSaid : Prop := Claim7.holds Tryd.pinned (.plain (OpenSpec.upto kindBackSpec)) kindBackUptoCard

/-- THE SECOND FORM's CARD OF 'assayerlaw6.KindNests'. -/
def kindNestsUptoCard : Claim7 := { stood := { row := kindNestsUptoRow, standIns := [], harness := (true, "97001a8c3bbe79890cc30272b5d6dc8029efd6ff96ad86753b2472ef418d7329"), looks := false }, kinds := [], alts := [], laidByText := true, laidKinds := [.data], laidTests := true, laidLooks := .later }
def KindNestsUptoCardSaid : Prop := Claim7.holds Tryd.pinned (.plain (OpenSpec.upto kindNestsSpec)) kindNestsUptoCard

/-- THE SECOND FORM's CARD OF 'assayerlaw6.KindForms'. -/
def kindFormsUptoCard : Claim7 := { stood := { row := kindFormsUptoRow, standIns := [], harness := (true, "97001a8c3bbe79890cc30272b5d6dc8029efd6ff96ad86753b2472ef418d7329"), looks := false }, kinds := [], alts := [], laidByText := true, laidKinds := [.data], laidTests := true, laidLooks := .later }
def KindFormsUptoCardSaid : Prop := Claim7.holds Tryd.pinned (.plain (OpenSpec.upto kindFormsSpec)) kindFormsUptoCard

/-- THE SECOND FORM's CARD OF 'assayerlaw6.KindNames'. -/
def kindNamesUptoCard : Claim7 := { stood := { row := kindNamesUptoRow, standIns := [], harness := (true, "97001a8c3bbe79890cc30272b5d6dc8029efd6ff96ad86753b2472ef418d7329"), looks := false }, kinds := [], alts := [], laidByText := true, laidKinds := [.data], laidTests := true, laidLooks := .later }
def KindNamesUptoCardSaid : Prop := Claim7.holds Tryd.pinned (.plain (OpenSpec.upto kindNamesSpec)) kindNamesUptoCard
end Rows
end Go.Proofs.YtpaacfoiiihbeaaDoor
