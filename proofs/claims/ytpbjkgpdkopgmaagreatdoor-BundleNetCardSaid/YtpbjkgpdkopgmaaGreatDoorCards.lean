/-
  DERIVED. GIVEN WITH THE SEED: THE CARDS: each row of YtpbjkgpdkopgmaaGreatDoorRows.lean that lists a variable, with what it lists TIED to the program's text (the seventh form; the later family's looks); each row that meets fmt, with fmt's text TOLD by the authors' own Lean function (tested against real Go, not proved from fmt's source: count such statements apart). THE CARD IS WHAT COUNTS. Prove the row's statement (the work); the ties are given (YtpbjkgpdkopgmaaGreatDoorTie.lean); close each card by the builder's one call (the guide's Derived/Test/ToyasCard.lean, 'card_holds'). Laid BY PROGRAM, IN A SANDBOX (cutbox-door.mjs). By AI agents, Wed Nov 11 2026. No macro, syntax, notation, axiom, sorry.
-/
import Derived.Test.YtpbjkgpdkopgmaaGreatDoorRows
import GoSem.ClaimSeven
namespace Go.Proofs.YtpbjkgpdkopgmaaGreatDoor
namespace Rows

/-- THE TIED CARD OF 'assayerlaw7.ParseMade'. -/
def parseMadeCard : Claim7 := { stood := { row := parseMadeRow, standIns := [], harness := (true, "25258f614dbb5881837b1c633211580ce3c7970930f66ae008a00aae642a2e47"), looks := false }, kinds := [], alts := [], laidByText := true, laidKinds := [.data, .data, .pinned], laidTests := true, laidLooks := .later }
def ParseMadeCardSaid : Prop := Claim7.holds Tryz.pinned (.plain (OpenSpec.ofChange parseMadeSpec)) parseMadeCard

/-- THE TIED CARD OF 'assayerlaw9.BundleAll'. -/
def bundleAllCard : Claim7 := { stood := { row := bundleAllRow, standIns := [], harness := (true, "25258f614dbb5881837b1c633211580ce3c7970930f66ae008a00aae642a2e47"), looks := false }, kinds := [], alts := [], laidByText := true, laidKinds := [.data, .data, .pinned], laidTests := true, laidLooks := .later }
def BundleAllCardSaid : Prop := Claim7.holds Tryz.pinned (.plain (OpenSpec.ofChange bundleAllSpec)) bundleAllCard

/-- THE TIED CARD OF 'assayerlaw9.BundleNet'. -/
def bundleNetCard : Claim7 := { stood := { row := bundleNetRow, standIns := [], harness := (true, "25258f614dbb5881837b1c633211580ce3c7970930f66ae008a00aae642a2e47"), looks := false }, kinds := [], alts := [], laidByText := true, laidKinds := [.data, .data, .pinned], laidTests := true, laidLooks := .later }
def BundleNetCardSaid : Prop := Claim7.holds Tryz.pinned (.plain (OpenSpec.ofChange bundleNetSpec)) bundleNetCard

/-- THE TIED CARD OF 'assayerlaw9.BundleMade'. -/
def bundleMadeCard : Claim7 := { stood := { row := bundleMadeRow, standIns := [], harness := (true, "25258f614dbb5881837b1c633211580ce3c7970930f66ae008a00aae642a2e47"), looks := false }, kinds := [], alts := [], laidByText := true, laidKinds := [.data, .data, .pinned], laidTests := true, laidLooks := .later }
def BundleMadeCardSaid : Prop := Claim7.holds Tryz.pinned (.plain (OpenSpec.ofChange bundleMadeSpec)) bundleMadeCard

/-- THE TIED CARD OF 'assayerlaw9.BundleForms'. -/
def bundleFormsCard : Claim7 := { stood := { row := bundleFormsRow, standIns := [], harness := (true, "25258f614dbb5881837b1c633211580ce3c7970930f66ae008a00aae642a2e47"), looks := false }, kinds := [], alts := [], laidByText := true, laidKinds := [.data, .data, .pinned], laidTests := true, laidLooks := .later }
def BundleFormsCardSaid : Prop := Claim7.holds Tryz.pinned (.plain (OpenSpec.ofChange bundleFormsSpec)) bundleFormsCard

/-- THE SECOND FORM's CARD OF 'assayerlaw7.ParseMade'. -/
def parseMadeUptoCard : Claim7 := { stood := { row := parseMadeUptoRow, standIns := [], harness := (true, "25258f614dbb5881837b1c633211580ce3c7970930f66ae008a00aae642a2e47"), looks := false }, kinds := [], alts := [], laidByText := true, laidKinds := [.data, .data, .pinned], laidTests := true, laidLooks := .later }
def ParseMadeUptoCardSaid : Prop := Claim7.holds Tryz.pinned (.plain (OpenSpec.upto parseMadeSpec)) parseMadeUptoCard

/-- THE SECOND FORM's CARD OF 'assayerlaw9.BundleAll'. -/
def bundleAllUptoCard : Claim7 := { stood := { row := bundleAllUptoRow, standIns := [], harness := (true, "25258f614dbb5881837b1c633211580ce3c7970930f66ae008a00aae642a2e47"), looks := false }, kinds := [], alts := [], laidByText := true, laidKinds := [.data, .data, .pinned], laidTests := true, laidLooks := .later }
def BundleAllUptoCardSaid : Prop := Claim7.holds Tryz.pinned (.plain (OpenSpec.upto bundleAllSpec)) bundleAllUptoCard

/-- THE SECOND FORM's CARD OF 'assayerlaw9.BundleNet'. -/
def bundleNetUptoCard : Claim7 := { stood := { row := bundleNetUptoRow, standIns := [], harness := (true, "25258f614dbb5881837b1c633211580ce3c7970930f66ae008a00aae642a2e47"), looks := false }, kinds := [], alts := [], laidByText := true, laidKinds := [.data, .data, .pinned], laidTests := true, laidLooks := .later }
def BundleNetUptoCardSaid : Prop := Claim7.holds Tryz.pinned (.plain (OpenSpec.upto bundleNetSpec)) bundleNetUptoCard

/-- THE SECOND FORM's CARD OF 'assayerlaw9.BundleMade'. -/
def bundleMadeUptoCard : Claim7 := { stood := { row := bundleMadeUptoRow, standIns := [], harness := (true, "25258f614dbb5881837b1c633211580ce3c7970930f66ae008a00aae642a2e47"), looks := false }, kinds := [], alts := [], laidByText := true, laidKinds := [.data, .data, .pinned], laidTests := true, laidLooks := .later }
def BundleMadeUptoCardSaid : Prop := Claim7.holds Tryz.pinned (.plain (OpenSpec.upto bundleMadeSpec)) bundleMadeUptoCard

/-- THE SECOND FORM's CARD OF 'assayerlaw9.BundleForms'. -/
def bundleFormsUptoCard : Claim7 := { stood := { row := bundleFormsUptoRow, standIns := [], harness := (true, "25258f614dbb5881837b1c633211580ce3c7970930f66ae008a00aae642a2e47"), looks := false }, kinds := [], alts := [], laidByText := true, laidKinds := [.data, .data, .pinned], laidTests := true, laidLooks := .later }
def BundleFormsUptoCardSaid : Prop := Claim7.holds Tryz.pinned (.plain (OpenSpec.upto bundleFormsSpec)) bundleFormsUptoCard
end Rows
end Go.Proofs.YtpbjkgpdkopgmaaGreatDoor
