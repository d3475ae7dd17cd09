/-
  NARROWER THAN 'FOR EVERY INPUT', by the rows' own cells (each row's printed sentence says how): ParseMade: laid · BundleAll: laid · BundleNet: laid · BundleMade: laid · BundleForms: laid.
  DERIVED. THE GIVEN ROWS OF THIS SEAT. 5 by the template 'for every input the law returns true; each argument reads behind the call as it read before'; 0 by the template 'total and deterministic' (their statements: YtpbjkgpdkopgmaaGreatDoorTotals.lean).
  GIVEN WITH THE SEED: the statements are not yours to turn. If you find one false, say at which input.
  Laid BY PROGRAM, IN A SANDBOX (cutbox-rows.mjs): the forced cells as the released guide's own fill.sh prints them over the translation c8cc7effb20f70f0… (all of the seat's roots in one cut). By AI agents, Wed Nov 11 2026. No macro, syntax, notation, axiom, sorry.
-/
import Derived.Test.YtpbjkgpdkopgmaaGreatDoorChecked
import GoSem.PinnedTables
import GoSem.Claim
import GoSem.ClaimJoined
import GoSem.ClaimMapViews
import Derived.JoinedTies
import Derived.KernelRfl
namespace Go.Proofs.YtpbjkgpdkopgmaaGreatDoor
/- THE CELL 'sum', in the pinned program and in every row, IS THE sha256 OF THE DUMP (.gsa) THAT YtpbjkgpdkopgmaaGreatDoorProg.lean LOADS. Nothing in Lean hashes anything: it is a label: what it is worth is what the hold of that sum in a sandbox is worth. -/
noncomputable def Tryz.pinned : Pinned := { name := "ytpbjkgpdkopgmaagreatdoor", sum := "c8cc7effb20f70f0187eb61cc94e39b170a1d1e211916d40691d94d853003f4c", checked := Tryz.checked }
namespace Rows
def none {H : Type} : Left H := { results := [], args := [] }

/- WHAT THE LISTED PACKAGE-LEVEL VARIABLES READ AS WHEN THE CALL BEGINS. Each datum BY PROGRAM (the guide's laid-datum.mjs) off the statement by which the dump's own 'gosem.cut.vars' lays the variable. In a bare row this is a premise. The card (YtpbjkgpdkopgmaaGreatDoorCards.lean) ties it to the program's text. -/
def laid_unicode_utf8_acceptRanges {H : Type} : DataW H := .agg [.agg [.lit (.int .u8 128), .lit (.int .u8 191)], .agg [.lit (.int .u8 160), .lit (.int .u8 191)], .agg [.lit (.int .u8 128), .lit (.int .u8 159)], .agg [.lit (.int .u8 144), .lit (.int .u8 191)], .agg [.lit (.int .u8 128), .lit (.int .u8 143)], .agg [.lit (.int .u8 0), .lit (.int .u8 0)], .agg [.lit (.int .u8 0), .lit (.int .u8 0)], .agg [.lit (.int .u8 0), .lit (.int .u8 0)], .agg [.lit (.int .u8 0), .lit (.int .u8 0)], .agg [.lit (.int .u8 0), .lit (.int .u8 0)], .agg [.lit (.int .u8 0), .lit (.int .u8 0)], .agg [.lit (.int .u8 0), .lit (.int .u8 0)], .agg [.lit (.int .u8 0), .lit (.int .u8 0)], .agg [.lit (.int .u8 0), .lit (.int .u8 0)], .agg [.lit (.int .u8 0), .lit (.int .u8 0)], .agg [.lit (.int .u8 0), .lit (.int .u8 0)]]
def laid_assayer_kind_words {H : Type} : DataW H := .agg [.lit (.string []), .lit (.string []), .lit (.string [98, 111, 111, 108]), .lit (.string [105, 56]), .lit (.string [100, 111, 117, 98, 108, 101]), .lit (.string []), .lit (.string [105, 49, 54]), .lit (.string []), .lit (.string [105, 51, 50]), .lit (.string []), .lit (.string [105, 54, 52]), .lit (.string [115, 116, 114, 105, 110, 103]), .lit (.string []), .lit (.string [109, 97, 112]), .lit (.string [115, 101, 116]), .lit (.string [108, 105, 115, 116]), .lit (.string [98, 105, 110, 97, 114, 121])]
/-- One of Go's own tables, pinned by name: the form's constant. -/
def laid_unicode_utf8_first : DataW Unit := Go.Pinned.utf8First

/-- 'assayerlaw7.ParseMade': WHATEVER THE INPUT: true; the input reads as it did. -/
def parseMadeSpec : ChangeSpec := { name := "parseMade", fn := fun _ => fun
  | [d] => { results := [.lit (.bool true)], args := [d] }
  | _ => none }
def parseMadeRow : OpenClaim := { program := "ytpbjkgpdkopgmaagreatdoor", sum := "c8cc7effb20f70f0187eb61cc94e39b170a1d1e211916d40691d94d853003f4c", func := "assayer/assayerlaw7.ParseMade", spec := "parseMade", inPlace := ["internal/bytealg.IndexByteString", "internal/bytealg.IndexString", "internal/bytealg.CountString"], unfollowed := true, recurses := true, named := ["internal/bytealg.MaxLen", "assayer/kind.words", "unicode/utf8.first", "unicode/utf8.acceptRanges"], plainKeys := false, apart := false, laid := [("unicode/utf8.acceptRanges", laid_unicode_utf8_acceptRanges), ("assayer/kind.words", laid_assayer_kind_words), ("unicode/utf8.first", laid_unicode_utf8_first)] }
def ParseMadeSaid : Prop := parseMadeRow.holds Tryz.pinned (OpenSpec.ofChange parseMadeSpec)

/-- ITS FALSE NEIGHBOUR: 'it returns false'. Refute it at one input. -/
def parseMadeWrong : ChangeSpec := { name := "parseMade", fn := fun _ => fun
  | [d] => { results := [.lit (.bool false)], args := [d] }
  | _ => none }
def ParseMadeWrongFalsely : Prop := parseMadeRow.holds Tryz.pinned (OpenSpec.ofChange parseMadeWrong)

/-- 'assayerlaw9.BundleAll': WHATEVER THE INPUT: true; the input reads as it did. -/
def bundleAllSpec : ChangeSpec := { name := "bundleAll", fn := fun _ => fun
  | [d1, d2] => { results := [.lit (.bool true)], args := [d1, d2] }
  | _ => none }
def bundleAllRow : OpenClaim := { program := "ytpbjkgpdkopgmaagreatdoor", sum := "c8cc7effb20f70f0187eb61cc94e39b170a1d1e211916d40691d94d853003f4c", func := "assayer/assayerlaw9.BundleAll", spec := "bundleAll", inPlace := ["internal/bytealg.IndexByteString", "internal/bytealg.IndexString", "internal/bytealg.CountString"], unfollowed := true, recurses := true, named := ["internal/bytealg.MaxLen", "assayer/kind.words", "unicode/utf8.first", "unicode/utf8.acceptRanges"], plainKeys := false, apart := false, laid := [("unicode/utf8.acceptRanges", laid_unicode_utf8_acceptRanges), ("assayer/kind.words", laid_assayer_kind_words), ("unicode/utf8.first", laid_unicode_utf8_first)] }
def BundleAllSaid : Prop := bundleAllRow.holds Tryz.pinned (OpenSpec.ofChange bundleAllSpec)

/-- ITS FALSE NEIGHBOUR: 'it returns false'. Refute it at one input. -/
def bundleAllWrong : ChangeSpec := { name := "bundleAll", fn := fun _ => fun
  | [d1, d2] => { results := [.lit (.bool false)], args := [d1, d2] }
  | _ => none }
def BundleAllWrongFalsely : Prop := bundleAllRow.holds Tryz.pinned (OpenSpec.ofChange bundleAllWrong)

/-- 'assayerlaw9.BundleNet': WHATEVER THE INPUT: true; the input reads as it did. -/
def bundleNetSpec : ChangeSpec := { name := "bundleNet", fn := fun _ => fun
  | [d1, d2] => { results := [.lit (.bool true)], args := [d1, d2] }
  | _ => none }
def bundleNetRow : OpenClaim := { program := "ytpbjkgpdkopgmaagreatdoor", sum := "c8cc7effb20f70f0187eb61cc94e39b170a1d1e211916d40691d94d853003f4c", func := "assayer/assayerlaw9.BundleNet", spec := "bundleNet", inPlace := ["internal/bytealg.IndexByteString", "internal/bytealg.IndexString", "internal/bytealg.CountString"], unfollowed := true, recurses := true, named := ["internal/bytealg.MaxLen", "assayer/kind.words", "unicode/utf8.first", "unicode/utf8.acceptRanges"], plainKeys := false, apart := false, laid := [("unicode/utf8.acceptRanges", laid_unicode_utf8_acceptRanges), ("assayer/kind.words", laid_assayer_kind_words), ("unicode/utf8.first", laid_unicode_utf8_first)] }
def BundleNetSaid : Prop := bundleNetRow.holds Tryz.pinned (OpenSpec.ofChange bundleNetSpec)

/-- ITS FALSE NEIGHBOUR: 'it returns false'. Refute it at one input. -/
def bundleNetWrong : ChangeSpec := { name := "bundleNet", fn := fun _ => fun
  | [d1, d2] => { results := [.lit (.bool false)], args := [d1, d2] }
  | _ => none }
def BundleNetWrongFalsely : Prop := bundleNetRow.holds Tryz.pinned (OpenSpec.ofChange bundleNetWrong)

/-- 'assayerlaw9.BundleMade': WHATEVER THE INPUT: true; the input reads as it did. -/
def bundleMadeSpec : ChangeSpec := { name := "bundleMade", fn := fun _ => fun
  | [d] => { results := [.lit (.bool true)], args := [d] }
  | _ => none }
def bundleMadeRow : OpenClaim := { program := "ytpbjkgpdkopgmaagreatdoor", sum := "c8cc7effb20f70f0187eb61cc94e39b170a1d1e211916d40691d94d853003f4c", func := "assayer/assayerlaw9.BundleMade", spec := "bundleMade", inPlace := ["internal/bytealg.IndexByteString", "internal/bytealg.IndexString", "internal/bytealg.CountString"], unfollowed := true, recurses := true, named := ["internal/bytealg.MaxLen", "assayer/kind.words", "unicode/utf8.first", "unicode/utf8.acceptRanges"], plainKeys := false, apart := false, laid := [("unicode/utf8.acceptRanges", laid_unicode_utf8_acceptRanges), ("assayer/kind.words", laid_assayer_kind_words), ("unicode/utf8.first", laid_unicode_utf8_first)] }
def BundleMadeSaid : Prop := bundleMadeRow.holds Tryz.pinned (OpenSpec.ofChange bundleMadeSpec)

/-- ITS FALSE NEIGHBOUR: 'it returns false'. Refute it at one input. -/
def bundleMadeWrong : ChangeSpec := { name := "bundleMade", fn := fun _ => fun
  | [d] => { results := [.lit (.bool false)], args := [d] }
  | _ => none }
def BundleMadeWrongFalsely : Prop := bundleMadeRow.holds Tryz.pinned (OpenSpec.ofChange bundleMadeWrong)

/-- 'assayerlaw9.BundleForms': WHATEVER THE INPUT: true; the input reads as it did. -/
def bundleFormsSpec : ChangeSpec := { name := "bundleForms", fn := fun _ => fun
  | [] => { results := [.lit (.bool true)], args := [] }
  | _ => none }
def bundleFormsRow : OpenClaim := { program := "ytpbjkgpdkopgmaagreatdoor", sum := "c8cc7effb20f70f0187eb61cc94e39b170a1d1e211916d40691d94d853003f4c", func := "assayer/assayerlaw9.BundleForms", spec := "bundleForms", inPlace := ["internal/bytealg.IndexByteString", "internal/bytealg.IndexString", "internal/bytealg.CountString"], unfollowed := true, recurses := true, named := ["internal/bytealg.MaxLen", "assayer/kind.words", "unicode/utf8.first", "unicode/utf8.acceptRanges"], plainKeys := false, apart := false, laid := [("unicode/utf8.acceptRanges", laid_unicode_utf8_acceptRanges), ("assayer/kind.words", laid_assayer_kind_words), ("unicode/utf8.first", laid_unicode_utf8_first)] }
def BundleFormsSaid : Prop := bundleFormsRow.holds Tryz.pinned (OpenSpec.ofChange bundleFormsSpec)

/-- ITS FALSE NEIGHBOUR: 'it returns false'. Refute it at one input. -/
def bundleFormsWrong : ChangeSpec := { name := "bundleForms", fn := fun _ => fun
  | [] => { results := [.lit (.bool false)], args := [] }
  | _ => none }
def BundleFormsWrongFalsely : Prop := bundleFormsRow.holds Tryz.pinned (OpenSpec.ofChange bundleFormsWrong)

/- THE SECOND FORM. 'bulk': how many values and letters a reading holds, each counted each time it is reached (what is shared counts as often as it is met; a slice's spare places count too). A statement '..UptoSaid' is the law's where the arguments, and the package variables that the reading takes, are together of bulk at most 1048576: NARROWER than '..Said'. Prove '..Said' where nothing that the law and all that it calls make is longer than what came in: it says more and counts as full. Else prove '..UptoSaid'. A law counts once. -/
mutual
def uptoBulk {H : Type} : DataW H → Nat
  | .lit (.string bytes) => bytes.length + 1
  | .lit _ => 1
  | .nil => 1
  | .ptr d => uptoBulk d + 1
  | .slice elems spare => uptoBulkAll elems + uptoBulkAll spare + 1
  | .agg parts => uptoBulkAll parts + 1
  | .iface _ d => uptoBulk d + 1
  | .map entries => uptoBulkEntries entries + 1
  | .held _ => 1
def uptoBulkAll {H : Type} : List (DataW H) → Nat
  | [] => 0
  | d :: r => uptoBulk d + uptoBulkAll r
def uptoBulkEntries {H : Type} : List (Lit × DataW H) → Nat
  | [] => 0
  | x :: r => uptoBulkEntry x + uptoBulkEntries r
def uptoBulkEntry {H : Type} : Lit × DataW H → Nat
  | (.string bytes, d) => bytes.length + uptoBulk d + 1
  | (_, d) => uptoBulk d + 1
 end
def uptoSmall : (H : Type) → List (DataW H) → Bool := fun _ ds => decide (uptoBulkAll ds ≤ 1048576)
def OpenSpec.upto (s : _root_.Go.ChangeSpec) : _root_.Go.OpenSpec := { _root_.Go.OpenSpec.ofChange s with cond := some uptoSmall }

/-- 'assayerlaw7.ParseMade', WHERE WHAT IT READS IS OF BULK AT MOST 1048576: true; the input reads as it did. -/
def parseMadeUptoRow : OpenClaim := { program := "ytpbjkgpdkopgmaagreatdoor", sum := "c8cc7effb20f70f0187eb61cc94e39b170a1d1e211916d40691d94d853003f4c", func := "assayer/assayerlaw7.ParseMade", spec := "parseMade", inPlace := ["internal/bytealg.IndexByteString", "internal/bytealg.IndexString", "internal/bytealg.CountString"], unfollowed := true, recurses := true, named := ["internal/bytealg.MaxLen", "assayer/kind.words", "unicode/utf8.first", "unicode/utf8.acceptRanges"], plainKeys := false, apart := false, laid := [("unicode/utf8.acceptRanges", laid_unicode_utf8_acceptRanges), ("assayer/kind.words", laid_assayer_kind_words), ("unicode/utf8.first", laid_unicode_utf8_first)], narrowed := true }
def ParseMadeUptoSaid : Prop := parseMadeUptoRow.holds Tryz.pinned (OpenSpec.upto parseMadeSpec)

/-- 'assayerlaw9.BundleAll', WHERE WHAT IT READS IS OF BULK AT MOST 1048576: true; the input reads as it did. -/
def bundleAllUptoRow : OpenClaim := { program := "ytpbjkgpdkopgmaagreatdoor", sum := "c8cc7effb20f70f0187eb61cc94e39b170a1d1e211916d40691d94d853003f4c", func := "assayer/assayerlaw9.BundleAll", spec := "bundleAll", inPlace := ["internal/bytealg.IndexByteString", "internal/bytealg.IndexString", "internal/bytealg.CountString"], unfollowed := true, recurses := true, named := ["internal/bytealg.MaxLen", "assayer/kind.words", "unicode/utf8.first", "unicode/utf8.acceptRanges"], plainKeys := false, apart := false, laid := [("unicode/utf8.acceptRanges", laid_unicode_utf8_acceptRanges), ("assayer/kind.words", laid_assayer_kind_words), ("unicode/utf8.first", laid_unicode_utf8_first)], narrowed := true }
def BundleAllUptoSaid : Prop := bundleAllUptoRow.holds Tryz.pinned (OpenSpec.upto bundleAllSpec)

/-- 'assayerlaw9.BundleNet', WHERE WHAT IT READS IS OF BULK AT MOST 1048576: true; the input reads as it did. -/
def bundleNetUptoRow : OpenClaim := { program := "ytpbjkgpdkopgmaagreatdoor", sum := "c8cc7effb20f70f0187eb61cc94e39b170a1d1e211916d40691d94d853003f4c", func := "assayer/assayerlaw9.BundleNet", spec := "bundleNet", inPlace := ["internal/bytealg.IndexByteString", "internal/bytealg.IndexString", "internal/bytealg.CountString"], unfollowed := true, recurses := true, named := ["internal/bytealg.MaxLen", "assayer/kind.words", "unicode/utf8.first", "unicode/utf8.acceptRanges"], plainKeys := false, apart := false, laid := [("unicode/utf8.acceptRanges", laid_unicode_utf8_acceptRanges), ("assayer/kind.words", laid_assayer_kind_words), ("unicode/utf8.first", laid_unicode_utf8_first)], narrowed := true }
def BundleNetUptoSaid : Prop := bundleNetUptoRow.holds Tryz.pinned (OpenSpec.upto bundleNetSpec)

/-- 'assayerlaw9.BundleMade', WHERE WHAT IT READS IS OF BULK AT MOST 1048576: true; the input reads as it did. -/
def bundleMadeUptoRow : OpenClaim := { program := "ytpbjkgpdkopgmaagreatdoor", sum := "c8cc7effb20f70f0187eb61cc94e39b170a1d1e211916d40691d94d853003f4c", func := "assayer/assayerlaw9.BundleMade", spec := "bundleMade", inPlace := ["internal/bytealg.IndexByteString", "internal/bytealg.IndexString", "internal/bytealg.CountString"], unfollowed := true, recurses := true, named := ["internal/bytealg.MaxLen", "assayer/kind.words", "unicode/utf8.first", "unicode/utf8.acceptRanges"], plainKeys := false, apart := false, laid := [("unicode/utf8.acceptRanges", laid_unicode_utf8_acceptRanges), ("assayer/kind.words", laid_assayer_kind_words), ("unicode/utf8.first", laid_unicode_utf8_first)], narrowed := true }
def BundleMadeUptoSaid : Prop := bundleMadeUptoRow.holds Tryz.pinned (OpenSpec.upto bundleMadeSpec)

/-- 'assayerlaw9.BundleForms', WHERE WHAT IT READS IS OF BULK AT MOST 1048576: true; the input reads as it did. -/
def bundleFormsUptoRow : OpenClaim := { program := "ytpbjkgpdkopgmaagreatdoor", sum := "c8cc7effb20f70f0187eb61cc94e39b170a1d1e211916d40691d94d853003f4c", func := "assayer/assayerlaw9.BundleForms", spec := "bundleForms", inPlace := ["internal/bytealg.IndexByteString", "internal/bytealg.IndexString", "internal/bytealg.CountString"], unfollowed := true, recurses := true, named := ["internal/bytealg.MaxLen", "assayer/kind.words", "unicode/utf8.first", "unicode/utf8.acceptRanges"], plainKeys := false, apart := false, laid := [("unicode/utf8.acceptRanges", laid_unicode_utf8_acceptRanges), ("assayer/kind.words", laid_assayer_kind_words), ("unicode/utf8.first", laid_unicode_utf8_first)], narrowed := true }
def BundleFormsUptoSaid : Prop := bundleFormsUptoRow.holds Tryz.pinned (OpenSpec.upto bundleFormsSpec)

end Rows
end Go.Proofs.YtpbjkgpdkopgmaaGreatDoor
