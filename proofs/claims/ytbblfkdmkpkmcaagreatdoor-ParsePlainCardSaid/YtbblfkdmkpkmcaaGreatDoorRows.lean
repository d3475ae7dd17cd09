/-
  NARROWER THAN 'FOR EVERY INPUT', by the rows' own cells (each row's printed sentence says how): ParseAll: laid · ParseTurned: laid · ParseMade: laid · ParseMost: laid · ParseForms: laid · ParseTypes: laid · ParsePlain: laid.
  DERIVED. THE GIVEN ROWS OF THIS SEAT. 7 by the template 'for every input the law returns true; each argument reads behind the call as it read before'; 0 by the template 'total and deterministic' (their statements: YtbblfkdmkpkmcaaGreatDoorTotals.lean).
  GIVEN WITH THE SEED: the statements are not yours to turn. If you find one false, say at which input.
  Laid BY PROGRAM, IN A SANDBOX (cutbox-rows.mjs): the forced cells as the released guide's own fill.sh prints them over the translation 02d61ff011256ac3… (all of the seat's roots in one cut). By AI agents, Wed Nov 11 2026. No macro, syntax, notation, axiom, sorry.
-/
import Derived.Test.YtbblfkdmkpkmcaaGreatDoorChecked
import GoSem.PinnedTables
import GoSem.Claim
import GoSem.ClaimJoined
import GoSem.ClaimMapViews
import Derived.JoinedTies
import Derived.KernelRfl
namespace Go.Proofs.YtbblfkdmkpkmcaaGreatDoor
/- THE CELL 'sum', in the pinned program and in every row, IS THE sha256 OF THE DUMP (.gsa) THAT YtbblfkdmkpkmcaaGreatDoorProg.lean LOADS. Nothing in Lean hashes anything: it is a label: what it is worth is what the hold of that sum in a sandbox is worth. -/
noncomputable def Tryz.pinned : Pinned := { name := "ytbblfkdmkpkmcaagreatdoor", sum := "02d61ff011256ac3fbd146fd3223b5bd7672bd5c736793911d78b22be71a6a3b", checked := Tryz.checked }
namespace Rows
def none {H : Type} : Left H := { results := [], args := [] }

/- WHAT THE LISTED PACKAGE-LEVEL VARIABLES READ AS WHEN THE CALL BEGINS. Each datum BY PROGRAM (the guide's laid-datum.mjs) off the statement by which the dump's own 'gosem.cut.vars' lays the variable. In a bare row this is a premise. The card (YtbblfkdmkpkmcaaGreatDoorCards.lean) ties it to the program's text. -/
def laid_unicode_utf8_acceptRanges {H : Type} : DataW H := .agg [.agg [.lit (.int .u8 128), .lit (.int .u8 191)], .agg [.lit (.int .u8 160), .lit (.int .u8 191)], .agg [.lit (.int .u8 128), .lit (.int .u8 159)], .agg [.lit (.int .u8 144), .lit (.int .u8 191)], .agg [.lit (.int .u8 128), .lit (.int .u8 143)], .agg [.lit (.int .u8 0), .lit (.int .u8 0)], .agg [.lit (.int .u8 0), .lit (.int .u8 0)], .agg [.lit (.int .u8 0), .lit (.int .u8 0)], .agg [.lit (.int .u8 0), .lit (.int .u8 0)], .agg [.lit (.int .u8 0), .lit (.int .u8 0)], .agg [.lit (.int .u8 0), .lit (.int .u8 0)], .agg [.lit (.int .u8 0), .lit (.int .u8 0)], .agg [.lit (.int .u8 0), .lit (.int .u8 0)], .agg [.lit (.int .u8 0), .lit (.int .u8 0)], .agg [.lit (.int .u8 0), .lit (.int .u8 0)], .agg [.lit (.int .u8 0), .lit (.int .u8 0)]]
def laid_assayer_kind_words {H : Type} : DataW H := .agg [.lit (.string []), .lit (.string []), .lit (.string [98, 111, 111, 108]), .lit (.string [105, 56]), .lit (.string [100, 111, 117, 98, 108, 101]), .lit (.string []), .lit (.string [105, 49, 54]), .lit (.string []), .lit (.string [105, 51, 50]), .lit (.string []), .lit (.string [105, 54, 52]), .lit (.string [115, 116, 114, 105, 110, 103]), .lit (.string []), .lit (.string [109, 97, 112]), .lit (.string [115, 101, 116]), .lit (.string [108, 105, 115, 116]), .lit (.string [98, 105, 110, 97, 114, 121])]
/-- One of Go's own tables, pinned by name: the form's constant. -/
def laid_unicode_utf8_first : DataW Unit := Go.Pinned.utf8First

/-- 'assayerlaw7.ParseAll': WHATEVER THE INPUT: true; the input reads as it did. -/
def parseAllSpec : ChangeSpec := { name := "parseAll", fn := fun _ => fun
  | [d1, d2] => { results := [.lit (.bool true)], args := [d1, d2] }
  | _ => none }
def parseAllRow : OpenClaim := { program := "ytbblfkdmkpkmcaagreatdoor", sum := "02d61ff011256ac3fbd146fd3223b5bd7672bd5c736793911d78b22be71a6a3b", func := "assayer/assayerlaw7.ParseAll", spec := "parseAll", inPlace := ["internal/bytealg.IndexByteString", "internal/bytealg.IndexString", "internal/bytealg.CountString"], unfollowed := true, recurses := true, named := ["internal/bytealg.MaxLen", "assayer/kind.words", "unicode/utf8.first", "unicode/utf8.acceptRanges"], plainKeys := false, apart := false, laid := [("unicode/utf8.acceptRanges", laid_unicode_utf8_acceptRanges), ("assayer/kind.words", laid_assayer_kind_words), ("unicode/utf8.first", laid_unicode_utf8_first)] }
def ParseAllSaid : Prop := parseAllRow.holds Tryz.pinned (OpenSpec.ofChange parseAllSpec)

/-- ITS FALSE NEIGHBOUR: 'it returns false'. Refute it at one input. -/
def parseAllWrong : ChangeSpec := { name := "parseAll", fn := fun _ => fun
  | [d1, d2] => { results := [.lit (.bool false)], args := [d1, d2] }
  | _ => none }
def ParseAllWrongFalsely : Prop := parseAllRow.holds Tryz.pinned (OpenSpec.ofChange parseAllWrong)

/-- 'assayerlaw7.ParseTurned': WHATEVER THE INPUT: true; the input reads as it did. -/
def parseTurnedSpec : ChangeSpec := { name := "parseTurned", fn := fun _ => fun
  | [d1, d2, d3] => { results := [.lit (.bool true)], args := [d1, d2, d3] }
  | _ => none }
def parseTurnedRow : OpenClaim := { program := "ytbblfkdmkpkmcaagreatdoor", sum := "02d61ff011256ac3fbd146fd3223b5bd7672bd5c736793911d78b22be71a6a3b", func := "assayer/assayerlaw7.ParseTurned", spec := "parseTurned", inPlace := ["internal/bytealg.IndexByteString", "internal/bytealg.IndexString", "internal/bytealg.CountString"], unfollowed := true, recurses := true, named := ["internal/bytealg.MaxLen", "assayer/kind.words", "unicode/utf8.first", "unicode/utf8.acceptRanges"], plainKeys := false, apart := false, laid := [("unicode/utf8.acceptRanges", laid_unicode_utf8_acceptRanges), ("assayer/kind.words", laid_assayer_kind_words), ("unicode/utf8.first", laid_unicode_utf8_first)] }
def ParseTurnedSaid : Prop := parseTurnedRow.holds Tryz.pinned (OpenSpec.ofChange parseTurnedSpec)

/-- ITS FALSE NEIGHBOUR: 'it returns false'. Refute it at one input. -/
def parseTurnedWrong : ChangeSpec := { name := "parseTurned", fn := fun _ => fun
  | [d1, d2, d3] => { results := [.lit (.bool false)], args := [d1, d2, d3] }
  | _ => none }
def ParseTurnedWrongFalsely : Prop := parseTurnedRow.holds Tryz.pinned (OpenSpec.ofChange parseTurnedWrong)

/-- 'assayerlaw7.ParseMade': WHATEVER THE INPUT: true; the input reads as it did. -/
def parseMadeSpec : ChangeSpec := { name := "parseMade", fn := fun _ => fun
  | [d] => { results := [.lit (.bool true)], args := [d] }
  | _ => none }
def parseMadeRow : OpenClaim := { program := "ytbblfkdmkpkmcaagreatdoor", sum := "02d61ff011256ac3fbd146fd3223b5bd7672bd5c736793911d78b22be71a6a3b", func := "assayer/assayerlaw7.ParseMade", spec := "parseMade", inPlace := ["internal/bytealg.IndexByteString", "internal/bytealg.IndexString", "internal/bytealg.CountString"], unfollowed := true, recurses := true, named := ["internal/bytealg.MaxLen", "assayer/kind.words", "unicode/utf8.first", "unicode/utf8.acceptRanges"], plainKeys := false, apart := false, laid := [("unicode/utf8.acceptRanges", laid_unicode_utf8_acceptRanges), ("assayer/kind.words", laid_assayer_kind_words), ("unicode/utf8.first", laid_unicode_utf8_first)] }
def ParseMadeSaid : Prop := parseMadeRow.holds Tryz.pinned (OpenSpec.ofChange parseMadeSpec)

/-- ITS FALSE NEIGHBOUR: 'it returns false'. Refute it at one input. -/
def parseMadeWrong : ChangeSpec := { name := "parseMade", fn := fun _ => fun
  | [d] => { results := [.lit (.bool false)], args := [d] }
  | _ => none }
def ParseMadeWrongFalsely : Prop := parseMadeRow.holds Tryz.pinned (OpenSpec.ofChange parseMadeWrong)

/-- 'assayerlaw7.ParseMost': WHATEVER THE INPUT: true; the input reads as it did. -/
def parseMostSpec : ChangeSpec := { name := "parseMost", fn := fun _ => fun
  | [d1, d2] => { results := [.lit (.bool true)], args := [d1, d2] }
  | _ => none }
def parseMostRow : OpenClaim := { program := "ytbblfkdmkpkmcaagreatdoor", sum := "02d61ff011256ac3fbd146fd3223b5bd7672bd5c736793911d78b22be71a6a3b", func := "assayer/assayerlaw7.ParseMost", spec := "parseMost", inPlace := ["internal/bytealg.IndexByteString", "internal/bytealg.IndexString", "internal/bytealg.CountString"], unfollowed := true, recurses := true, named := ["internal/bytealg.MaxLen", "assayer/kind.words", "unicode/utf8.first", "unicode/utf8.acceptRanges"], plainKeys := false, apart := false, laid := [("unicode/utf8.acceptRanges", laid_unicode_utf8_acceptRanges), ("assayer/kind.words", laid_assayer_kind_words), ("unicode/utf8.first", laid_unicode_utf8_first)] }
def ParseMostSaid : Prop := parseMostRow.holds Tryz.pinned (OpenSpec.ofChange parseMostSpec)

/-- ITS FALSE NEIGHBOUR: 'it returns false'. Refute it at one input. -/
def parseMostWrong : ChangeSpec := { name := "parseMost", fn := fun _ => fun
  | [d1, d2] => { results := [.lit (.bool false)], args := [d1, d2] }
  | _ => none }
def ParseMostWrongFalsely : Prop := parseMostRow.holds Tryz.pinned (OpenSpec.ofChange parseMostWrong)

/-- 'assayerlaw7.ParseForms': WHATEVER THE INPUT: true; the input reads as it did. -/
def parseFormsSpec : ChangeSpec := { name := "parseForms", fn := fun _ => fun
  | [] => { results := [.lit (.bool true)], args := [] }
  | _ => none }
def parseFormsRow : OpenClaim := { program := "ytbblfkdmkpkmcaagreatdoor", sum := "02d61ff011256ac3fbd146fd3223b5bd7672bd5c736793911d78b22be71a6a3b", func := "assayer/assayerlaw7.ParseForms", spec := "parseForms", inPlace := ["internal/bytealg.IndexByteString", "internal/bytealg.IndexString", "internal/bytealg.CountString"], unfollowed := true, recurses := true, named := ["internal/bytealg.MaxLen", "assayer/kind.words", "unicode/utf8.first", "unicode/utf8.acceptRanges"], plainKeys := false, apart := false, laid := [("unicode/utf8.acceptRanges", laid_unicode_utf8_acceptRanges), ("assayer/kind.words", laid_assayer_kind_words), ("unicode/utf8.first", laid_unicode_utf8_first)] }
def ParseFormsSaid : Prop := parseFormsRow.holds Tryz.pinned (OpenSpec.ofChange parseFormsSpec)

/-- ITS FALSE NEIGHBOUR: 'it returns false'. Refute it at one input. -/
def parseFormsWrong : ChangeSpec := { name := "parseForms", fn := fun _ => fun
  | [] => { results := [.lit (.bool false)], args := [] }
  | _ => none }
def ParseFormsWrongFalsely : Prop := parseFormsRow.holds Tryz.pinned (OpenSpec.ofChange parseFormsWrong)

/-- 'assayerlaw7.ParseTypes': WHATEVER THE INPUT: true; the input reads as it did. -/
def parseTypesSpec : ChangeSpec := { name := "parseTypes", fn := fun _ => fun
  | [d1, d2] => { results := [.lit (.bool true)], args := [d1, d2] }
  | _ => none }
def parseTypesRow : OpenClaim := { program := "ytbblfkdmkpkmcaagreatdoor", sum := "02d61ff011256ac3fbd146fd3223b5bd7672bd5c736793911d78b22be71a6a3b", func := "assayer/assayerlaw7.ParseTypes", spec := "parseTypes", inPlace := ["internal/bytealg.IndexByteString", "internal/bytealg.IndexString", "internal/bytealg.CountString"], unfollowed := true, recurses := true, named := ["internal/bytealg.MaxLen", "assayer/kind.words", "unicode/utf8.first", "unicode/utf8.acceptRanges"], plainKeys := false, apart := false, laid := [("unicode/utf8.acceptRanges", laid_unicode_utf8_acceptRanges), ("assayer/kind.words", laid_assayer_kind_words), ("unicode/utf8.first", laid_unicode_utf8_first)] }
def ParseTypesSaid : Prop := parseTypesRow.holds Tryz.pinned (OpenSpec.ofChange parseTypesSpec)

/-- ITS FALSE NEIGHBOUR: 'it returns false'. Refute it at one input. -/
def parseTypesWrong : ChangeSpec := { name := "parseTypes", fn := fun _ => fun
  | [d1, d2] => { results := [.lit (.bool false)], args := [d1, d2] }
  | _ => none }
def ParseTypesWrongFalsely : Prop := parseTypesRow.holds Tryz.pinned (OpenSpec.ofChange parseTypesWrong)

/-- 'assayerlaw7.ParsePlain': WHATEVER THE INPUT: true; the input reads as it did. -/
def parsePlainSpec : ChangeSpec := { name := "parsePlain", fn := fun _ => fun
  | [d] => { results := [.lit (.bool true)], args := [d] }
  | _ => none }
def parsePlainRow : OpenClaim := { program := "ytbblfkdmkpkmcaagreatdoor", sum := "02d61ff011256ac3fbd146fd3223b5bd7672bd5c736793911d78b22be71a6a3b", func := "assayer/assayerlaw7.ParsePlain", spec := "parsePlain", inPlace := ["internal/bytealg.IndexByteString", "internal/bytealg.IndexString", "internal/bytealg.CountString"], unfollowed := true, recurses := true, named := ["internal/bytealg.MaxLen", "assayer/kind.words", "unicode/utf8.first", "unicode/utf8.acceptRanges"], plainKeys := false, apart := false, laid := [("unicode/utf8.acceptRanges", laid_unicode_utf8_acceptRanges), ("assayer/kind.words", laid_assayer_kind_words), ("unicode/utf8.first", laid_unicode_utf8_first)] }
def ParsePlainSaid : Prop := parsePlainRow.holds Tryz.pinned (OpenSpec.ofChange parsePlainSpec)

/-- ITS FALSE NEIGHBOUR: 'it returns false'. Refute it at one input. -/
def parsePlainWrong : ChangeSpec := { name := "parsePlain", fn := fun _ => fun
  | [d] => { results := [.lit (.bool false)], args := [d] }
  | _ => none }
def ParsePlainWrongFalsely : Prop := parsePlainRow.holds Tryz.pinned (OpenSpec.ofChange parsePlainWrong)

/- THE SECOND FORM. 'bulk': how many values and letters a reading holds, each counted each time it is reached (what is shared counts as often as it is met; a slice's spare places count too). A statement '..UptoSaid' is the law's where the arguments, and the package variables that the reading takes, are together of bulk at most 1048576: NARROWER than '..Said'. Prove '..Said' where nothing that the law and all that it calls make is longer than what came in: it says more and counts as full. Else prove '..UptoSaid'. A law counts once. -/
mutual
def uptoBulk {H : Type} : DataW H → Nat
  | .lit (.string bytes) => bytes.length + 1
  | .lit _ => 1
  | .nil => 1
  | .ptr d => uptoBulk d + 1
  | .slice elems spare => uptoBulkAll elems + uptoBulkAll spare + 1
  | .agg parts => uptoBulkAll parts + 1
  | .iface _ d => uptoBulk d + 1
  | .map entries => uptoBulkEntries entries + 1
  | .held _ => 1
def uptoBulkAll {H : Type} : List (DataW H) → Nat
  | [] => 0
  | d :: r => uptoBulk d + uptoBulkAll r
def uptoBulkEntries {H : Type} : List (Lit × DataW H) → Nat
  | [] => 0
  | x :: r => uptoBulkEntry x + uptoBulkEntries r
def uptoBulkEntry {H : Type} : Lit × DataW H → Nat
  | (.string bytes, d) => bytes.length + uptoBulk d + 1
  | (_, d) => uptoBulk d + 1
 end
def uptoSmall : (H : Type) → List (DataW H) → Bool := fun _ ds => decide (uptoBulkAll ds ≤ 1048576)
def OpenSpec.upto (s : _root_.Go.ChangeSpec) : _root_.Go.OpenSpec := { _root_.Go.OpenSpec.ofChange s with cond := some uptoSmall }

/-- 'assayerlaw7.ParseAll', WHERE WHAT IT READS IS OF BULK AT MOST 1048576: true; the input reads as it did. -/
def parseAllUptoRow : OpenClaim := { program := "ytbblfkdmkpkmcaagreatdoor", sum := "02d61ff011256ac3fbd146fd3223b5bd7672bd5c736793911d78b22be71a6a3b", func := "assayer/assayerlaw7.ParseAll", spec := "parseAll", inPlace := ["internal/bytealg.IndexByteString", "internal/bytealg.IndexString", "internal/bytealg.CountString"], unfollowed := true, recurses := true, named := ["internal/bytealg.MaxLen", "assayer/kind.words", "unicode/utf8.first", "unicode/utf8.acceptRanges"], plainKeys := false, apart := false, laid := [("unicode/utf8.acceptRanges", laid_unicode_utf8_acceptRanges), ("assayer/kind.words", laid_assayer_kind_words), ("unicode/utf8.first", laid_unicode_utf8_first)], narrowed := true }
def ParseAllUptoSaid : Prop := parseAllUptoRow.holds Tryz.pinned (OpenSpec.upto parseAllSpec)

/-- 'assayerlaw7.ParseTurned', WHERE WHAT IT READS IS OF BULK AT MOST 1048576: true; the input reads as it did. -/
def parseTurnedUptoRow : OpenClaim := { program := "ytbblfkdmkpkmcaagreatdoor", sum := "02d61ff011256ac3fbd146fd3223b5bd7672bd5c736793911d78b22be71a6a3b", func := "assayer/assayerlaw7.ParseTurned", spec := "parseTurned", inPlace := ["internal/bytealg.IndexByteString", "internal/bytealg.IndexString", "internal/bytealg.CountString"], unfollowed := true, recurses := true, named := ["internal/bytealg.MaxLen", "assayer/kind.words", "unicode/utf8.first", "unicode/utf8.acceptRanges"], plainKeys := false, apart := false, laid := [("unicode/utf8.acceptRanges", laid_unicode_utf8_acceptRanges), ("assayer/kind.words", laid_assayer_kind_words), ("unicode/utf8.first", laid_unicode_utf8_first)], narrowed := true }
def ParseTurnedUptoSaid : Prop := parseTurnedUptoRow.holds Tryz.pinned (OpenSpec.upto parseTurnedSpec)

/-- 'assayerlaw7.ParseMade', WHERE WHAT IT READS IS OF BULK AT MOST 1048576: true; the input reads as it did. -/
def parseMadeUptoRow : OpenClaim := { program := "ytbblfkdmkpkmcaagreatdoor", sum := "02d61ff011256ac3fbd146fd3223b5bd7672bd5c736793911d78b22be71a6a3b", func := "assayer/assayerlaw7.ParseMade", spec := "parseMade", inPlace := ["internal/bytealg.IndexByteString", "internal/bytealg.IndexString", "internal/bytealg.CountString"], unfollowed := true, recurses := true, named := ["internal/bytealg.MaxLen", "assayer/kind.words", "unicode/utf8.first", "unicode/utf8.acceptRanges"], plainKeys := false, apart := false, laid := [("unicode/utf8.acceptRanges", laid_unicode_utf8_acceptRanges), ("assayer/kind.words", laid_assayer_kind_words), ("unicode/utf8.first", laid_unicode_utf8_first)], narrowed := true }
def ParseMadeUptoSaid : Prop := parseMadeUptoRow.holds Tryz.pinned (OpenSpec.upto parseMadeSpec)

/-- 'assayerlaw7.ParseMost', WHERE WHAT IT READS IS OF BULK AT MOST 1048576: true; the input reads as it did. -/
def parseMostUptoRow : OpenClaim := { program := "ytbblfkdmkpkmcaagreatdoor", sum := "02d61ff011256ac3fbd146fd3223b5bd7672bd5c736793911d78b22be71a6a3b", func := "assayer/assayerlaw7.ParseMost", spec := "parseMost", inPlace := ["internal/bytealg.IndexByteString", "internal/bytealg.IndexString", "internal/bytealg.CountString"], unfollowed := true, recurses := true, named := ["internal/bytealg.MaxLen", "assayer/kind.words", "unicode/utf8.first", "unicode/utf8.acceptRanges"], plainKeys := false, apart := false, laid := [("unicode/utf8.acceptRanges", laid_unicode_utf8_acceptRanges), ("assayer/kind.words", laid_assayer_kind_words), ("unicode/utf8.first", laid_unicode_utf8_first)], narrowed := true }
def ParseMostUptoSaid : Prop := parseMostUptoRow.holds Tryz.pinned (OpenSpec.upto parseMostSpec)

/-- 'assayerlaw7.ParseForms', WHERE WHAT IT READS IS OF BULK AT MOST 1048576: true; the input reads as it did. -/
def parseFormsUptoRow : OpenClaim := { program := "ytbblfkdmkpkmcaagreatdoor", sum := "02d61ff011256ac3fbd146fd3223b5bd7672bd5c736793911d78b22be71a6a3b", func := "assayer/assayerlaw7.ParseForms", spec := "parseForms", inPlace := ["internal/bytealg.IndexByteString", "internal/bytealg.IndexString", "internal/bytealg.CountString"], unfollowed := true, recurses := true, named := ["internal/bytealg.MaxLen", "assayer/kind.words", "unicode/utf8.first", "unicode/utf8.acceptRanges"], plainKeys := false, apart := false, laid := [("unicode/utf8.acceptRanges", laid_unicode_utf8_acceptRanges), ("assayer/kind.words", laid_assayer_kind_words), ("unicode/utf8.first", laid_unicode_utf8_first)], narrowed := true }
def ParseFormsUptoSaid : Prop := parseFormsUptoRow.holds Tryz.pinned (OpenSpec.upto parseFormsSpec)

/-- 'assayerlaw7.ParseTypes', WHERE WHAT IT READS IS OF BULK AT MOST 1048576: true; the input reads as it did. -/
def parseTypesUptoRow : OpenClaim := { program := "ytbblfkdmkpkmcaagreatdoor", sum := "02d61ff011256ac3fbd146fd3223b5bd7672bd5c736793911d78b22be71a6a3b", func := "assayer/assayerlaw7.ParseTypes", spec := "parseTypes", inPlace := ["internal/bytealg.IndexByteString", "internal/bytealg.IndexString", "internal/bytealg.CountString"], unfollowed := true, recurses := true, named := ["internal/bytealg.MaxLen", "assayer/kind.words", "unicode/utf8.first", "unicode/utf8.acceptRanges"], plainKeys := false, apart := false, laid := [("unicode/utf8.acceptRanges", laid_unicode_utf8_acceptRanges), ("assayer/kind.words", laid_assayer_kind_words), ("unicode/utf8.first", laid_unicode_utf8_first)], narrowed := true }
def ParseTypesUptoSaid : Prop := parseTypesUptoRow.holds Tryz.pinned (OpenSpec.upto parseTypesSpec)

/-- 'assayerlaw7.ParsePlain', WHERE WHAT IT READS IS OF BULK AT MOST 1048576: true; the input reads as it did. -/
def parsePlainUptoRow : OpenClaim := { program := "ytbblfkdmkpkmcaagreatdoor", sum := "02d61ff011256ac3fbd146fd3223b5bd7672bd5c736793911d78b22be71a6a3b", func := "assayer/assayerlaw7.ParsePlain", spec := "parsePlain", inPlace := ["internal/bytealg.IndexByteString", "internal/bytealg.IndexString", "internal/bytealg.CountString"], unfollowed := true, recurses := true, named := ["internal/bytealg.MaxLen", "assayer/kind.words", "unicode/utf8.first", "unicode/utf8.acceptRanges"], plainKeys := false, apart := false, laid := [("unicode/utf8.acceptRanges", laid_unicode_utf8_acceptRanges), ("assayer/kind.words", laid_assayer_kind_words), ("unicode/utf8.first", laid_unicode_utf8_first)], narrowed := true }
def ParsePlainUptoSaid : Prop := parsePlainUptoRow.holds Tryz.pinned (OpenSpec.upto parsePlainSpec)

end Rows
end Go.Proofs.YtbblfkdmkpkmcaaGreatDoor
