/-
  NARROWER THAN 'FOR EVERY INPUT', by the rows' own cells (each row's printed sentence says how): ValueRanges: laid · ValueGo: laid · ValueUnions: laid.
  DERIVED. THE GIVEN ROWS OF THIS SEAT. 3 by the template 'for every input the law returns true; each argument reads behind the call as it read before'; 0 by the template 'total and deterministic' (their statements: YtnfelopknfdpfaaDoorTotals.lean).
  GIVEN WITH THE SEED: the statements are not yours to turn. If you find one false, say at which input.
  Laid BY PROGRAM, IN A SANDBOX (cutbox-rows.mjs): the forced cells as the released guide's own fill.sh prints them over the translation 64c14a361ab139eb… (all of the seat's roots in one cut). By AI agents, Wed Nov 11 2026. No macro, syntax, notation, axiom, sorry.
-/
import Derived.Test.YtnfelopknfdpfaaDoorChecked
import GoSem.PinnedTables
import GoSem.Claim
import GoSem.ClaimJoined
import GoSem.ClaimMapViews
import Derived.JoinedTies
import Derived.KernelRfl
namespace Go.Proofs.YtnfelopknfdpfaaDoor
/- THE CELL 'sum', in the pinned program and in every row, IS THE sha256 OF THE DUMP (.gsa) THAT YtnfelopknfdpfaaDoorProg.lean LOADS. Nothing in Lean hashes anything: it is a label: what it is worth is what the hold of that sum in a sandbox is worth. -/
noncomputable def Tryd.pinned : Pinned := { name := "ytnfelopknfdpfaadoor", sum := "64c14a361ab139eba101138c96a6d0b8e19e53174f8ffde1fc6cacd5f985b928", checked := Tryd.checked }
namespace Rows
def none {H : Type} : Left H := { results := [], args := [] }

/- WHAT THE LISTED PACKAGE-LEVEL VARIABLES READ AS WHEN THE CALL BEGINS. Each datum BY PROGRAM (the guide's laid-datum.mjs) off the statement by which the dump's own 'gosem.cut.vars' lays the variable. In a bare row this is a premise. The card (YtnfelopknfdpfaaDoorCards.lean) ties it to the program's text. -/
def laid_unicode_utf8_acceptRanges {H : Type} : DataW H := .agg [.agg [.lit (.int .u8 128), .lit (.int .u8 191)], .agg [.lit (.int .u8 160), .lit (.int .u8 191)], .agg [.lit (.int .u8 128), .lit (.int .u8 159)], .agg [.lit (.int .u8 144), .lit (.int .u8 191)], .agg [.lit (.int .u8 128), .lit (.int .u8 143)], .agg [.lit (.int .u8 0), .lit (.int .u8 0)], .agg [.lit (.int .u8 0), .lit (.int .u8 0)], .agg [.lit (.int .u8 0), .lit (.int .u8 0)], .agg [.lit (.int .u8 0), .lit (.int .u8 0)], .agg [.lit (.int .u8 0), .lit (.int .u8 0)], .agg [.lit (.int .u8 0), .lit (.int .u8 0)], .agg [.lit (.int .u8 0), .lit (.int .u8 0)], .agg [.lit (.int .u8 0), .lit (.int .u8 0)], .agg [.lit (.int .u8 0), .lit (.int .u8 0)], .agg [.lit (.int .u8 0), .lit (.int .u8 0)], .agg [.lit (.int .u8 0), .lit (.int .u8 0)]]
def laid_assayer_kind_words {H : Type} : DataW H := .agg [.lit (.string []), .lit (.string []), .lit (.string [98, 111, 111, 108]), .lit (.string [105, 56]), .lit (.string [100, 111, 117, 98, 108, 101]), .lit (.string []), .lit (.string [105, 49, 54]), .lit (.string []), .lit (.string [105, 51, 50]), .lit (.string []), .lit (.string [105, 54, 52]), .lit (.string [115, 116, 114, 105, 110, 103]), .lit (.string []), .lit (.string [109, 97, 112]), .lit (.string [115, 101, 116]), .lit (.string [108, 105, 115, 116]), .lit (.string [98, 105, 110, 97, 114, 121])]
/-- One of Go's own tables, pinned by name: the form's constant. -/
def laid_unicode_utf8_first : DataW Unit := Go.Pinned.utf8First

/-- 'assayerlaw14.ValueRanges': WHATEVER THE INPUT: true; the input reads as it did. -/
def valueRangesSpec : ChangeSpec := { name := "valueRanges", fn := fun _ => fun
  | [d] => { results := [.lit (.bool true)], args := [d] }
  | _ => none }
def valueRangesRow : OpenClaim := { program := "ytnfelopknfdpfaadoor", sum := "64c14a361ab139eba101138c96a6d0b8e19e53174f8ffde1fc6cacd5f985b928", func := "assayer/assayerlaw14.ValueRanges", spec := "valueRanges", inPlace := ["internal/bytealg.IndexByteString", "internal/bytealg.IndexString", "internal/bytealg.abigen_runtime_cmpstring"], unfollowed := true, recurses := true, named := ["assayer/kind.words", "internal/bytealg.MaxLen", "unicode/utf8.first", "unicode/utf8.acceptRanges"], plainKeys := false, apart := false, laid := [("unicode/utf8.acceptRanges", laid_unicode_utf8_acceptRanges), ("assayer/kind.words", laid_assayer_kind_words), ("unicode/utf8.first", laid_unicode_utf8_first)] }
def ValueRangesSaid : Prop := valueRangesRow.holds Tryd.pinned (OpenSpec.ofChange valueRangesSpec)

/-- ITS FALSE NEIGHBOUR: 'it returns false'. Refute it at one input. -/
def valueRangesWrong : ChangeSpec := { name := "valueRanges", fn := fun _ => fun
  | [d] => { results := [.lit (.bool false)], args := [d] }
  | _ => none }
def ValueRangesWrongFalsely : Prop := valueRangesRow.holds Tryd.pinned (OpenSpec.ofChange valueRangesWrong)

/-- 'assayerlaw14.ValueGo': WHATEVER THE INPUT: true; the input reads as it did. -/
def valueGoSpec : ChangeSpec := { name := "valueGo", fn := fun _ => fun
  | [d] => { results := [.lit (.bool true)], args := [d] }
  | _ => none }
def valueGoRow : OpenClaim := { program := "ytnfelopknfdpfaadoor", sum := "64c14a361ab139eba101138c96a6d0b8e19e53174f8ffde1fc6cacd5f985b928", func := "assayer/assayerlaw14.ValueGo", spec := "valueGo", inPlace := ["internal/bytealg.IndexByteString", "internal/bytealg.IndexString", "internal/bytealg.abigen_runtime_cmpstring"], unfollowed := true, recurses := true, named := ["assayer/kind.words", "internal/bytealg.MaxLen", "unicode/utf8.first", "unicode/utf8.acceptRanges"], plainKeys := false, apart := false, laid := [("unicode/utf8.acceptRanges", laid_unicode_utf8_acceptRanges), ("assayer/kind.words", laid_assayer_kind_words), ("unicode/utf8.first", laid_unicode_utf8_first)] }
def ValueGoSaid : Prop := valueGoRow.holds Tryd.pinned (OpenSpec.ofChange valueGoSpec)

/-- ITS FALSE NEIGHBOUR: 'it returns false'. Refute it at one input. -/
def valueGoWrong : ChangeSpec := { name := "valueGo", fn := fun _ => fun
  | [d] => { results := [.lit (.bool false)], args := [d] }
  | _ => none }
def ValueGoWrongFalsely : Prop := valueGoRow.holds Tryd.pinned (OpenSpec.ofChange valueGoWrong)

/-- 'assayerlaw14.ValueUnions': WHATEVER THE INPUT: true; the input reads as it did. -/
def valueUnionsSpec : ChangeSpec := { name := "valueUnions", fn := fun _ => fun
  | [d1, d2] => { results := [.lit (.bool true)], args := [d1, d2] }
  | _ => none }
def valueUnionsRow : OpenClaim := { program := "ytnfelopknfdpfaadoor", sum := "64c14a361ab139eba101138c96a6d0b8e19e53174f8ffde1fc6cacd5f985b928", func := "assayer/assayerlaw14.ValueUnions", spec := "valueUnions", inPlace := ["internal/bytealg.IndexByteString", "internal/bytealg.IndexString", "internal/bytealg.abigen_runtime_cmpstring"], unfollowed := true, recurses := true, named := ["assayer/kind.words", "internal/bytealg.MaxLen", "unicode/utf8.first", "unicode/utf8.acceptRanges"], plainKeys := false, apart := false, laid := [("unicode/utf8.acceptRanges", laid_unicode_utf8_acceptRanges), ("assayer/kind.words", laid_assayer_kind_words), ("unicode/utf8.first", laid_unicode_utf8_first)] }
def ValueUnionsSaid : Prop := valueUnionsRow.holds Tryd.pinned (OpenSpec.ofChange valueUnionsSpec)

/-- ITS FALSE NEIGHBOUR: 'it returns false'. Refute it at one input. -/
def valueUnionsWrong : ChangeSpec := { name := "valueUnions", fn := fun _ => fun
  | [d1, d2] => { results := [.lit (.bool false)], args := [d1, d2] }
  | _ => none }
def ValueUnionsWrongFalsely : Prop := valueUnionsRow.holds Tryd.pinned (OpenSpec.ofChange valueUnionsWrong)

/- THE SECOND FORM. 'bulk': how many values and letters a reading holds, each counted each time it is reached (what is shared counts as often as it is met; a slice's spare places count too). A statement '..UptoSaid' is the law's where the arguments, and the package variables that the reading takes, are together of bulk at most 1048576: NARROWER than '..Said'. Prove '..Said' where nothing that the law and all that it calls make is longer than what came in: it says more and counts as full. Else prove '..UptoSaid'. A law counts once. -/
mutual
def uptoBulk {H : Type} : DataW H → Nat
  | .lit (.string bytes) => bytes.length + 1
  | .lit _ => 1
  | .nil => 1
  | .ptr d => uptoBulk d + 1
  | .slice elems spare => uptoBulkAll elems + uptoBulkAll spare + 1
  | .agg parts => uptoBulkAll parts + 1
  | .iface _ d => uptoBulk d + 1
  | .map entries => uptoBulkEntries entries + 1
  | .held _ => 1
def uptoBulkAll {H : Type} : List (DataW H) → Nat
  | [] => 0
  | d :: r => uptoBulk d + uptoBulkAll r
def uptoBulkEntries {H : Type} : List (Lit × DataW H) → Nat
  | [] => 0
  | x :: r => uptoBulkEntry x + uptoBulkEntries r
def uptoBulkEntry {H : Type} : Lit × DataW H → Nat
  | (.string bytes, d) => bytes.length + uptoBulk d + 1
  | (_, d) => uptoBulk d + 1
 end
def uptoSmall : (H : Type) → List (DataW H) → Bool := fun _ ds => decide (uptoBulkAll ds ≤ 1048576)
def OpenSpec.upto (s : _root_.Go.ChangeSpec) : _root_.Go.OpenSpec := { _root_.Go.OpenSpec.ofChange s with cond := some uptoSmall }

/-- 'assayerlaw14.ValueRanges', WHERE WHAT IT READS IS OF BULK AT MOST 1048576: true; the input reads as it did. -/
def valueRangesUptoRow : OpenClaim := { program := "ytnfelopknfdpfaadoor", sum := "64c14a361ab139eba101138c96a6d0b8e19e53174f8ffde1fc6cacd5f985b928", func := "assayer/assayerlaw14.ValueRanges", spec := "valueRanges", inPlace := ["internal/bytealg.IndexByteString", "internal/bytealg.IndexString", "internal/bytealg.abigen_runtime_cmpstring"], unfollowed := true, recurses := true, named := ["assayer/kind.words", "internal/bytealg.MaxLen", "unicode/utf8.first", "unicode/utf8.acceptRanges"], plainKeys := false, apart := false, laid := [("unicode/utf8.acceptRanges", laid_unicode_utf8_acceptRanges), ("assayer/kind.words", laid_assayer_kind_words), ("unicode/utf8.first", laid_unicode_utf8_first)], narrowed := true }
def ValueRangesUptoSaid : Prop := valueRangesUptoRow.holds Tryd.pinned (OpenSpec.upto valueRangesSpec)

/-- 'assayerlaw14.ValueGo', WHERE WHAT IT READS IS OF BULK AT MOST 1048576: true; the input reads as it did. -/
def valueGoUptoRow : OpenClaim := { program := "ytnfelopknfdpfaadoor", sum := "64c14a361ab139eba101138c96a6d0b8e19e53174f8ffde1fc6cacd5f985b928", func := "assayer/assayerlaw14.ValueGo", spec := "valueGo", inPlace := ["internal/bytealg.IndexByteString", "internal/bytealg.IndexString", "internal/bytealg.abigen_runtime_cmpstring"], unfollowed := true, recurses := true, named := ["assayer/kind.words", "internal/bytealg.MaxLen", "unicode/utf8.first", "unicode/utf8.acceptRanges"], plainKeys := false, apart := false, laid := [("unicode/utf8.acceptRanges", laid_unicode_utf8_acceptRanges), ("assayer/kind.words", laid_assayer_kind_words), ("unicode/utf8.first", laid_unicode_utf8_first)], narrowed := true }
def ValueGoUptoSaid : Prop := valueGoUptoRow.holds Tryd.pinned (OpenSpec.upto valueGoSpec)

/-- 'assayerlaw14.ValueUnions', WHERE WHAT IT READS IS OF BULK AT MOST 1048576: true; the input reads as it did. -/
def valueUnionsUptoRow : OpenClaim := { program := "ytnfelopknfdpfaadoor", sum := "64c14a361ab139eba101138c96a6d0b8e19e53174f8ffde1fc6cacd5f985b928", func := "assayer/assayerlaw14.ValueUnions", spec := "valueUnions", inPlace := ["internal/bytealg.IndexByteString", "internal/bytealg.IndexString", "internal/bytealg.abigen_runtime_cmpstring"], unfollowed := true, recurses := true, named := ["assayer/kind.words", "internal/bytealg.MaxLen", "unicode/utf8.first", "unicode/utf8.acceptRanges"], plainKeys := false, apart := false, laid := [("unicode/utf8.acceptRanges", laid_unicode_utf8_acceptRanges), ("assayer/kind.words", laid_assayer_kind_words), ("unicode/utf8.first", laid_unicode_utf8_first)], narrowed := true }
def ValueUnionsUptoSaid : Prop := valueUnionsUptoRow.holds Tryd.pinned (OpenSpec.upto valueUnionsSpec)

end Rows
end Go.Proofs.YtnfelopknfdpfaaDoor
