/-
  NARROWER THAN 'FOR EVERY INPUT', by the rows' own cells (each row's printed sentence says how): KindAll: laid · KindBack: laid · KindNests: laid · KindForms: laid · KindNames: laid.
  DERIVED. THE GIVEN ROWS OF THIS SEAT. 5 by the template 'for every input the law returns true; each argument reads behind the call as it read before'; 0 by the template 'total and deterministic' (their statements: YtpaacfoiiihbeaaDoorTotals.lean).
  GIVEN WITH THE SEED: the statements are not yours to turn. If you find one false, say at which input.
  Laid BY PROGRAM, IN A SANDBOX (cutbox-rows.mjs): the forced cells as the released guide's own fill.sh prints them over the translation 0fb9acacf6709a62… (all of the seat's roots in one cut). By AI agents, Wed Nov 11 2026. No macro, syntax, notation, axiom, sorry.
-/
import Derived.Test.YtpaacfoiiihbeaaDoorChecked
import GoSem.Claim
import GoSem.ClaimJoined
import GoSem.ClaimMapViews
import Derived.JoinedTies
import Derived.KernelRfl
namespace Go.Proofs.YtpaacfoiiihbeaaDoor
/- THE CELL 'sum', in the pinned program and in every row, IS THE sha256 OF THE DUMP (.gsa) THAT YtpaacfoiiihbeaaDoorProg.lean LOADS. Nothing in Lean hashes anything: it is a label: what it is worth is what the hold of that sum in a sandbox is worth. -/
noncomputable def Tryd.pinned : Pinned := { name := "ytpaacfoiiihbeaadoor", sum := "0fb9acacf6709a6268b2b7a02d5e7d20649734d4b10f0a57b0f044da5d9d7fc9", checked := Tryd.checked }
namespace Rows
def none {H : Type} : Left H := { results := [], args := [] }

/- WHAT THE LISTED PACKAGE-LEVEL VARIABLES READ AS WHEN THE CALL BEGINS. Each datum BY PROGRAM (the guide's laid-datum.mjs) off the statement by which the dump's own 'gosem.cut.vars' lays the variable. In a bare row this is a premise. The card (YtpaacfoiiihbeaaDoorCards.lean) ties it to the program's text. -/
def laid_assayer_kind_words {H : Type} : DataW H := .agg [.lit (.string []), .lit (.string []), .lit (.string [98, 111, 111, 108]), .lit (.string [105, 56]), .lit (.string [100, 111, 117, 98, 108, 101]), .lit (.string []), .lit (.string [105, 49, 54]), .lit (.string []), .lit (.string [105, 51, 50]), .lit (.string []), .lit (.string [105, 54, 52]), .lit (.string [115, 116, 114, 105, 110, 103]), .lit (.string []), .lit (.string [109, 97, 112]), .lit (.string [115, 101, 116]), .lit (.string [108, 105, 115, 116]), .lit (.string [98, 105, 110, 97, 114, 121])]

/-- 'assayerlaw6.KindAll': WHATEVER THE INPUT: true; the input reads as it did. -/
def kindAllSpec : ChangeSpec := { name := "kindAll", fn := fun _ => fun
  | [d1, d2] => { results := [.lit (.bool true)], args := [d1, d2] }
  | _ => none }
def kindAllRow : OpenClaim := { program := "ytpaacfoiiihbeaadoor", sum := "0fb9acacf6709a6268b2b7a02d5e7d20649734d4b10f0a57b0f044da5d9d7fc9", func := "assayer/assayerlaw6.KindAll", spec := "kindAll", inPlace := ["internal/bytealg.IndexByteString", "internal/bytealg.IndexString"], recurses := true, named := ["assayer/kind.words", "internal/bytealg.MaxLen"], plainKeys := false, apart := false, laid := [("assayer/kind.words", laid_assayer_kind_words)] }
def KindAllSaid : Prop := kindAllRow.holds Tryd.pinned (OpenSpec.ofChange kindAllSpec)

/-- ITS FALSE NEIGHBOUR: 'it returns false'. Refute it at one input. -/
def kindAllWrong : ChangeSpec := { name := "kindAll", fn := fun _ => fun
  | [d1, d2] => { results := [.lit (.bool false)], args := [d1, d2] }
  | _ => none }
def KindAllWrongFalsely : Prop := kindAllRow.holds Tryd.pinned (OpenSpec.ofChange kindAllWrong)

/-- 'assayerlaw6.KindBack': WHATEVER THE INPUT: true; the input reads as it did. -/
def kindBackSpec : ChangeSpec := { name := "kindBack", fn := fun _ => fun
  | [d] => { results := [.lit (.bool true)], args := [d] }
  | _ => none }
def kindBackRow : OpenClaim := { program := "ytpaacfoiiihbeaadoor", sum := "0fb9acacf6709a6268b2b7a02d5e7d20649734d4b10f0a57b0f044da5d9d7fc9", func := "assayer/assayerlaw6.KindBack", spec := "kindBack", inPlace := ["internal/bytealg.IndexByteString", "internal/bytealg.IndexString"], recurses := true, named := ["assayer/kind.words", "internal/bytealg.MaxLen"], plainKeys := false, apart := false, laid := [("assayer/kind.words", laid_assayer_kind_words)] }
def KindBackSaid : Prop := kindBackRow.holds Tryd.pinned (OpenSpec.ofChange kindBackSpec)

/-- ITS FALSE NEIGHBOUR: 'it returns false'. Refute it at one input. -/
def kindBackWrong : ChangeSpec := { name := "kindBack", fn := fun _ => fun
  | [d] => { results := [.lit (.bool false)], args := [d] }
  | _ => none }
def KindBackWrongFalsely : Prop := kindBackRow.holds Tryd.pinned (OpenSpec.ofChange kindBackWrong)

/-- 'assayerlaw6.KindNests': WHATEVER THE INPUT: true; the input reads as it did. -/
def kindNestsSpec : ChangeSpec := { name := "kindNests", fn := fun _ => fun
  | [d] => { results := [.lit (.bool true)], args := [d] }
  | _ => none }
def kindNestsRow : OpenClaim := { program := "ytpaacfoiiihbeaadoor", sum := "0fb9acacf6709a6268b2b7a02d5e7d20649734d4b10f0a57b0f044da5d9d7fc9", func := "assayer/assayerlaw6.KindNests", spec := "kindNests", inPlace := ["internal/bytealg.IndexByteString", "internal/bytealg.IndexString"], recurses := true, named := ["assayer/kind.words", "internal/bytealg.MaxLen"], plainKeys := false, apart := false, laid := [("assayer/kind.words", laid_assayer_kind_words)] }
def KindNestsSaid : Prop := kindNestsRow.holds Tryd.pinned (OpenSpec.ofChange kindNestsSpec)

/-- ITS FALSE NEIGHBOUR: 'it returns false'. Refute it at one input. -/
def kindNestsWrong : ChangeSpec := { name := "kindNests", fn := fun _ => fun
  | [d] => { results := [.lit (.bool false)], args := [d] }
  | _ => none }
def KindNestsWrongFalsely : Prop := kindNestsRow.holds Tryd.pinned (OpenSpec.ofChange kindNestsWrong)

/-- 'assayerlaw6.KindForms': WHATEVER THE INPUT: true; the input reads as it did. -/
def kindFormsSpec : ChangeSpec := { name := "kindForms", fn := fun _ => fun
  | [] => { results := [.lit (.bool true)], args := [] }
  | _ => none }
def kindFormsRow : OpenClaim := { program := "ytpaacfoiiihbeaadoor", sum := "0fb9acacf6709a6268b2b7a02d5e7d20649734d4b10f0a57b0f044da5d9d7fc9", func := "assayer/assayerlaw6.KindForms", spec := "kindForms", inPlace := ["internal/bytealg.IndexByteString", "internal/bytealg.IndexString"], recurses := true, named := ["assayer/kind.words", "internal/bytealg.MaxLen"], plainKeys := false, apart := false, laid := [("assayer/kind.words", laid_assayer_kind_words)] }
def KindFormsSaid : Prop := kindFormsRow.holds Tryd.pinned (OpenSpec.ofChange kindFormsSpec)

/-- ITS FALSE NEIGHBOUR: 'it returns false'. Refute it at one input. -/
def kindFormsWrong : ChangeSpec := { name := "kindForms", fn := fun _ => fun
  | [] => { results := [.lit (.bool false)], args := [] }
  | _ => none }
def KindFormsWrongFalsely : Prop := kindFormsRow.holds Tryd.pinned (OpenSpec.ofChange kindFormsWrong)

/-- 'assayerlaw6.KindNames': WHATEVER THE INPUT: true; the input reads as it did. -/
def kindNamesSpec : ChangeSpec := { name := "kindNames", fn := fun _ => fun
  | [d] => { results := [.lit (.bool true)], args := [d] }
  | _ => none }
def kindNamesRow : OpenClaim := { program := "ytpaacfoiiihbeaadoor", sum := "0fb9acacf6709a6268b2b7a02d5e7d20649734d4b10f0a57b0f044da5d9d7fc9", func := "assayer/assayerlaw6.KindNames", spec := "kindNames", inPlace := ["internal/bytealg.IndexByteString", "internal/bytealg.IndexString"], recurses := true, named := ["assayer/kind.words", "internal/bytealg.MaxLen"], plainKeys := false, apart := false, laid := [("assayer/kind.words", laid_assayer_kind_words)] }
def KindNamesSaid : Prop := kindNamesRow.holds Tryd.pinned (OpenSpec.ofChange kindNamesSpec)

/-- ITS FALSE NEIGHBOUR: 'it returns false'. Refute it at one input. -/
def kindNamesWrong : ChangeSpec := { name := "kindNames", fn := fun _ => fun
  | [d] => { results := [.lit (.bool false)], args := [d] }
  | _ => none }
def KindNamesWrongFalsely : Prop := kindNamesRow.holds Tryd.pinned (OpenSpec.ofChange kindNamesWrong)

/- THE SECOND FORM. 'bulk': how many values and letters a reading holds, each counted each time it is reached (what is shared counts as often as it is met; a slice's spare places count too). A statement '..UptoSaid' is the law's where the arguments, and the package variables that the reading takes, are together of bulk at most 1048576: NARROWER than '..Said'. Prove '..Said' where nothing that the law and all that it calls make is longer than what came in: it says more and counts as full. Else prove '..UptoSaid'. A law counts once. -/
mutual
def uptoBulk {H : Type} : DataW H → Nat
  | .lit (.string bytes) => bytes.length + 1
  | .lit _ => 1
  | .nil => 1
  | .ptr d => uptoBulk d + 1
  | .slice elems spare => uptoBulkAll elems + uptoBulkAll spare + 1
  | .agg parts => uptoBulkAll parts + 1
  | .iface _ d => uptoBulk d + 1
  | .map entries => uptoBulkEntries entries + 1
  | .held _ => 1
def uptoBulkAll {H : Type} : List (DataW H) → Nat
  | [] => 0
  | d :: r => uptoBulk d + uptoBulkAll r
def uptoBulkEntries {H : Type} : List (Lit × DataW H) → Nat
  | [] => 0
  | x :: r => uptoBulkEntry x + uptoBulkEntries r
def uptoBulkEntry {H : Type} : Lit × DataW H → Nat
  | (.string bytes, d) => bytes.length + uptoBulk d + 1
  | (_, d) => uptoBulk d + 1
 end
def uptoSmall : (H : Type) → List (DataW H) → Bool := fun _ ds => decide (uptoBulkAll ds ≤ 1048576)
def OpenSpec.upto (s : _root_.Go.ChangeSpec) : _root_.Go.OpenSpec := { _root_.Go.OpenSpec.ofChange s with cond := some uptoSmall }

/-- 'assayerlaw6.KindAll', WHERE WHAT IT READS IS OF BULK AT MOST 1048576: true; the input reads as it did. -/
def kindAllUptoRow : OpenClaim := { program := "ytpaacfoiiihbeaadoor", sum := "0fb9acacf6709a6268b2b7a02d5e7d20649734d4b10f0a57b0f044da5d9d7fc9", func := "assayer/assayerlaw6.KindAll", spec := "kindAll", inPlace := ["internal/bytealg.IndexByteString", "internal/bytealg.IndexString"], recurses := true, named := ["assayer/kind.words", "internal/bytealg.MaxLen"], plainKeys := false, apart := false, laid := [("assayer/kind.words", laid_assayer_kind_words)], narrowed := true }
def KindAllUptoSaid : Prop := kindAllUptoRow.holds Tryd.pinned (OpenSpec.upto kindAllSpec)

/-- 'assayerlaw6.KindBack', WHERE WHAT IT READS IS OF BULK AT MOST 1048576: true; the input reads as it did. -/
def kindBackUptoRow : OpenClaim := { program := "ytpaacfoiiihbeaadoor", sum := "0fb9acacf6709a6268b2b7a02d5e7d20649734d4b10f0a57b0f044da5d9d7fc9", func := "assayer/assayerlaw6.KindBack", spec := "kindBack", inPlace := ["internal/bytealg.IndexByteString", "internal/bytealg.IndexString"], recurses := true, named := ["assayer/kind.words", "internal/bytealg.MaxLen"], plainKeys := false, apart := false, laid := [("assayer/kind.words", laid_assayer_kind_words)], narrowed := true }
def KindBackUptoSaid : Prop := kindBackUptoRow.holds Tryd.pinned (OpenSpec.upto kindBackSpec)

/-- 'assayerlaw6.KindNests', WHERE WHAT IT READS IS OF BULK AT MOST 1048576: true; the input reads as it did. -/
def kindNestsUptoRow : OpenClaim := { program := "ytpaacfoiiihbeaadoor", sum := "0fb9acacf6709a6268b2b7a02d5e7d20649734d4b10f0a57b0f044da5d9d7fc9", func := "assayer/assayerlaw6.KindNests", spec := "kindNests", inPlace := ["internal/bytealg.IndexByteString", "internal/bytealg.IndexString"], recurses := true, named := ["assayer/kind.words", "internal/bytealg.MaxLen"], plainKeys := false, apart := false, laid := [("assayer/kind.words", laid_assayer_kind_words)], narrowed := true }
def KindNestsUptoSaid : Prop := kindNestsUptoRow.holds Tryd.pinned (OpenSpec.upto kindNestsSpec)

/-- 'assayerlaw6.KindForms', WHERE WHAT IT READS IS OF BULK AT MOST 1048576: true; the input reads as it did. -/
def kindFormsUptoRow : OpenClaim := { program := "ytpaacfoiiihbeaadoor", sum := "0fb9acacf6709a6268b2b7a02d5e7d20649734d4b10f0a57b0f044da5d9d7fc9", func := "assayer/assayerlaw6.KindForms", spec := "kindForms", inPlace := ["internal/bytealg.IndexByteString", "internal/bytealg.IndexString"], recurses := true, named := ["assayer/kind.words", "internal/bytealg.MaxLen"], plainKeys := false, apart := false, laid := [("assayer/kind.words", laid_assayer_kind_words)], narrowed := true }
def KindFormsUptoSaid : Prop := kindFormsUptoRow.holds Tryd.pinned (OpenSpec.upto kindFormsSpec)

/-- 'assayerlaw6.KindNames', WHERE WHAT IT READS IS OF BULK AT MOST 1048576: true; the input reads as it did. -/
def kindNamesUptoRow : OpenClaim := { program := "ytpaacfoiiihbeaadoor", sum := "0fb9acacf6709a6268b2b7a02d5e7d20649734d4b10f0a57b0f044da5d9d7fc9", func := "assayer/assayerlaw6.KindNames", spec := "kindNames", inPlace := ["internal/bytealg.IndexByteString", "internal/bytealg.IndexString"], recurses := true, named := ["assayer/kind.words", "internal/bytealg.MaxLen"], plainKeys := false, apart := false, laid := [("assayer/kind.words", laid_assayer_kind_words)], narrowed := true }
def KindNamesUptoSaid : Prop := kindNamesUptoRow.holds Tryd.pinned (OpenSpec.upto kindNamesSpec)

end Rows
end Go.Proofs.YtpaacfoiiihbeaaDoor
