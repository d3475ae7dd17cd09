/-
  No cell of these rows narrows 'for every input' (looked for: loops, veiled, ifaces, maps, wideKeys, modest, calm, conditions, laid).
  DERIVED. THE GIVEN ROWS OF THIS SEAT. 5 by the template 'for every input the law returns true; each argument reads behind the call as it read before'; 0 by the template 'total and deterministic' (their statements: YtdgeiaiflkpjmaaTotals.lean).
  GIVEN WITH THE SEED: the statements are not yours to turn. If you find one false, say at which input.
  Laid BY PROGRAM, IN A SANDBOX (cutbox-rows.mjs): the forced cells as the released guide's own fill.sh prints them over the translation b04776a354f80d03… (all of the seat's roots in one cut). By AI agents, Wed Nov 11 2026. No macro, syntax, notation, axiom, sorry.
-/
import Derived.Test.YtdgeiaiflkpjmaaChecked
import GoSem.Claim
import GoSem.ClaimJoined
import GoSem.ClaimMapViews
import Derived.JoinedTies
import Derived.KernelRfl
namespace Go.Proofs.Ytdgeiaiflkpjmaa
/- THE CELL 'sum', in the pinned program and in every row, IS THE sha256 OF THE DUMP (.gsa) THAT YtdgeiaiflkpjmaaProg.lean LOADS. Nothing in Lean hashes anything: it is a label: what it is worth is what the hold of that sum in a sandbox is worth. -/
noncomputable def Try.pinned : Pinned := { name := "ytdgeiaiflkpjmaa", sum := "b04776a354f80d03e932bd1d497f596c012e4cc8d2b21848dcf20388cb8e5abf", checked := Try.checked }
namespace Rows
def none {H : Type} : Left H := { results := [], args := [] }

/-- 'assayerlaw2.ZigAll': WHATEVER THE INPUT: true; the input reads as it did. -/
def zigAllSpec : ChangeSpec := { name := "zigAll", fn := fun _ => fun
  | [d1, d2, d3, d4, d5, d6] => { results := [.lit (.bool true)], args := [d1, d2, d3, d4, d5, d6] }
  | _ => none }
def zigAllRow : OpenClaim := { program := "ytdgeiaiflkpjmaa", sum := "b04776a354f80d03e932bd1d497f596c012e4cc8d2b21848dcf20388cb8e5abf", func := "assayer/assayerlaw2.ZigAll", spec := "zigAll", apart := false }
def ZigAllSaid : Prop := zigAllRow.holds Try.pinned (OpenSpec.ofChange zigAllSpec)

/-- ITS FALSE NEIGHBOUR: 'it returns false'. Refute it at one input. -/
def zigAllWrong : ChangeSpec := { name := "zigAll", fn := fun _ => fun
  | [d1, d2, d3, d4, d5, d6] => { results := [.lit (.bool false)], args := [d1, d2, d3, d4, d5, d6] }
  | _ => none }
def ZigAllWrongFalsely : Prop := zigAllRow.holds Try.pinned (OpenSpec.ofChange zigAllWrong)

/-- 'assayerlaw2.ZigBack': WHATEVER THE INPUT: true; the input reads as it did. -/
def zigBackSpec : ChangeSpec := { name := "zigBack", fn := fun _ => fun
  | [d1, d2, d3, d4] => { results := [.lit (.bool true)], args := [d1, d2, d3, d4] }
  | _ => none }
def zigBackRow : OpenClaim := { program := "ytdgeiaiflkpjmaa", sum := "b04776a354f80d03e932bd1d497f596c012e4cc8d2b21848dcf20388cb8e5abf", func := "assayer/assayerlaw2.ZigBack", spec := "zigBack", apart := false }
def ZigBackSaid : Prop := zigBackRow.holds Try.pinned (OpenSpec.ofChange zigBackSpec)

/-- ITS FALSE NEIGHBOUR: 'it returns false'. Refute it at one input. -/
def zigBackWrong : ChangeSpec := { name := "zigBack", fn := fun _ => fun
  | [d1, d2, d3, d4] => { results := [.lit (.bool false)], args := [d1, d2, d3, d4] }
  | _ => none }
def ZigBackWrongFalsely : Prop := zigBackRow.holds Try.pinned (OpenSpec.ofChange zigBackWrong)

/-- 'assayerlaw2.ZigTakes': WHATEVER THE INPUT: true; the input reads as it did. -/
def zigTakesSpec : ChangeSpec := { name := "zigTakes", fn := fun _ => fun
  | [d1, d2, d3, d4] => { results := [.lit (.bool true)], args := [d1, d2, d3, d4] }
  | _ => none }
def zigTakesRow : OpenClaim := { program := "ytdgeiaiflkpjmaa", sum := "b04776a354f80d03e932bd1d497f596c012e4cc8d2b21848dcf20388cb8e5abf", func := "assayer/assayerlaw2.ZigTakes", spec := "zigTakes", apart := false }
def ZigTakesSaid : Prop := zigTakesRow.holds Try.pinned (OpenSpec.ofChange zigTakesSpec)

/-- ITS FALSE NEIGHBOUR: 'it returns false'. Refute it at one input. -/
def zigTakesWrong : ChangeSpec := { name := "zigTakes", fn := fun _ => fun
  | [d1, d2, d3, d4] => { results := [.lit (.bool false)], args := [d1, d2, d3, d4] }
  | _ => none }
def ZigTakesWrongFalsely : Prop := zigTakesRow.holds Try.pinned (OpenSpec.ofChange zigTakesWrong)

/-- 'assayerlaw2.ZigForms': WHATEVER THE INPUT: true; the input reads as it did. -/
def zigFormsSpec : ChangeSpec := { name := "zigForms", fn := fun _ => fun
  | [] => { results := [.lit (.bool true)], args := [] }
  | _ => none }
def zigFormsRow : OpenClaim := { program := "ytdgeiaiflkpjmaa", sum := "b04776a354f80d03e932bd1d497f596c012e4cc8d2b21848dcf20388cb8e5abf", func := "assayer/assayerlaw2.ZigForms", spec := "zigForms", apart := false }
def ZigFormsSaid : Prop := zigFormsRow.holds Try.pinned (OpenSpec.ofChange zigFormsSpec)

/-- ITS FALSE NEIGHBOUR: 'it returns false'. Refute it at one input. -/
def zigFormsWrong : ChangeSpec := { name := "zigForms", fn := fun _ => fun
  | [] => { results := [.lit (.bool false)], args := [] }
  | _ => none }
def ZigFormsWrongFalsely : Prop := zigFormsRow.holds Try.pinned (OpenSpec.ofChange zigFormsWrong)

/-- 'assayerlaw2.ZigSmall': WHATEVER THE INPUT: true; the input reads as it did. -/
def zigSmallSpec : ChangeSpec := { name := "zigSmall", fn := fun _ => fun
  | [d] => { results := [.lit (.bool true)], args := [d] }
  | _ => none }
def zigSmallRow : OpenClaim := { program := "ytdgeiaiflkpjmaa", sum := "b04776a354f80d03e932bd1d497f596c012e4cc8d2b21848dcf20388cb8e5abf", func := "assayer/assayerlaw2.ZigSmall", spec := "zigSmall", apart := false }
def ZigSmallSaid : Prop := zigSmallRow.holds Try.pinned (OpenSpec.ofChange zigSmallSpec)

/-- ITS FALSE NEIGHBOUR: 'it returns false'. Refute it at one input. -/
def zigSmallWrong : ChangeSpec := { name := "zigSmall", fn := fun _ => fun
  | [d] => { results := [.lit (.bool false)], args := [d] }
  | _ => none }
def ZigSmallWrongFalsely : Prop := zigSmallRow.holds Try.pinned (OpenSpec.ofChange zigSmallWrong)

/- THE SECOND FORM. 'bulk': how many values and letters a reading holds, each counted each time it is reached (what is shared counts as often as it is met; a slice's spare places count too). A statement '..UptoSaid' is the law's where the arguments, and the package variables that the reading takes, are together of bulk at most 1048576: NARROWER than '..Said'. Prove '..Said' where nothing that the law and all that it calls make is longer than what came in: it says more and counts as full. Else prove '..UptoSaid'. A law counts once. -/
mutual
def uptoBulk {H : Type} : DataW H → Nat
  | .lit (.string bytes) => bytes.length + 1
  | .lit _ => 1
  | .nil => 1
  | .ptr d => uptoBulk d + 1
  | .slice elems spare => uptoBulkAll elems + uptoBulkAll spare + 1
  | .agg parts => uptoBulkAll parts + 1
  | .iface _ d => uptoBulk d + 1
  | .map entries => uptoBulkEntries entries + 1
  | .held _ => 1
def uptoBulkAll {H : Type} : List (DataW H) → Nat
  | [] => 0
  | d :: r => uptoBulk d + uptoBulkAll r
def uptoBulkEntries {H : Type} : List (Lit × DataW H) → Nat
  | [] => 0
  | x :: r => uptoBulkEntry x + uptoBulkEntries r
def uptoBulkEntry {H : Type} : Lit × DataW H → Nat
  | (.string bytes, d) => bytes.length + uptoBulk d + 1
  | (_, d) => uptoBulk d + 1
 end
def uptoSmall : (H : Type) → List (DataW H) → Bool := fun _ ds => decide (uptoBulkAll ds ≤ 1048576)
def OpenSpec.upto (s : _root_.Go.ChangeSpec) : _root_.Go.OpenSpec := { _root_.Go.OpenSpec.ofChange s with cond := some uptoSmall }

/-- 'assayerlaw2.ZigAll', WHERE WHAT IT READS IS OF BULK AT MOST 1048576: true; the input reads as it did. -/
def zigAllUptoRow : OpenClaim := { program := "ytdgeiaiflkpjmaa", sum := "b04776a354f80d03e932bd1d497f596c012e4cc8d2b21848dcf20388cb8e5abf", func := "assayer/assayerlaw2.ZigAll", spec := "zigAll", apart := false, narrowed := true }
def ZigAllUptoSaid : Prop := zigAllUptoRow.holds Try.pinned (OpenSpec.upto zigAllSpec)

/-- 'assayerlaw2.ZigBack', WHERE WHAT IT READS IS OF BULK AT MOST 1048576: true; the input reads as it did. -/
def zigBackUptoRow : OpenClaim := { program := "ytdgeiaiflkpjmaa", sum := "b04776a354f80d03e932bd1d497f596c012e4cc8d2b21848dcf20388cb8e5abf", func := "assayer/assayerlaw2.ZigBack", spec := "zigBack", apart := false, narrowed := true }
def ZigBackUptoSaid : Prop := zigBackUptoRow.holds Try.pinned (OpenSpec.upto zigBackSpec)

/-- 'assayerlaw2.ZigTakes', WHERE WHAT IT READS IS OF BULK AT MOST 1048576: true; the input reads as it did. -/
def zigTakesUptoRow : OpenClaim := { program := "ytdgeiaiflkpjmaa", sum := "b04776a354f80d03e932bd1d497f596c012e4cc8d2b21848dcf20388cb8e5abf", func := "assayer/assayerlaw2.ZigTakes", spec := "zigTakes", apart := false, narrowed := true }
def ZigTakesUptoSaid : Prop := zigTakesUptoRow.holds Try.pinned (OpenSpec.upto zigTakesSpec)

/-- 'assayerlaw2.ZigForms', WHERE WHAT IT READS IS OF BULK AT MOST 1048576: true; the input reads as it did. -/
def zigFormsUptoRow : OpenClaim := { program := "ytdgeiaiflkpjmaa", sum := "b04776a354f80d03e932bd1d497f596c012e4cc8d2b21848dcf20388cb8e5abf", func := "assayer/assayerlaw2.ZigForms", spec := "zigForms", apart := false, narrowed := true }
def ZigFormsUptoSaid : Prop := zigFormsUptoRow.holds Try.pinned (OpenSpec.upto zigFormsSpec)

/-- 'assayerlaw2.ZigSmall', WHERE WHAT IT READS IS OF BULK AT MOST 1048576: true; the input reads as it did. -/
def zigSmallUptoRow : OpenClaim := { program := "ytdgeiaiflkpjmaa", sum := "b04776a354f80d03e932bd1d497f596c012e4cc8d2b21848dcf20388cb8e5abf", func := "assayer/assayerlaw2.ZigSmall", spec := "zigSmall", apart := false, narrowed := true }
def ZigSmallUptoSaid : Prop := zigSmallUptoRow.holds Try.pinned (OpenSpec.upto zigSmallSpec)

end Rows
end Go.Proofs.Ytdgeiaiflkpjmaa
