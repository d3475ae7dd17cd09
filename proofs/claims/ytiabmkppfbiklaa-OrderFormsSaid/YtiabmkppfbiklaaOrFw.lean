/- The walk of OrderForms, whole. -/
import Derived.Test.YtiabmkppfbiklaaOrF
import Derived.Test.YtiabmkppfbiklaaOrIs
set_option linter.unusedVariables false
namespace Go.Proofs.Ytiabmkppfbiklaa
open Go.RowKit

theorem OrderForms_walk (w : World) : Calls Try.prog 4 #[] w fun e w' => e = .returned (.bool true) ∧ Below w.heap.size w w' :=
  OrderForms_of Cmp_any Normal_any Is_any Copy_any w
end Go.Proofs.Ytiabmkppfbiklaa
