/- The walk of OrderMaps, whole. -/
import Derived.Test.YtiabmkppfbiklaaOrX
import Derived.Test.YtiabmkppfbiklaaOrIs
set_option linter.unusedVariables false
namespace Go.Proofs.Ytiabmkppfbiklaa
open Go.RowKit

theorem OrderMaps_walk (a : Option Addr) (z : List Int) (cap : Nat) (t : Int) (w : World) (hr : Rd (Value.int .i8) w a z) (hl : z.length ≤ cap) (hm : cap ≤ maxLen) (hwf : ∀ n ∈ z, (Lit.int .i8 n).wf = true) (ht0 : 0 ≤ t) (ht1 : t ≤ 255) :
    Calls Try.prog 6 #[.slice a z.length cap, .int .u8 t] w fun e w' => e = .returned (.bool true) ∧ Below w.heap.size w w' :=
  OrderMaps_of Cmp_any Normal_any Is_any Copy_any a z cap t w hr hl hm hwf ht0 ht1
end Go.Proofs.Ytiabmkppfbiklaa
