/- The texts of scope's laws, reckoned. Plain. -/
import Derived.Test.YtdfiedcajlgglaaGreatDoorNScR
set_option linter.unusedVariables false
set_option linter.unusedSimpArgs false
namespace Go.Proofs.YtdfiedcajlgglaaGreatDoor

def bgX : List (List UInt8 × List UInt8) := [([97], [105, 110, 99, 108, 117, 100, 101, 32, 39, 98, 39, 32, 101, 110, 117, 109, 32, 69, 32, 123, 88, 125]), ([98], [115, 116, 114, 117, 99, 116, 32, 67, 32, 123, 125, 32, 115, 116, 114, 117, 99, 116, 32, 67, 32, 123, 125])]
def bgN : List (List UInt8) := (loadW [97] bgX).names
def bgF : List Fil := (loadW [97] bgX).files
theorem bg_ok : txsB bgX = true ∧ (loadW [97] bgX).e = 0 ∧ (loadW [97] bgX).file = [] ∧ (loadW [97] bgX).at_ = 0 ∧ bgN.length = 2 ∧ ldB bgN bgF = true := by decide +kernel
theorem bg_find : whoF bgN bgF (findP bgN bgF [97] [98, 46, 67]) = ([98, 46, 67], [98], 0, [67]) := by decide +kernel
theorem bg_const : (whoC bgN bgF (constP bgN bgF [97] [69, 46, 88])).2 = ([88], 0) := by decide +kernel
theorem bg_twice : twP bgN bgF = some ([98], [67]) := by decide +kernel
def sfX : List (List UInt8 × List UInt8) := [([97], [105, 110, 99, 108, 117, 100, 101, 32, 39, 98, 39, 32, 99, 111, 110, 115, 116, 32, 105, 56, 32, 88, 32, 61, 32, 49, 32, 101, 110, 117, 109, 32, 98, 32, 123, 88, 125, 32, 101, 110, 117, 109, 32, 70, 32, 123, 71, 125]), ([98], [105, 110, 99, 108, 117, 100, 101, 32, 39, 99, 39, 32, 99, 111, 110, 115, 116, 32, 105, 56, 32, 88, 32, 61, 32, 50, 32, 101, 110, 117, 109, 32, 69, 32, 123, 89, 125]), ([99], [101, 110, 117, 109, 32, 69, 32, 123, 89, 125, 32, 99, 111, 110, 115, 116, 32, 105, 56, 32, 90, 32, 61, 32, 49])]
def sfN : List (List UInt8) := (loadW [97] sfX).names
def sfF : List Fil := (loadW [97] sfX).files
def sfR : List (List UInt8) := [[88], [98, 46, 88], [98, 46, 69, 46, 89], [98, 46, 69, 46, 90], [70, 46, 71], [97, 46, 70, 46, 71], [99, 46, 90], [99, 46, 69, 46, 89], [69, 46, 89], [97, 46, 88], [97, 46, 98, 46, 88], [98, 46, 98, 46, 88], [70], [98, 46, 69]]
def sfW : List (List UInt8) := [[97, 46, 88], [98, 46, 88], [98, 46, 69], [], [97, 46, 70], [97, 46, 70], [], [], [], [97, 46, 88], [97, 46, 98], [], [], []]
def sfM : List (List UInt8) := [[], [], [89], [], [71], [71], [], [], [], [], [88], [], [], []]
theorem sf_ok : txsB sfX = true ∧ (loadW [97] sfX).e = 0 ∧ (loadW [97] sfX).file = [] ∧ (loadW [97] sfX).at_ = 0 ∧ sfN.length = 3 ∧ ldB sfN sfF = true := by decide +kernel
theorem sf_all : ∀ i ∈ List.range 14, whoC sfN sfF (constP sfN sfF [97] (sfR.getD i [])) = (sfW.getD i [], sfM.getD i [], if sfW.getD i [] = [] then 7 else 0) ∧ (sfR.getD i []).length ≤ 8000 := by decide +kernel
theorem sf_f1 : whoF sfN sfF (findP sfN sfF [98] [99, 46, 69]) = ([99, 46, 69], [99], 0, [69]) := by decide +kernel
theorem sf_f2 : (whoF sfN sfF (findP sfN sfF [97] [99, 46, 69])).2.2.1 = 7 := by decide +kernel
theorem sf_f3 : (whoF sfN sfF (findP sfN sfF [110, 111, 110, 101] [69])).2.2.1 = 7 := by decide +kernel
theorem sf_tw : twP sfN sfF = none := by decide +kernel
end Go.Proofs.YtdfiedcajlgglaaGreatDoor
