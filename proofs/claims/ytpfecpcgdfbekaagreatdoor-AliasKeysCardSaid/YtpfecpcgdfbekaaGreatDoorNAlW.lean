/- AliasKeys' texts, reckoned. Plain. -/
import Derived.Test.YtpfecpcgdfbekaaGreatDoorR07
set_option linter.unusedVariables false
set_option linter.unusedSimpArgs false
namespace Go.Proofs.YtpfecpcgdfbekaaGreatDoor

def keE : List (List UInt8) := [[98, 111, 111, 108], [105, 56], [105, 49, 54], [105, 51, 50], [105, 54, 52], [100, 111, 117, 98, 108, 101], [115, 116, 114, 105, 110, 103], [98, 105, 110, 97, 114, 121], [69], [80], [85], [88], [108, 105, 115, 116, 60, 105, 56, 62], [115, 101, 116, 60, 105, 56, 62], [109, 97, 112, 60, 105, 56, 44, 105, 56, 62]]
def keN (i : Nat) : List UInt8 := [84, UInt8.ofNat (97 + i)]
def keT (k : Nat) : Nat → List UInt8
  | 0 => keE.getD k []
  | i + 1 => keN i
def keS (k : Nat) : Nat → List UInt8
  | 0 => [101, 110, 117, 109, 32, 69, 32, 123, 65, 125, 32, 115, 116, 114, 117, 99, 116, 32, 80, 32, 123, 125, 32, 117, 110, 105, 111, 110, 32, 85, 32, 123, 49, 58, 32, 105, 56, 32, 97, 125, 32, 101, 120, 99, 101, 112, 116, 105, 111, 110, 32, 88, 32, 123, 125]
  | i + 1 => keS k i ++ [32, 116, 121, 112, 101, 100, 101, 102, 32] ++ keT k i ++ [32] ++ keN i
def keL (k j : Nat) := loadW [97] [([97], keS k j)]
def keW (k j : Nat) : List UInt8 := (typP (keL k j).names (keL k j).files [97] (keT k j)).1
def key2 (names : List (List UInt8)) (files : List Fil) (t : List UInt8) (e : Nat) : Bool := decide ((resW names files 60 [] [97] t).e ≠ 99) && decide ((typP names files [97] t).2.2 = e)
def keB (k j : Nat) : Bool := txqB [([97], keS k j)] && decide ((keL k j).e = 0) && decide ((keL k j).file = []) && decide ((keL k j).at_ = 0) && decide ((keL k j).names.length = 1) && ldB (keL k j).names (keL k j).files &&
  key2 (keL k j).names (keL k j).files ([115, 101, 116, 60] ++ keT k j ++ [62]) (if 8 < k then 11 else 0) && key2 (keL k j).names (keL k j).files ([109, 97, 112, 60] ++ keT k j ++ [44, 105, 56, 62]) (if 8 < k then 11 else 0) && key2 (keL k j).names (keL k j).files (keT k j) 0 && key2 (keL k j).names (keL k j).files ([109, 97, 112, 60, 105, 56, 44] ++ keT k j ++ [62]) 0 &&
  decide ((keW k j).length ≤ 8000) && decide ((resW (keL k j).names (keL k j).files 60 [] ((keW k j).take (partN (keW k j))) (keW k j)).e ≠ 99) && decide (keyP (keL k j).names (keL k j).files (keW k j) = decide (k ≤ 8))
set_option maxRecDepth 100000 in
theorem ke_all : ∀ k ∈ List.range 15, ∀ j ∈ List.range 6, keB k j = true := by decide +kernel
theorem ke_len : ∀ k ∈ List.range 15, ∀ j ∈ List.range 6, (keT k j).length ≤ 20 ∧ (keS k j).length ≤ 1000 := by decide +kernel
end Go.Proofs.YtpfecpcgdfbekaaGreatDoor
