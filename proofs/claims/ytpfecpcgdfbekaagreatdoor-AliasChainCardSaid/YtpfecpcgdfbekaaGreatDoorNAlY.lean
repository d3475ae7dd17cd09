/- AliasChain's texts, reckoned. Plain. -/
import Derived.Test.YtpfecpcgdfbekaaGreatDoorR07
set_option linter.unusedVariables false
set_option linter.unusedSimpArgs false
namespace Go.Proofs.YtpfecpcgdfbekaaGreatDoor

def chN (i : Nat) : List UInt8 := [UInt8.ofNat (97 + i)]
def chE : Option Nat → List UInt8
  | none => [105, 51, 50]
  | some j => chN j
def chX (k : Nat) (b : Option Nat) (i : Nat) : List UInt8 := if i + 1 = k then chE b else chN (i + 1)
def chT (k : Nat) (b : Option Nat) (deep : Bool) (i : Nat) : List UInt8 := if deep = true then [108, 105, 115, 116, 60] ++ chX k b i ++ [62] else chX k b i
def chS (k : Nat) (b : Option Nat) (deep : Bool) : Nat → List UInt8
  | 0 => []
  | i + 1 => [116, 121, 112, 101, 100, 101, 102, 32] ++ chT k b deep i ++ [32] ++ chN i ++ [10] ++ chS k b deep i
def chW : Nat → List UInt8
  | 0 => [105, 51, 50]
  | i + 1 => [108, 105, 115, 116, 60] ++ chW i ++ [62]
def chL (k : Nat) (b : Option Nat) (deep : Bool) := loadW [120] [([120], chS k b deep k)]
def chA (k : Nat) (b : Option Nat) (deep : Bool) := typP (chL k b deep).names (chL k b deep).files [120] [97]
def chB (k : Nat) (b : Option Nat) (deep : Bool) : Bool := txqB [([120], chS k b deep k)] && decide ((chL k b deep).e = 0) && decide ((chL k b deep).file = []) && decide ((chL k b deep).at_ = 0) && decide ((chL k b deep).names.length = 1) && ldB (chL k b deep).names (chL k b deep).files &&
  decide ((resW (chL k b deep).names (chL k b deep).files 60 [] [120] [97]).e ≠ 99) &&
  (if b.isSome = true then decide (chA k b deep = ([], 0, 9)) else decide ((chA k b deep).1 = chW (if deep = true then k else 0)) && decide ((chA k b deep).2.2 = 0) && decide (decide ((chA k b deep).2.1 = 15) = deep))
set_option maxRecDepth 100000 in
theorem ch_all : ∀ k ∈ List.range 8, ∀ b ∈ none :: (List.range (k + 1)).map some, ∀ deep ∈ [true, false], chB (k + 1) b deep = true := by decide +kernel
set_option maxRecDepth 100000 in
theorem ch_len : ∀ k ∈ List.range 8, ∀ b ∈ none :: (List.range (k + 1)).map some, ∀ deep ∈ [true, false], ∀ i ∈ List.range (k + 2), (chS (k + 1) b deep i).length ≤ 1000 ∧ (chX (k + 1) b i).length ≤ 20 ∧ (chT (k + 1) b deep i).length ≤ 20 := by decide +kernel
theorem ch_wlen : ∀ i ∈ List.range 9, (chW i).length ≤ 100 := by decide
end Go.Proofs.YtpfecpcgdfbekaaGreatDoor
