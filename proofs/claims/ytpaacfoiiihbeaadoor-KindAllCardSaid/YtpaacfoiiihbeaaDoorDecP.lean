/- Which texts are numbers, and which binary64 is nearest: as a function of the text's bytes. -/
import Derived.Test.YtpaacfoiiihbeaaDoorDecM
namespace Go.Proofs.YtpaacfoiiihbeaaDoor
open Go.RowKit

def isDig (c : UInt8) : Bool := decide (48 ≤ c.toNat) && decide (c.toNat ≤ 57)
def digV (c : UInt8) : Nat := c.toNat - 48
/-- digits and a full stop: the digits, how many stand behind the stop, whether there was one, what is left -/
def scanS : Bool → List UInt8 → List UInt8 × Nat × Bool × List UInt8
  | p, [] => ([], 0, p, [])
  | p, c :: s =>
    if isDig c then (c :: (scanS p s).1, (scanS p s).2.1 + (if p then 1 else 0), (scanS p s).2.2)
    else if c.toNat = 46 ∧ p = false then scanS true s
    else ([], 0, p, c :: s)
def expDigits : List UInt8 → Nat → Option Nat
  | [], v => some v
  | c :: s, v => if isDig c then expDigits s (min (v * 10 + digV c) 100000) else none
/-- a sign ahead: whether it is a minus, what is left -/
def signS : List UInt8 → Bool × List UInt8
  | [] => (false, [])
  | c :: s => if c.toNat = 43 then (false, s) else if c.toNat = 45 then (true, s) else (false, c :: s)
/-- what stands behind the digits: the exponent, whether it is too great -/
def expS : List UInt8 → Option (Int × Bool)
  | [] => some (0, false)
  | c :: s =>
    if c.toNat = 101 ∨ c.toNat = 69 then
      if (signS s).2 = [] then none
      else match expDigits (signS s).2 0 with
        | none => none
        | some v => some (if (signS s).1 then -(v : Int) else (v : Int), decide (400 < v))
    else none
def valS (ds : List UInt8) : Nat := ds.foldl (fun x c => 10 * x + digV c) 0
/-- the nearest binary64 to n times ten to the k, in steps of the least one -/
def numS (n : Nat) (k : Int) : Nat := if 0 ≤ k then near (n * 10 ^ k.toNat * 2 ^ tz) 1 else near (n * 2 ^ tz) (10 ^ (-k).toNat)
def LIM : Nat := 9218868437227405312
def parseS (s : List UInt8) : Nat × Nat :=
  let t := (signS s).2
  let r := scanS false t
  if r.1 = [] ∨ r.2.2.1 = true ∧ r.2.1 = 0 then (0, 2)
  else match expS r.2.2.2 with
    | none => (0, 2)
    | some (v, big) =>
      if 60 < r.1.length then (0, 4)
      else if big then (0, 5)
      else if numS (valS r.1) (v - r.2.1) < LIM then ((if (signS s).1 then 9223372036854775808 else 0) + numS (valS r.1) (v - r.2.1), 0)
      else (0, 5)

theorem parse_try1 : parseS [48, 46, 49] = (0x3fb999999999999a, 0) := by decide +kernel
theorem parse_try2 : parseS [45, 46, 53] = (0xbfe0000000000000, 0) ∧ parseS [49, 46] = (0, 2) ∧ parseS [49, 101, 52, 48, 48] = (0, 5) ∧ parseS [52, 46, 57, 101, 45, 51, 50, 52] = (1, 0) := by decide +kernel
end Go.Proofs.YtpaacfoiiihbeaaDoor
