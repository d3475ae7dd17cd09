/- A number's decimal digits as bytes. Plain lemmas. -/
import Derived.Test.YtddolmkmijkpiaaDoorBase
namespace Go.Proofs.YtddolmkmijkpiaaDoor
open Go.RowKit

def decF : Nat → Nat → List UInt8
  | 0, n => [UInt8.ofNat (48 + n % 10)]
  | f + 1, n => if n < 10 then [UInt8.ofNat (48 + n % 10)] else decF f (n / 10) ++ [UInt8.ofNat (48 + n % 10)]
def decS (n : Nat) : List UInt8 := decF n n
theorem decF_more (f g n : Nat) (h1 : n ≤ f) (h2 : n ≤ g) : decF f n = decF g n := by
  induction f generalizing g n with
  | zero =>
    obtain rfl : n = 0 := by omega
    cases g with
    | zero => rfl
    | succ g => simp [decF]
  | succ f ih =>
    cases g with
    | zero =>
      obtain rfl : n = 0 := by omega
      simp [decF]
    | succ g =>
      unfold decF
      by_cases h : n < 10
      · rw [if_pos h, if_pos h]
      · rw [if_neg h, if_neg h, ih g (n / 10) (by omega) (by omega)]
theorem decS_small (n : Nat) (h : n < 10) : decS n = [UInt8.ofNat (48 + n % 10)] := by
  unfold decS
  cases n with
  | zero => rfl
  | succ n => unfold decF; rw [if_pos h]
theorem decS_step (n : Nat) (h : 10 ≤ n) : decS n = decS (n / 10) ++ [UInt8.ofNat (48 + n % 10)] := by
  unfold decS
  obtain ⟨m, rfl⟩ : ∃ m, n = m + 1 := ⟨n - 1, by omega⟩
  conv => lhs; unfold decF
  rw [if_neg (by omega), decF_more m ((m + 1) / 10) ((m + 1) / 10) (by omega) (Nat.le_refl _)]
theorem decS_len (k n : Nat) (h : n < 10 ^ (k + 1)) : (decS n).length ≤ k + 1 := by
  induction k generalizing n with
  | zero => rw [decS_small n (by simpa using h)]; simp
  | succ k ih =>
    by_cases h10 : n < 10
    · rw [decS_small n h10]; simp
    · rw [decS_step n (by omega), List.length_append]
      have := ih (n / 10) (by rw [Nat.pow_succ] at h; omega)
      simp; omega
theorem decS_pos (n : Nat) : 1 ≤ (decS n).length := by
  by_cases h : n < 10
  · rw [decS_small n h]; simp
  · rw [decS_step n (by omega)]; simp
/-- a number with its sign, as text -/
def tenS (v : Int) : List UInt8 := if v < 0 then 45 :: decS (-v).toNat else decS v.toNat
end Go.Proofs.YtddolmkmijkpiaaDoor
