/- The contracts of the document's answers for octet: sums, sealed records. -/
import Derived.Test.YtaoekeldokmmlaaRefA
namespace Go.Proofs.Ytaoekeldokmmlaa
open Go.RowKit

/-- the reference's register after the first i bits of l -/
def refBit (r b : Nat) : Nat := (r / 2) ^^^ (if r % 2 = b then 0 else 2197175160)
def bitAt (l : List UInt8) (i : Nat) : Nat := (l.getD (i / 8) 0).toNat / 2 ^ (i % 8) % 2
def refReg (l : List UInt8) : Nat → Nat
  | 0 => 4294967295
  | i + 1 => refBit (refReg l i) (bitAt l i)

theorem refBit_le (r b : Nat) (h : r < 4294967296) : refBit r b < 4294967296 := by
  unfold refBit
  refine Nat.xor_lt_two_pow (n := 32) (by omega) ?_
  split <;> omega
theorem refReg_lt (l : List UInt8) (i : Nat) : refReg l i < 4294967296 := by
  induction i with
  | zero => show (4294967295 : Nat) < 4294967296; decide
  | succ i ih => exact refBit_le _ _ ih

theorem and1 (q : Nat) (hq : (q : Int) ≤ 4294967295) : bits .and .u32 (q : Int) 1 = ((q % 2 : Nat) : Int) := by
  have := u32_and_nat q 1 (by omega) (by omega)
  rw [Nat.and_one_is_mod] at this
  exact this
theorem and1b (x m : Nat) (hx : x < 256) : bits .and .u32 ((x : Int) / 2 ^ m) 1 = ((x / 2 ^ m % 2 : Nat) : Int) := by
  have hle : x / 2 ^ m ≤ x := Nat.div_le_self _ _
  have := and1 (x / 2 ^ m) (by omega)
  rw [← this]
  simp

set_option maxHeartbeats 400000 in
theorem refSum_any' (A : Option Addr) (xs : List UInt8) (c : Nat) (w : World) (hr : Rd bv w A xs) (hc : xs.length ≤ c) (hm : (xs.length : Int) ≤ 1000000) :
    Calls Try.prog 23 #[.slice A xs.length c] w fun e w' => e = .returned (.int .u32 (4294967295 ^^^ refReg xs (8 * xs.length) : Nat)) ∧ w = w' := by
  go_enter Try.func23, Try.ntmps23
  go_wp2_with fail
  go_loop [3, 4] (fun v i => ∃ k r : Nat, k ≤ 8 * xs.length ∧ i = .int .i64 k ∧ v = .int .u32 (r : Nat) ∧ (r : Int) ≤ 4294967295 ∧ Hid (r = refReg xs k)) (fun _ i => 8 * xs.length - (intOf i).toNat)
  case atStart => exact ⟨0, 4294967295, Nat.zero_le _, rfl, rfl, by decide, rfl⟩
  case round =>
    obtain ⟨k, r, hk, rfl, rfl, hr4, HR⟩ := hrel
    by_cases hlt : k < 8 * xs.length
    · obtain ⟨b, off, rfl, hb, hcell⟩ := hr.at_ (k := k / 8) (by omega)
      unfold bv at hcell
      have hx := xs[k / 8].toNat_lt
      have hS : Hid (refReg xs (k + 1) = refBit r (xs[k / 8].toNat / 2 ^ (k % 8) % 2)) := by
        unfold Hid
        rw [refReg, ← HR.out, bitAt, List.getD, List.getElem?_eq_getElem (by omega)]
        rfl
      have hb1 : bits .and .u32 (r : Int) 1 = ((r % 2 : Nat) : Int) := and1 r hr4
      have hb2 : bits .and .u32 ((xs[k / 8].toNat : Int) / 2 ^ (k % 8)) 1 = ((xs[k / 8].toNat / 2 ^ (k % 8) % 2 : Nat) : Int) := and1b _ _ hx
      have HB1 := Lib.hid hb1
      have HB2 := Lib.hid hb2
      clear hb1 hb2
      go_wp2_with (fail)
      · rename_i h
        rw [HB1.out, HB2.out, bne_iff_ne] at h
        go_round
        case rel =>
          have hx := u32_xor_nat (r / 2) 2197175160 (by omega) (by omega)
          have hle := Nat.xor_lt_two_pow (x := r / 2) (y := 2197175160) (n := 32) (by omega) (by omega)
          refine ⟨k + 1, (r / 2) ^^^ 2197175160, by omega, by go_num, congrArg (Value.int IntKind.u32) ?_, by omega, ?_⟩
          · rw [← hx]; rfl
          · unfold Hid
            rw [hS.out, refBit, if_neg (by omega)]
        case measure => simp [intOf]; omega
      · rename_i h
        rw [HB1.out, HB2.out, bne_eq_false_iff_eq] at h
        go_round
        case rel =>
          refine ⟨k + 1, r / 2, by omega, by go_num, congrArg (Value.int IntKind.u32) (by omega), by omega, ?_⟩
          unfold Hid
          rw [hS.out, refBit, if_pos (by omega)]
          simp
        case measure => simp [intOf]; omega
    · obtain rfl : k = 8 * xs.length := by omega
      have hlt' : ¬ (((8 * xs.length : Nat) : Int) < 8 * (xs.length : Int)) := by omega
      go_wp2
      go_ret
      refine ⟨?_, rfl⟩
      have h1 := u32_xor_nat 4294967295 r (by omega) (by omega)
      rw [← HR.out]
      exact congrArg (fun z => Ending.returned (Value.int IntKind.u32 z)) h1

/-- the register after j bits of a byte x -/
def refSteps (x : Nat) : Nat → Nat → Nat
  | 0, r => r
  | j + 1, r => refBit (refSteps x j r) (x / 2 ^ j % 2)
theorem crcSteps_ref (r x : Nat) (j : Nat) : crcSteps j (r ^^^ x) = refSteps x j r ^^^ (x / 2 ^ j) := by
  induction j with
  | zero => simp [crcSteps, refSteps]
  | succ j ih =>
    simp only [crcSteps, refSteps]
    rw [ih]
    generalize refSteps x j r = R
    rw [Nat.pow_succ, ← Nat.div_div_eq_div_mul]
    generalize x / 2 ^ j = y
    unfold crcStep refBit
    have hm : (R ^^^ y) % 2 = 1 ↔ ¬ R % 2 = y % 2 := by rw [Nat.xor_mod_two_eq_one]; omega
    rw [Nat.xor_div_two]
    by_cases h : R % 2 = y % 2
    · rw [if_neg (fun h' => hm.1 h' h), if_pos h]
      simp
    · rw [if_pos (hm.2 h), if_neg h]
      rw [Nat.xor_assoc, Nat.xor_assoc, Nat.xor_comm (y / 2)]
theorem refReg_byte (xs : List UInt8) (k : Nat) (hk : k < xs.length) (j : Nat) (hj : j ≤ 8) : refReg xs (8 * k + j) = refSteps xs[k].toNat j (refReg xs (8 * k)) := by
  induction j with
  | zero => rfl
  | succ j ih =>
    rw [← Nat.add_assoc]
    simp only [refReg, refSteps]
    rw [ih (by omega)]
    congr 1
    unfold bitAt
    rw [show (8 * k + j) / 8 = k from by omega, show (8 * k + j) % 8 = j from by omega]
    simp [List.getD, hk]
theorem crcReg_ref (xs : List UInt8) (k : Nat) (hk : k ≤ xs.length) : crcReg (xs.take k) = refReg xs (8 * k) := by
  induction k with
  | zero => rfl
  | succ k ih =>
    rw [crcReg_snoc xs k (by omega), ih (by omega), crcSteps_ref, show 8 * (k + 1) = 8 * k + 8 from by omega, refReg_byte xs k (by omega) 8 (Nat.le_refl _)]
    have := xs[k].toNat_lt
    rw [show xs[k].toNat / 2 ^ 8 = 0 from Nat.div_eq_of_lt this]
    simp

theorem refSum_any (A : Option Addr) (xs : List UInt8) (c : Nat) (w : World) (hr : Rd bv w A xs) (hc : xs.length ≤ c) (hm : (xs.length : Int) ≤ 1000000) :
    Calls Try.prog 23 #[.slice A xs.length c] w fun e w' => e = .returned (.int .u32 (crc xs : Nat)) ∧ w = w' := by
  have := refSum_any' A xs c w hr hc hm
  rw [← crcReg_ref xs xs.length (Nat.le_refl _), List.take_length] at this
  exact this
end Go.Proofs.Ytaoekeldokmmlaa
