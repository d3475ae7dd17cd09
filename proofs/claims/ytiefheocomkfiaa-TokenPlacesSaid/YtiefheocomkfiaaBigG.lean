/- The contracts of big: shifts by either sign. -/
import Derived.Test.YtiefheocomkfiaaBigF
namespace Go.Proofs.Ytiefheocomkfiaa
open Go.RowKit

set_option maxRecDepth 100000 in
set_option maxHeartbeats 1600000 in
theorem shl_any (A : Option Addr) (xs : List UInt32) (c : Nat) (n : Int) (w : World) (hr : Rd uv w A xs) (hc : xs.length ≤ c) (hm : c ≤ maxLen) (hl : (xs.length : Int) ≤ 100000) (hn1 : -100000 ≤ n) (hn2 : n ≤ 100000) :
    Calls Try.prog 72 #[.slice A xs.length c, .int .i64 n] w fun e w' => ∃ v', e = .returned v' ∧ IsNum w' v' (shV (val xs) n) ∧ Below w.heap.size w w' := by
  by_cases hneg : n < 0
  · obtain ⟨m, rfl⟩ : ∃ m : Nat, n = -(m : Int) := ⟨n.natAbs, by omega⟩
    have hq : (-(m : Int)).tdiv 32 = -((m / 32 : Nat) : Int) := by
      rw [Int.neg_tdiv]; rfl
    have hrm : (-(m : Int)).tmod 32 = -((m % 32 : Nat) : Int) := by
      rw [Int.neg_tmod]; rfl
    have hsh : Hid (val xs / 4294967296 ^ (m / 32) / 2 ^ (m % 32) = shV (val xs) (-(m : Int))) := by
      unfold Hid shV
      rw [if_neg (by omega), Nat.div_div_eq_div_mul, pow_split]
      congr 2; omega
    go_enter Try.func72, Try.ntmps72
    go_wp2_with fail
    refine (trim_any A xs c _ hr hc hm (by omega)).mono ?_; rintro e w1 ⟨v1, rfl, hk1, rfl⟩
    obtain ⟨A1, c1, us, rfl, hr1, hc1, hm1, hl1, -, HV⟩ := hk1.open_ xs.length (val_lt xs)
    go_wp2_with fail
    refine (shiftDown_any A1 us c1 (m / 32) (m % 32) _ hr1 hc1 (by omega) (by omega) (by omega)).mono ?_; rintro e w2 ⟨v2, rfl, hk2, hb2⟩
    rw [HV.out, hsh.out] at hk2
    go_wp2_with fail
    go_ret
    exact ⟨_, rfl, hk2, hb2⟩
  · obtain ⟨m, rfl⟩ := Int.eq_ofNat_of_zero_le (a := n) (by omega)
    have hsh : Hid (4294967296 ^ (m / 32) * (val xs * 2 ^ (m % 32)) = shV (val xs) (m : Int)) := by
      unfold Hid shV
      rw [if_pos (by omega), Nat.mul_left_comm, pow_split]; rfl
    clear hneg
    go_enter Try.func72, Try.ntmps72
    go_wp2_with fail
    refine (trim_any A xs c _ hr hc hm (by omega)).mono ?_; rintro e w1 ⟨v1, rfl, hk1, rfl⟩
    obtain ⟨A1, c1, us, rfl, hr1, hc1, hm1, hl1, -, HV⟩ := hk1.open_ xs.length (val_lt xs)
    have hul : (us.length : Int) ≤ 100000 := by omega
    clear hl1
    by_cases h0 : us.length = 0
    · have hz : Hid (shV (val xs) (m : Int) = 0) := by
        unfold Hid
        rw [← hsh.out, ← HV.out, List.eq_nil_of_length_eq_zero h0]
        simp [val]
      have hd : ((us.length : Int) == 0) = true := by rw [h0]; rfl
      clear h0
      go_wp2_with fail
      go_ret
      exact ⟨_, rfl, (IsNum.zero _).cast hz.out.symm, Below.refl _ _⟩
    · have hd : ((us.length : Int) == 0) = false := by rw [beq_eq_false_iff_ne]; omega
      have hd2 : decide (536870911 - (us.length : Int) ≤ (m : Int) / 32) = false := decide_eq_false (by omega)
      clear h0
      go_wp2_with fail
      refine (shiftUp_any A1 us c1 (m / 32) (m % 32) _ hr1 hc1 (by omega) (by omega) (by omega)).mono ?_; rintro e w2 ⟨v2, rfl, hk2, hb2⟩
      rw [HV.out, hsh.out] at hk2
      go_wp2_with fail
      go_ret
      exact ⟨_, rfl, hk2, hb2⟩
end Go.Proofs.Ytiefheocomkfiaa
