/- ZigSmall: for every number the law returns true and leaves memory as it was. No condition. -/
import Derived.Test.YtdgeiaiflkpjmaaZigBegun
import Derived.Test.YtdgeiaiflkpjmaaZigPure
namespace Go.Proofs.Ytdgeiaiflkpjmaa
open Go.RowKit

/-- the number's bytes are so many, if it lies within these bounds and not within those ahead -/
theorem small_len (z n : Nat) (h1 : 1 ≤ n) (h2 : n ≤ 10) (h3 : n = 1 ∨ 128 ^ (n - 1) ≤ z) (h4 : n = 10 ∨ z < 128 ^ n) : (varint z).length = n :=
  vi_length 9 n z h1 h2 h3 h4

theorem pow_step (n : Nat) (h : 1 ≤ n) : 128 ^ n = 128 * 128 ^ (n - 1) := by
  obtain ⟨k, rfl⟩ : ∃ k, n = k + 1 := ⟨n - 1, by omega⟩
  rw [Nat.pow_succ, Nat.mul_comm, Nat.add_sub_cancel]
theorem zig_in (v : Int) (M P : Nat) (hP : P = 2 * M) : (zigI v).toNat < P ↔ (-(M : Int) ≤ v ∧ v < M) := by
  subst hP
  unfold zigI
  split <;> omega

set_option maxHeartbeats 1600000 in
theorem ZigSmall_walk (v : Int) (w : World) (h1 : -9223372036854775808 ≤ v) (h2 : v ≤ 9223372036854775807) :
    Calls Try.prog 7 #[.int .i64 v] w fun e w' => e = .returned (.bool true) ∧ Below w.heap.size w w' := by
  have hz0 : 0 ≤ zigI v ∧ zigI v ≤ 18446744073709551615 := by unfold zigI; split <;> omega
  go_enter Try.func7, Try.ntmps7
  go_wp2_with fail
  refine (zbegun_any _).mono ?_; rintro e w0 ⟨rfl, hb0⟩
  go_wp2_with fail
  go_loop [3, 4, 5] (fun nv lo hi => ∃ (n M : Nat) (L H : Int), nv = .int .i64 n ∧ lo = .int .i64 L ∧ hi = .int .i64 H ∧ 1 ≤ n ∧ n ≤ 10 ∧ Hid (n ≤ 9 → L = -(M : Int) ∧ H = (M : Int) - 1) ∧ Hid (M = 64 * 128 ^ (n - 1)) ∧ Hid (n = 1 ∨ 128 ^ (n - 1) ≤ (zigI v).toNat)) (fun nv _ _ => 10 - (intOf nv).toNat)
  case atStart => exact ⟨1, 64, -64, 63, rfl, rfl, rfl, by omega, by omega, fun _ => ⟨rfl, rfl⟩, rfl, .inl rfl⟩
  case round =>
    obtain ⟨n, M, L, H, rfl, rfl, rfl, hn1, hn2, HL, HM, HV⟩ := hrel
    have done : Hid (n = 10 ∨ (zigI v).toNat < 128 ^ n → (varint (zigI v).toNat).length = n) := fun h => small_len _ _ hn1 hn2 HV.out h
    have hzn : zigI v = ((zigI v).toNat : Int) := by omega
    generalize hZ : zigI v = Z at *
    have HZ := Lib.hid hZ
    clear hZ
    obtain ⟨z, rfl⟩ := Int.eq_ofNat_of_zero_le hz0.1
    rw [Int.toNat_natCast] at done HV
    clear hzn
    by_cases h10 : n = 10
    · subst h10
      have hlen := done.out (.inl rfl)
      clear HL HM done
      go_wp2_with fail
      refine (zig64_any v _ h1 h2).mono ?_; rintro e w' ⟨rfl, rfl⟩
      rw [HZ.out]
      go_wp2_with fail
      refine (put_any none [] 0 z _ Rd.nil (by decide) (by decide) (by omega) (by decide)).mono ?_; rintro e w1 ⟨v1, rfl, hown1, hb1⟩
      obtain ⟨A1, c1, W1, rfl, HW1, h1a, h1b, hc1, hm1, hr1, -⟩ := hown1.name 10 (by simpa using hlen)
      have g1 : ((W1.length : Int) == 10) = true := by rw [beq_iff_eq]; omega
      go_wp2_with fail
      go_ret
      exact ⟨rfl, nx hb0 hb1⟩
    · have hM9 : M ≤ 4611686018427387904 := by
        rw [HM.out]
        have : 128 ^ (n - 1) ≤ 128 ^ 8 := Nat.pow_le_pow_right (by decide) (by omega)
        omega
      obtain ⟨rfl, rfl⟩ := HL.out (by omega)
      have hin := zig_in v M (128 ^ n) (by rw [pow_step n hn1, HM.out]; omega)
      rw [HZ.out, Int.toNat_natCast] at hin
      have c0 : decide ((n : Int) < 10) = true := decide_eq_true (by omega)
      by_cases ho : -(M : Int) ≤ v ∧ v < M
      · have hlen := done.out (.inr (hin.2 ho))
        have c1 : decide (v < -(M : Int)) = false := decide_eq_false (by omega)
        have c2 : decide ((M : Int) - 1 < v) = false := decide_eq_false (by omega)
        clear HL done hin
        go_wp2_with fail
        refine (zig64_any v _ h1 h2).mono ?_; rintro e w' ⟨rfl, rfl⟩
        rw [HZ.out]
        go_wp2_with fail
        refine (put_any none [] 0 z _ Rd.nil (by decide) (by decide) (by omega) (by decide)).mono ?_; rintro e w1 ⟨v1, rfl, hown1, hb1⟩
        obtain ⟨A1, c1, W1, rfl, HW1, h1a, h1b, hc1, hm1, hr1, -⟩ := hown1.name n (by simpa using hlen)
        have g1 : ((W1.length : Int) == (n : Int)) = true := by rw [beq_iff_eq]; omega
        go_wp2_with fail
        go_ret
        exact ⟨rfl, nx hb0 hb1⟩
      · have HV' : Hid (128 ^ (n + 1 - 1) ≤ z) := Nat.le_of_not_lt (fun h => ho (hin.1 h))
        have HM' : Hid (M * 128 = 64 * 128 ^ (n + 1 - 1)) := by unfold Hid; rw [Nat.add_sub_cancel, pow_step n hn1, HM.out]; omega
        clear done hin
        by_cases hlo : v < -(M : Int)
        · have c1 : decide (v < -(M : Int)) = true := decide_eq_true hlo
          by_cases h9 : n = 9
          · subst h9
            go_wp2_with fail
            go_round
            case rel => exact ⟨10, M * 128, _, _, rfl, rfl, rfl, by omega, by omega, fun h => by omega, HM', .inr HV'.out⟩
            case measure => simp [intOf]
          · have hM8 : M ≤ 36028797018963968 := by
              rw [HM.out]
              have : 128 ^ (n - 1) ≤ 128 ^ 7 := Nat.pow_le_pow_right (by decide) (by omega)
              omega
            go_wp2_with fail
            go_round
            case rel => exact ⟨n + 1, M * 128, _, _, by go_num, rfl, rfl, by omega, by omega, fun _ => ⟨by omega, by omega⟩, HM', .inr HV'.out⟩
            case measure => simp [intOf]; omega
        · have c1 : decide (v < -(M : Int)) = false := decide_eq_false hlo
          have c2 : decide ((M : Int) - 1 < v) = true := decide_eq_true (by omega)
          by_cases h9 : n = 9
          · subst h9
            go_wp2_with fail
            go_round
            case rel => exact ⟨10, M * 128, _, _, rfl, rfl, rfl, by omega, by omega, fun h => by omega, HM', .inr HV'.out⟩
            case measure => simp [intOf]
          · have hM8 : M ≤ 36028797018963968 := by
              rw [HM.out]
              have : 128 ^ (n - 1) ≤ 128 ^ 7 := Nat.pow_le_pow_right (by decide) (by omega)
              omega
            go_wp2_with fail
            go_round
            case rel => exact ⟨n + 1, M * 128, _, _, by go_num, rfl, rfl, by omega, by omega, fun _ => ⟨by omega, by omega⟩, HM', .inr HV'.out⟩
            case measure => simp [intOf]; omega
end Go.Proofs.Ytdgeiaiflkpjmaa
