/- The contracts of big: powers of ten, shifts. -/
import Derived.Test.YtiefheocomkfiaaBigD
namespace Go.Proofs.Ytiefheocomkfiaa
open Go.RowKit

theorem and_one64i (i : Nat) (hi : i < 9223372036854775808) : bits BinOp.and IntKind.i64 (i : Int) 1 = ((i % 2 : Nat) : Int) := by
  have t63 : (2 : Int) ^ 63 = 9223372036854775808 := by decide
  have h := bits_mask .i64 63 (by decide) (fun n h0 h1 => by rw [t63] at h1; rw [IntKind.wrap_i64]; omega) 1 (by decide) (i : Int) (by omega) (by rw [t63]; omega)
  have e : ((2 : Int) ^ 1 - 1) = 1 := by decide
  rw [e] at h
  rw [h]
  omega

set_option maxHeartbeats 800000 in
theorem ten_neg (n : Int) (w : World) (h : n < 0) : Calls Try.prog 66 #[.int .i64 n] w fun e w' => e = .returned (.slice none 0 0) ∧ w = w' := by
  go_enter Try.func66, Try.ntmps66
  go_wp2_with fail
  go_ret
  exact ⟨rfl, rfl⟩

theorem ten_step (a b m N : Nat) (h : a * b ^ m = N) : (m % 2 = 1 → (a * b) * (b * b) ^ (m / 2) = N) ∧ (m % 2 = 0 → a * (b * b) ^ (m / 2) = N) := by
  have e : (b * b) ^ (m / 2) = b ^ (2 * (m / 2)) := by rw [← Nat.pow_two, ← Nat.pow_mul]
  rw [e]
  constructor
  · intro h1
    rw [Nat.mul_assoc, ← Nat.pow_succ', show (2 * (m / 2)).succ = m from by omega, h]
  · intro h1
    rw [show 2 * (m / 2) = m from by omega, h]
theorem ten_bound (n : Nat) : 10 ^ n < 4294967296 ^ (n + 1) :=
  Nat.lt_of_le_of_lt (Nat.pow_le_pow_left (show 10 ≤ 4294967296 by decide) n) (Nat.pow_lt_pow_right (by decide) (Nat.lt_succ_self n))

set_option maxRecDepth 100000 in
set_option maxHeartbeats 800000 in
theorem ten_any (n : Nat) (w : World) (hn : n ≤ 1000) :
    Calls Try.prog 66 #[.int .i64 n] w fun e w' => ∃ v', e = .returned v' ∧ IsNum w' v' (10 ^ n) ∧ Below w.heap.size w w' := by
  go_enter Try.func66, Try.ntmps66
  go_wp2_with fail
  refine (of_any 1 _ (by decide)).mono ?_; rintro e w1 ⟨v1, rfl, hn1, hb1⟩
  go_wp2_with fail
  refine (of_any 10 _ (by decide)).mono ?_; rintro e w2 ⟨v2, rfl, hn2, hb2⟩
  have hn12 := hn1.below hb2
  have hb := nx hb1 hb2
  go_wp2_with fail
  go_loopw [0, 3, 4] (fun i p s wr => ∃ m a b : Nat, i = .int .i64 m ∧ m ≤ n ∧ IsNum wr p a ∧ IsNum wr s b ∧ Hid (a * b ^ m = 10 ^ n) ∧ Below w.heap.size w wr) (fun i _ _ _ => (intOf i).toNat)
  case atStart => exact ⟨n, 1, 10, rfl, Nat.le_refl _, hn12, hn2, Nat.one_mul _, hb⟩
  case round =>
    obtain ⟨m, a, b, rfl, hm, hp, hs, HE, hbel⟩ := hrel
    by_cases h0 : m = 0
    · subst h0
      have hfin : a = 10 ^ n := by have := HE.out; simpa using this
      have HP := Lib.hid (hp.cast hfin)
      clear hfin
      go_wp2_with fail
      go_ret
      exact ⟨_, rfl, HP.out, hbel⟩
    · have hpos : 0 < a * b ^ m := by rw [HE.out]; exact Nat.pow_pos (by decide)
      have ha0 : 0 < a := Nat.pos_of_mul_pos_right hpos
      have hbm0 : 0 < b ^ m := Nat.pos_of_mul_pos_left hpos
      have ha : a ≤ 10 ^ n := by rw [← HE.out]; exact Nat.le_mul_of_pos_right _ hbm0
      have hb1' : b ≤ 10 ^ n := by
        rw [← HE.out]
        refine Nat.le_trans ?_ (Nat.le_mul_of_pos_left _ ha0)
        exact Nat.le_self_pow h0 b
      have hA : a < 4294967296 ^ (n + 1) := Nat.lt_of_le_of_lt ha (ten_bound n)
      have hB : b < 4294967296 ^ (n + 1) := Nat.lt_of_le_of_lt hb1' (ten_bound n)
      obtain ⟨A1, c1, us, rfl, hr1, hc1, hm1, hl1, -, HV1⟩ := hp.open_ (n + 1) hA
      obtain ⟨A2, c2, vs, rfl, hr2, hc2, hm2, hl2, -, HV2⟩ := hs.open_ (n + 1) hB
      have hand := and_one64i m (by omega)
      have st := ten_step a b m _ HE.out
      have HS := Lib.hid st
      have hmp : 0 < m := by omega
      clear st hA hB hb1' ha hbm0 ha0 hpos h0
      by_cases hodd : m % 2 = 1
      · rw [hodd] at hand
        have HOdd := Lib.hid hodd
        clear hodd
        go_wp2_with fail
        refine (mul_any A1 us c1 A2 vs c2 _ hr1 hc1 (by omega) hr2 hc2 (by omega)).mono ?_; rintro e w3 ⟨v3, rfl, hn3, hb3⟩
        have hr23 := hr2.below hb3
        go_wp2_with fail
        refine (mul_any A2 vs c2 A2 vs c2 _ hr23 hc2 (by omega) hr23 hc2 (by omega)).mono ?_; rintro e w4 ⟨v4, rfl, hn4, hb4⟩
        have hn34 := hn3.below hb4
        rw [HV1.out, HV2.out] at hn34
        rw [HV2.out] at hn4
        go_wp2_with fail
        go_roundw
        case rel => exact ⟨m / 2, a * b, b * b, by go_num, by omega, hn34, hn4, HS.out.1 HOdd.out, nx (nx hbel hb3) hb4⟩
        case measure => simp [intOf]; omega
      · have hev : m % 2 = 0 := by omega
        rw [hev] at hand
        have HEv := Lib.hid hev
        clear hev hodd
        go_wp2_with fail
        refine (mul_any A2 vs c2 A2 vs c2 _ hr2 hc2 (by omega) hr2 hc2 (by omega)).mono ?_; rintro e w4 ⟨v4, rfl, hn4, hb4⟩
        have hp4 := hp.below hb4
        rw [HV2.out] at hn4
        go_wp2_with fail
        go_roundw
        case rel => exact ⟨m / 2, a, b * b, by go_num, by omega, hp4, hn4, HS.out.2 HEv.out, nx hbel hb4⟩
        case measure => simp [intOf]; omega
end Go.Proofs.Ytiefheocomkfiaa
