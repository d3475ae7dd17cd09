/- BigTens: for every number the law returns true and leaves memory as it was. No condition. -/
import Derived.Test.YtlcnjcdofmohhaaBigN
namespace Go.Proofs.Ytlcnjcdofmohhaa
open Go.RowKit

theorem ten_bits (k : Nat) : 3 * k < blen (10 ^ k) := by
  have h0 : 10 ^ k ≠ 0 := Nat.pos_iff_ne_zero.1 (Nat.pow_pos (by decide))
  unfold blen
  rw [if_neg h0]
  have : 3 * k ≤ Nat.log2 (10 ^ k) := by
    rw [Nat.le_log2 h0, Nat.pow_mul]
    exact Nat.pow_le_pow_left (by decide) k
  omega
theorem cmpI_same (a : Nat) : cmpI a a = 0 := by simp [cmpI]

set_option maxRecDepth 100000 in
set_option maxHeartbeats 1600000 in
theorem BigTens_walk (a : Int) (w : World) (ha1 : 0 ≤ a) (ha2 : a ≤ 65535) :
    Calls Try.prog 7 #[.int .u16 a] w fun e w' => e = .returned (.bool true) ∧ Below w.heap.size w w' := by
  obtain ⟨n, rfl⟩ := Int.eq_ofNat_of_zero_le ha1
  obtain ⟨k, hk, hk2⟩ : ∃ k : Nat, (n : Int) % 400 = (k : Int) ∧ k < 400 := ⟨n % 400, by omega, by omega⟩
  have b1 : ∀ j : Nat, j ≤ k + 1 → 10 ^ j < 4294967296 ^ (k + 10) := fun j hj => Nat.lt_of_lt_of_le (ten_bound j) (Nat.pow_le_pow_right (by decide) (by omega))
  have B1 := Lib.hid b1
  clear b1
  have hbits : decide ((3 : Int) * (k : Int) < ((blen (10 ^ k) : Nat) : Int)) = true := decide_eq_true (by have := ten_bits k; omega)
  obtain ⟨bl, HBL⟩ : ∃ bl, Hid (blen (10 ^ k) = bl) := ⟨_, rfl⟩
  rw [HBL.out] at hbits
  go_enter Try.func7, Try.ntmps7
  go_wp2_with fail
  refine (bbegun_any _).mono ?_; rintro e w0 ⟨rfl, hb⟩
  go_wp2_with fail
  refine (ten_any (k + 1) _ (by omega)).mono ?_; rintro e w1 ⟨v1, rfl, hn1, hb1⟩
  have hb := nx hb hb1
  go_wp2_with fail
  refine (ten_any k _ (by omega)).mono ?_; rintro e w2 ⟨v2, rfl, hn2, hb2⟩
  have hb := nx hb hb2
  go_wp2_with fail
  refine (of_any 10 _ (by decide)).mono ?_; rintro e w3 ⟨v3, rfl, hn3, hb3⟩
  have hb := nx hb hb3
  have hn2 := hn2.below hb3
  go_wp2_with fail
  refine (mul_n v2 v3 _ 10 (k + 10) _ (hn2.num (B1.out _ (by omega))) (hn3.num (by exact B1.out 1 (by omega))) (by omega)).mono ?_; rintro e w4 ⟨v4, rfl, hn4, hb4⟩
  have hb := nx hb hb4
  have hn1 := hn1.below (nx (nx hb2 hb3) hb4)
  have hn4 := hn4.cast (Nat.pow_succ 10 k).symm
  go_wp2_with fail
  refine (cmp_n v1 v4 _ _ (k + 10) _ (hn1.num (B1.out _ (by omega))) (hn4.num (B1.out _ (by omega))) (by omega)).mono ?_; rintro e w5 ⟨rfl, hb5⟩
  rw [cmpI_same]
  have hb := nx hb hb5
  go_wp2_with fail
  refine (ten_any 0 _ (by omega)).mono ?_; rintro e w6 ⟨v6, rfl, hn6, hb6⟩
  have hb := nx hb hb6
  go_wp2_with fail
  refine (of_any 1 _ (by decide)).mono ?_; rintro e w7 ⟨v7, rfl, hn7, hb7⟩
  have hb := nx hb hb7
  have hn6 := (hn6.below hb7).cast (Nat.pow_zero 10)
  go_wp2_with fail
  refine (cmp_n v6 v7 1 1 2 _ (ln1 hn6 (by decide)) (ln1 hn7 (by decide)) (by decide)).mono ?_; rintro e w8 ⟨rfl, hb8⟩
  rw [cmpI_same]
  have hb := nx hb hb8
  go_wp2_with fail
  refine (ten_neg (-1) _ (by decide)).mono ?_; rintro e w' ⟨rfl, rfl⟩
  go_wp2_with fail
  refine (ten_any k _ (by omega)).mono ?_; rintro e w9 ⟨v9, rfl, hn9, hb9⟩
  have hb := nx hb hb9
  go_wp2_with fail
  refine (bits_n v9 _ (k + 10) _ (hn9.num (B1.out _ (by omega))) (by omega)).mono ?_; rintro e w' ⟨rfl, rfl⟩
  rw [HBL.out]
  go_wp2_with fail
  go_ret
  exact ⟨rfl, hb⟩
end Go.Proofs.Ytlcnjcdofmohhaa
