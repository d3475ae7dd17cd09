/- DecOrder: for any two numbers and exponent the law returns true and leaves memory as it was. No condition. -/
import Derived.Test.YtddolmkmijkpiaaDoorDecT4
namespace Go.Proofs.YtddolmkmijkpiaaDoor
open Go.RowKit

theorem or_sign2 (a : Nat) (ha : a < 9223372036854775808) : bits .or .u64 (a : Int) (9223372036854775808 : Int) = ((9223372036854775808 + a : Nat) : Int) := or_sign a ha
set_option maxRecDepth 100000 in
set_option maxHeartbeats 3200000 in
theorem DecOrder_walk (a b c : Int) (w : World) (ht : Tab w) (ha1 : 0 ≤ a) (ha2 : a ≤ 18446744073709551615) (hb1 : 0 ≤ b) (hb2 : b ≤ 18446744073709551615) (hc1 : -32768 ≤ c) (hc2 : c ≤ 32767) :
    Calls Tryd.prog 6 #[.int .u64 a, .int .u64 b, .int .i16 c] w fun e w' => e = .returned (.bool true) ∧ Below w.heap.size w w' := by
  obtain ⟨x, hx, hx2⟩ : ∃ x : Nat, a % 1000000000000000000 = (x : Int) ∧ (x : Int) ≤ 1000000000000000000 := ⟨(a % 1000000000000000000).toNat, by omega, by omega⟩
  obtain ⟨y, hy, hy2⟩ : ∃ y : Nat, b % 1000000000000000000 = (y : Int) ∧ (y : Int) ≤ 1000000000000000000 := ⟨(b % 1000000000000000000).toNat, by omega, by omega⟩
  obtain ⟨k, hk, hk1, hk2⟩ : ∃ k : Int, Int.tmod c 300 = k ∧ -300 ≤ k ∧ k ≤ 300 := by
    rcases Int.le_total 0 c with h | h
    · rw [Int.tmod_eq_emod_of_nonneg h]; exact ⟨_, rfl, by omega, by omega⟩
    · obtain ⟨m, rfl⟩ : ∃ m, c = -m := ⟨-c, by omega⟩
      rw [Int.neg_tmod, Int.tmod_eq_emod_of_nonneg (by omega)]; exact ⟨_, rfl, by omega, by omega⟩
  obtain ⟨NX, HNX⟩ : ∃ N, Hid (numS x k = N) := ⟨_, rfl⟩
  obtain ⟨NY, HNY⟩ : ∃ N, Hid (numS y k = N) := ⟨_, rfl⟩
  have hp1 := parse_exp x (by omega) k (by omega) (by omega)
  have hp2 := parse_exp y (by omega) k (by omega) (by omega)
  have hp3 := parse_exp_neg x (by omega) k (by omega) (by omega)
  rw [HNX.out] at hp1 hp3
  rw [HNY.out] at hp2
  have hm1 : x ≤ y → NX ≤ NY := fun h => by rw [← HNX.out, ← HNY.out]; exact numS_mono x y k h
  have hm2 : y ≤ x → NY ≤ NX := fun h => by rw [← HNX.out, ← HNY.out]; exact numS_mono y x k h
  obtain ⟨R1, HR1⟩ : ∃ R, Hid (parseS (decS x ++ (101 :: tenS k)) = R) := ⟨_, rfl⟩
  obtain ⟨R2, HR2⟩ : ∃ R, Hid (parseS (decS y ++ (101 :: tenS k)) = R) := ⟨_, rfl⟩
  obtain ⟨R3, HR3⟩ : ∃ R, Hid (parseS (45 :: (decS x ++ (101 :: tenS k))) = R) := ⟨_, rfl⟩
  rw [HR1.out] at hp1
  rw [HR2.out] at hp2
  rw [HR3.out] at hp3
  have hkl := tenS_len k (by omega) (by omega)
  have hxl := decS_len 19 x (by omega)
  have hyl := decS_len 19 y (by omega)
  have HM1 := Lib.hid hm1
  have HM2 := Lib.hid hm2
  have HP1 := Lib.hid hp1
  have HP2 := Lib.hid hp2
  have HP3 := Lib.hid hp3
  clear hm1 hm2 hp1 hp2 hp3
  go_enter Tryd.func6, Tryd.ntmps6
  go_wp2_with fail
  refine (dbegun_any _ ht).mono ?_; rintro e w0 ⟨rfl, hb⟩
  go_wp2_with fail
  refine (tenText_t k _ (by omega) (by omega) 20 hkl).mono ?_; rintro e w1 ⟨tk, rfl, htk, hts, hw1⟩
  have hb := Nx.trans hb hw1
  have hs1 : ¬ 9223372036854775807 < 1 + tk.size := by omega
  go_wp2_with fail
  refine (tenText_n x _ (by omega)).mono ?_; rintro e w2 ⟨tx, rfl, htx, htxs, hw2⟩
  have hb := Nx.trans hb hw2
  have hex : Tx (⟨#[101]⟩ ++ tk) (101 :: tenS k) := Tx.plus (Tx.of [101]) htk.out
  generalize (⟨#[101]⟩ ++ tk : ByteArray) = ex at *
  have hexs : ex.size ≤ 30 := Tx.sz hex 30 (by simp; omega)
  have hs2 : ¬ 9223372036854775807 < tx.size + ex.size := by omega
  have HEX := Lib.hid hex
  clear hex
  go_wp2_with fail
  refine (parse_any _ (decS x ++ (101 :: tenS k)) _ (Tx.plus htx.out HEX.out) (by simp; omega)).mono ?_; rintro e w3 ⟨rfl, hw3⟩
  rw [HR1.out]
  have hb := Nx.trans hb hw3
  go_wp2_with fail
  refine (tenText_n y _ (by omega)).mono ?_; rintro e w4 ⟨ty, rfl, hty, htys, hw4⟩
  have hb := Nx.trans hb hw4
  have hs3 : ¬ 9223372036854775807 < ty.size + ex.size := by omega
  go_wp2_with fail
  refine (parse_any _ (decS y ++ (101 :: tenS k)) _ (Tx.plus hty.out HEX.out) (by simp; omega)).mono ?_; rintro e w5 ⟨rfl, hw5⟩
  rw [HR2.out]
  have hb := Nx.trans hb hw5
  go_wp2_with fail
  refine (tenText_n x _ (by omega)).mono ?_; rintro e w6 ⟨tz', rfl, htz, htzs, hw6⟩
  have hb := Nx.trans hb hw6
  have hs4 : ¬ 9223372036854775807 < 1 + tz'.size := by omega
  have hs5 : ¬ 9223372036854775807 < 1 + tz'.size + ex.size := by omega
  go_wp2_with fail
  refine (parse_any _ (45 :: (decS x ++ (101 :: tenS k))) _ (by have := Tx.plus (Tx.plus (Tx.of [45]) htz.out) HEX.out; simpa using this) (by simp; omega)).mono ?_; rintro e w7 ⟨rfl, hw7⟩
  rw [HR3.out]
  have hb := Nx.trans hb hw7
  by_cases hX : NX < LIM
  · have p1 := HP1.out
    have p3 := HP3.out
    rw [if_pos hX] at p1 p3
    subst p1 p3
    have hX63 : NX < 9223372036854775808 := by unfold LIM at hX; omega
    have hO := or_sign NX hX63
    by_cases hY : NY < LIM
    · have p2 := HP2.out
      rw [if_pos hY] at p2
      subst p2
      have e1 : ((9223372036854775808 + NX : Nat) : Int) = 9223372036854775808 + (NX : Int) := by omega
      have hM1 := HM1.out
      have hM2 := HM2.out
      rw [e1] at hO
      rcases Nat.lt_trichotomy x y with h | h | h
      · have c1 : ¬ y < x := by omega
        have c3 : NX ≤ NY := hM1 (by omega)
        clear hM1 hM2 hX hY hX63 e1
        go_wp2_with fail
        go_ret
        exact ⟨rfl, hb⟩
      · have c1 : ¬ y < x := by omega
        have c2 : ¬ x < y := by omega
        have c3 : NX ≤ NY := hM1 (by omega)
        have c4 : NY ≤ NX := hM2 (by omega)
        clear hM1 hM2 hX hY hX63 e1 h
        go_wp2_with fail
        go_ret
        exact ⟨rfl, hb⟩
      · have c1 : ¬ x < y := by omega
        have c3 : NY ≤ NX := hM2 (by omega)
        clear hM1 hM2 hX hY hX63 e1
        go_wp2_with fail
        go_ret
        exact ⟨rfl, hb⟩
    · have p2 := HP2.out
      rw [if_neg hY] at p2
      subst p2
      clear hX hY hX63
      go_wp2_with fail
      go_ret
      exact ⟨rfl, hb⟩
  · have p1 := HP1.out
    have p3 := HP3.out
    rw [if_neg hX] at p1 p3
    subst p1 p3
    by_cases hY : NY < LIM
    · have p2 := HP2.out
      rw [if_pos hY] at p2
      subst p2
      clear hX hY
      go_wp2_with fail
      go_ret
      exact ⟨rfl, hb⟩
    · have p2 := HP2.out
      rw [if_neg hY] at p2
      subst p2
      clear hX hY
      go_wp2_with fail
      go_ret
      exact ⟨rfl, hb⟩
end Go.Proofs.YtddolmkmijkpiaaDoor
