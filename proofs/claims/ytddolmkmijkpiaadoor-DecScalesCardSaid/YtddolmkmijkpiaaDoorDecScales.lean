/- DecScales: for every number and exponent the law returns true and leaves memory as it was. No condition. -/
import Derived.Test.YtddolmkmijkpiaaDoorDecT4
namespace Go.Proofs.YtddolmkmijkpiaaDoor
open Go.RowKit

set_option maxRecDepth 100000 in
set_option maxHeartbeats 1600000 in
theorem DecScales_walk (a b : Int) (w : World) (ht : Tab w) (ha1 : 0 ≤ a) (ha2 : a ≤ 18446744073709551615) (hb1 : 0 ≤ b) (hb2 : b ≤ 255) :
    Calls Tryd.prog 11 #[.int .u64 a, .int .u8 b] w fun e w' => e = .returned (.bool true) ∧ Below w.heap.size w w' := by
  obtain ⟨x, hx, hx1, hx2⟩ : ∃ x : Nat, 1 + a % 100000000000000000 = (x : Int) ∧ 1 ≤ x ∧ (x : Int) ≤ 100000000000000000 := ⟨(1 + a % 100000000000000000).toNat, by omega, by omega, by omega⟩
  obtain ⟨x2, hx3, hx4⟩ : ∃ x2 : Nat, 2 * (x : Int) = (x2 : Int) ∧ Hid (x2 = 2 * x) := ⟨2 * x, by omega, rfl⟩
  obtain ⟨k, hk, hk1, hk2⟩ : ∃ k : Int, b % 200 - 100 = k ∧ -100 ≤ k ∧ k ≤ 99 := ⟨_, rfl, by omega, by omega⟩
  obtain ⟨N, HN⟩ : ∃ N, Hid (numS x k = N) := ⟨_, rfl⟩
  have hNl : N + 4503599627370496 < LIM := by
    rw [← HN.out, ← numS_two x k hx1 hk1]
    exact numS_lt (2 * x) k 18 (by omega) (by decide) (by omega)
  have hp1 : Hid (parseS (decS x ++ (101 :: tenS k)) = (N, 0)) := by
    unfold Hid
    rw [parse_exp x (by omega) k (by omega) (by omega), HN.out, if_pos (by omega)]
  have hp2 : Hid (parseS (decS x2 ++ (101 :: tenS k)) = (N + 4503599627370496, 0)) := by
    unfold Hid
    rw [hx4.out, parse_exp (2 * x) (by omega) k (by omega) (by omega), numS_two x k hx1 hk1, HN.out, if_pos hNl]
  have hN2 : (N : Int) ≤ 9218868437227405312 := by unfold LIM at hNl; omega
  have hxi : (x2 : Int) ≤ 9223372036854775807 := by omega
  have hkl := tenS_len k (by omega) (by omega)
  have hxl := decS_len 19 x (by omega)
  have hxl2 := decS_len 19 x2 (by omega)
  clear hNl
  go_enter Tryd.func11, Tryd.ntmps11
  go_wp2_with fail
  refine (dbegun_any _ ht).mono ?_; rintro e w0 ⟨rfl, hb⟩
  go_wp2_with fail
  refine (tenText_t k _ (by omega) (by omega) 20 hkl).mono ?_; rintro e w1 ⟨tk, rfl, htk, hts, hw1⟩
  have hb := Nx.trans hb hw1
  have hs1 : ¬ 9223372036854775807 < 1 + tk.size := by omega
  go_wp2_with fail
  refine (tenText_n x _ (by omega)).mono ?_; rintro e w2 ⟨tx, rfl, htx, htxs, hw2⟩
  have hb := Nx.trans hb hw2
  have hex : Tx (⟨#[101]⟩ ++ tk) (101 :: tenS k) := Tx.plus (Tx.of [101]) htk.out
  generalize (⟨#[101]⟩ ++ tk : ByteArray) = ex at *
  have hexs : ex.size ≤ 30 := Tx.sz hex 30 (by simp; omega)
  have hs2 : ¬ 9223372036854775807 < tx.size + ex.size := by omega
  have HEX := Lib.hid hex
  clear hex
  go_wp2_with fail
  refine (parse_any _ (decS x ++ (101 :: tenS k)) _ (Tx.plus htx.out HEX.out) (by simp; omega)).mono ?_; rintro e w3 ⟨rfl, hw3⟩
  rw [hp1.out]
  have hb := Nx.trans hb hw3
  go_wp2_with fail
  refine (tenText_n x2 _ hxi).mono ?_; rintro e w4 ⟨ty, rfl, hty, htys, hw4⟩
  have hb := Nx.trans hb hw4
  have hs3 : ¬ 9223372036854775807 < ty.size + ex.size := by omega
  go_wp2_with fail
  refine (parse_any _ (decS x2 ++ (101 :: tenS k)) _ (Tx.plus hty.out HEX.out) (by simp; omega)).mono ?_; rintro e w5 ⟨rfl, hw5⟩
  rw [hp2.out]
  have hb := Nx.trans hb hw5
  go_wp2_with fail
  go_ret
  exact ⟨rfl, hb⟩
end Go.Proofs.YtddolmkmijkpiaaDoor
