/- ZigTakes: for every number, width, bytes behind and cut the law returns true and leaves memory as it was. No condition. -/
import Derived.Test.YtdgeiaiflkpjmaaZigForms
import Derived.Test.YtdgeiaiflkpjmaaZigPure
namespace Go.Proofs.Ytdgeiaiflkpjmaa
open Go.RowKit

theorem place_any (a : Int) (n : Nat) (w : World) (h1 : -9223372036854775808 ≤ a) (h2 : a ≤ 9223372036854775807) (hn : 0 < n) (hl : (n : Int) ≤ 1000000) :
    Calls Try.prog 23 #[.int .i64 a, .int .i64 n] w fun e w' => ∃ j : Nat, e = .returned (.int .i64 j) ∧ j < n ∧ w = w' := by
  have b1 : -(n : Int) < a.tmod n := by
    have := Int.lt_tmod_of_pos a (show (0 : Int) < n by omega); omega
  have b2 : a.tmod n < n := Int.tmod_lt_of_pos a (by omega)
  have b3 : decide ((n : Int) ≤ 0) = false := decide_eq_false (by omega)
  have b4 : ((n : Int) == 0) = false := by rw [beq_eq_false_iff_ne]; omega
  go_enter Try.func23, Try.ntmps23
  go_wp2_with fail
  go_ret
  refine ⟨((a.tmod n + n) % n).toNat, ?_, ?_, rfl⟩
  · exact ret_int (by have := Int.emod_nonneg (a.tmod n + n) (show (n : Int) ≠ 0 by omega); omega)
  · have := Int.emod_lt_of_pos (a.tmod n + n) (show (0 : Int) < n by omega); omega

theorem take_isI (A : Option Addr) (xs : List UInt8) (c : Nat) (bits : Int) (K v n er : Nat) (w : World) (hK : bits = (K : Int)) (hr : Rd bv w A xs) (hc : xs.length ≤ c) (hm : c ≤ maxLen) (hl : (xs.length : Int) ≤ 1000000) (hb1 : 1 ≤ K) (hb2 : K ≤ 64) (h : takeVarS K xs = (v, n, er)) :
    Calls Try.prog 10 #[.slice A xs.length c, .int .i64 bits] w fun e w' => e = .returned (.tuple #[.int .u64 v, .int .i64 n, .int .i64 er]) ∧ w = w' := by
  subst hK
  exact take_is A xs c K v n er w hr hc hm hl hb1 hb2 h

theorem shr_test (x K : Nat) (k : Int) (hK : k = (K : Int)) : ((x : Int) / 2 ^ k.toNat != 0) = !decide (x < 2 ^ K) := by
  subst hK
  have e : (x : Int) / 2 ^ K = ((x / 2 ^ K : Nat) : Int) := by rw [Int.natCast_ediv, Int.natCast_pow]; rfl
  rw [Int.toNat_natCast, e]
  by_cases h : x < 2 ^ K
  · have h0 : x / 2 ^ K = 0 := Decidable.byContradiction fun h0 => (div_pow_ne x K).1 h0 h
    rw [h0, decide_eq_true h]; rfl
  · have h0 := (div_pow_ne x K).2 h
    rw [decide_eq_false h, Bool.not_false, bne_iff_ne]
    omega

set_option maxHeartbeats 1600000 in
theorem ZigTakes_walk (x : Int) (b : Int) (A : Option Addr) (ms : List UInt8) (c : Nat) (cut : Int) (w : World) (hx1 : 0 ≤ x) (hx2 : x ≤ 18446744073709551615) (hb1 : 0 ≤ b) (hbb : b ≤ 255) (hr : Rd bv w A ms) (hc : ms.length ≤ c) (hm : c ≤ maxLen) (hk1 : -9223372036854775808 ≤ cut) (hk2 : cut ≤ 9223372036854775807) :
    Calls Try.prog 5 #[.int .u64 x, .int .u8 b, .slice A ms.length c, .int .i64 cut] w fun e w' => e = .returned (.bool true) ∧ Below w.heap.size w w' := by
  obtain ⟨x, rfl⟩ := Int.eq_ofNat_of_zero_le hx1
  by_cases hlong : (ms.length : Int) ≤ 10
  · have hd : decide (10 < (ms.length : Int)) = false := decide_eq_false (by omega)
    go_enter Try.func5, Try.ntmps5
    go_wp2_with fail
    refine (zbegun_any _).mono ?_; rintro e w0 ⟨rfl, hb0⟩
    have hr0 := hr.below hb0
    go_wp2_with fail
    refine (put_any none [] 0 x _ Rd.nil (by decide) (by decide) (by omega) (by decide)).mono ?_; rintro e w1 ⟨v1, rfl, hown1, hb1⟩
    have hlen0 : 1 ≤ (varint x).length := (vi_len 9 x).1
    have hlen : (varint x).length ≤ 10 := (vi_len 9 x).2
    obtain ⟨A1, c1, W1, rfl, HW1, h1a, h1b, hc1, hm1, hr1, -⟩ := hown1.name (varint x).length (by simp)
    have hr1' := hr0.below hb1
    go_wp2_with (first
      | (at_builtin; refine wpList_app (f := bv) _ bTz rfl _ _ rfl bv_one w1.heap.size _ _ _ rfl hown2 _ _ rfl (hr1'.below hb2) (by simp [maxLen]; omega) (by simp; omega) hs2 ?_; intro v3 w3 hown3 hb3)
      | (at_builtin; refine wpList_app (f := bv) _ bTz rfl _ _ rfl bv_one w1.heap.size _ [] W1 rfl (Own.empty w1) _ _ rfl (hr1.alloc _) (by simp [maxLen]; omega) (by simp; omega) (by simp) ?_; intro v2 w2 hown2 hb2'; rw [List.nil_append] at hown2; have hb2 : Below w1.heap.size w1 w2 := (nx0 w1 _).trans hb2'; have hs2 := hb2.size))
    obtain ⟨K, hK⟩ := Int.eq_ofNat_of_zero_le (show 0 ≤ 1 + b % 64 by omega)
    obtain ⟨A3, c3, W3, rfl, HW3, h3a, h3b, hc3, hm3, hr3, -⟩ := hown3.name (W1.length + ms.length) (by simp)
    have hr13 := hr1.below (hb2.trans hb3)
    have hbb3 : Below w0.heap.size w0 w3 := nx hb1 (hb2.trans hb3)
    clear hown1 hown2 hown3
    have hx64 : x < 2 ^ 64 := by have e2 : (2 : Nat) ^ 64 = 18446744073709551616 := rfl; omega
    have hW1 : W1 = varint x := by rw [HW1.out]; simp
    have ht := take_put K x ms (by omega) (by omega) hx64
    rw [← hW1, ← HW3.out] at ht
    have HW := Lib.hid hW1
    clear hW1
    have hst := shr_test x K K rfl
    rw [Int.toNat_natCast] at hst
    have q1 : ((x : Int) == (x : Int)) = true := by simp
    have q2 : ((W1.length : Int) == (W1.length : Int)) = true := by simp
    by_cases hv : x < 2 ^ K
    · rw [if_pos hv] at ht
      rw [decide_eq_true hv, Bool.not_true] at hst
      refine (take_isI A3 W3 c3 _ K x W1.length 0 _ hK hr3 hc3 hm3 (by omega) (by omega) (by omega) ht).mono ?_; rintro e w' ⟨rfl, rfl⟩
      go_wp2_with fail
      refine (place_any cut W1.length _ hk1 hk2 (by omega) (by omega)).mono ?_; rintro e w' ⟨j, rfl, hj, rfl⟩
      go_wp2_with (refine wpList_sl (f := bv) _ bTz rfl _ _ _ rfl A1 W1 c1 rfl hr13 hc1 0 j (.inl ⟨rfl, rfl⟩) (.inr ⟨_, _, rfl, rfl⟩) (by omega) (by omega) (by omega) ?_; intro A4 ys c4 hcut hc4 hc4'; obtain ⟨hr4, HY, h4a, h4b⟩ := hcut)
      have hy : takeVarS 64 ys = (0, 0, 3) := by
        rw [HY.out, HW.out]
        exact take_cut x j (by omega)
      refine (take_is A4 ys c4 64 0 0 3 _ hr4 hc4 (by omega) (by omega) (by omega) (by omega) hy).mono ?_; rintro e w' ⟨rfl, rfl⟩
      clear hv HY HW HW1 HW3 ht hy hx64
      by_cases h64 : (K : Int) < 64
      · have q3 : decide ((K : Int) < 64) = true := decide_eq_true h64
        go_wp2_with fail
        go_ret
        exact ⟨rfl, nx hb0 hbb3⟩
      · have q3 : decide ((K : Int) < 64) = false := decide_eq_false h64
        go_wp2_with fail
        go_ret
        exact ⟨rfl, nx hb0 hbb3⟩
    · rw [if_neg hv] at ht
      rw [decide_eq_false hv, Bool.not_false] at hst
      refine (take_isI A3 W3 c3 _ K 0 0 4 _ hK hr3 hc3 hm3 (by omega) (by omega) (by omega) ht).mono ?_; rintro e w' ⟨rfl, rfl⟩
      go_wp2_with fail
      refine (place_any cut W1.length _ hk1 hk2 (by omega) (by omega)).mono ?_; rintro e w' ⟨j, rfl, hj, rfl⟩
      go_wp2_with (refine wpList_sl (f := bv) _ bTz rfl _ _ _ rfl A1 W1 c1 rfl hr13 hc1 0 j (.inl ⟨rfl, rfl⟩) (.inr ⟨_, _, rfl, rfl⟩) (by omega) (by omega) (by omega) ?_; intro A4 ys c4 hcut hc4 hc4'; obtain ⟨hr4, HY, h4a, h4b⟩ := hcut)
      have hy : takeVarS 64 ys = (0, 0, 3) := by
        rw [HY.out, HW.out]
        exact take_cut x j (by omega)
      refine (take_is A4 ys c4 64 0 0 3 _ hr4 hc4 (by omega) (by omega) (by omega) (by omega) hy).mono ?_; rintro e w' ⟨rfl, rfl⟩
      have q3 : decide ((K : Int) < 64) = true := by
        refine decide_eq_true ?_
        rcases Nat.lt_or_ge K 64 with h | h
        · omega
        · exact absurd (Nat.lt_of_lt_of_le hx64 (Nat.pow_le_pow_right (by decide) h)) hv
      clear hv HY HW HW1 HW3 ht hy hx64
      go_wp2_with fail
      go_ret
      exact ⟨rfl, nx hb0 hbb3⟩
  · have hd : decide (10 < (ms.length : Int)) = true := decide_eq_true (by omega)
    go_enter Try.func5, Try.ntmps5
    go_wp2_with fail
    refine (zbegun_any _).mono ?_; rintro e w0 ⟨rfl, hb0⟩
    go_wp2_with fail
    go_ret
    exact ⟨rfl, hb0⟩
end Go.Proofs.Ytdgeiaiflkpjmaa
