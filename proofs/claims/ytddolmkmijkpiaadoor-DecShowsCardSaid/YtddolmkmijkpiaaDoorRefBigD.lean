/- The contracts of the document's answers for big: bits, powers of ten, whether two lists are one. -/
import Derived.Test.YtddolmkmijkpiaaDoorRefBigC
namespace Go.Proofs.YtddolmkmijkpiaaDoor
open Go.RowKit

theorem bit_val (xs : List UInt32) (i : Nat) : ent xs (i / 32) / 2 ^ (i % 32) % 2 = val xs / 2 ^ i % 2 := by
  rw [ent_val]
  generalize val xs = V
  have hB : (4294967296 : Nat) ^ (i / 32) = 2 ^ (32 * (i / 32)) := by rw [Nat.pow_mul]
  have h32 : (4294967296 : Nat) = 2 ^ (i % 32) * 2 ^ (32 - i % 32) := by
    rw [← Nat.pow_add, show i % 32 + (32 - i % 32) = 32 from by omega]
  have hi : 2 ^ i = 2 ^ (32 * (i / 32)) * 2 ^ (i % 32) := by rw [← Nat.pow_add]; congr 1; omega
  rw [hB, hi, ← Nat.div_div_eq_div_mul]
  generalize V / 2 ^ (32 * (i / 32)) = W
  rw [h32, Nat.mod_mul_right_div_self]
  exact Nat.mod_mod_of_dvd _ ⟨2 ^ (32 - i % 32 - 1), by rw [← Nat.pow_succ']; congr 1; omega⟩

theorem and_one64 (a m : Nat) (ha : (a : Int) ≤ 4294967295) : bits .and .u64 ((a : Int) / 2 ^ m) 1 = ((a / 2 ^ m % 2 : Nat) : Int) := by
  have hle : a / 2 ^ m ≤ a := Nat.div_le_self _ _
  have hl1 : a / 2 ^ m < 18446744073709551616 := by omega
  have := bits_and_u64_nat (a / 2 ^ m) 1 hl1 (by decide)
  rw [Nat.and_one_is_mod] at this
  rw [← this]
  simp

set_option maxRecDepth 100000 in
set_option maxHeartbeats 800000 in
theorem refBit_any (A : Option Addr) (xs : List UInt32) (c : Nat) (i : Nat) (w : World) (hr : Rd uv w A xs) (hc : xs.length ≤ c) (hl : (xs.length : Int) ≤ 1000000) (hi : (i : Int) ≤ 1000000000) :
    Calls Tryd.prog 56 #[.slice A xs.length c, .int .i64 i] w fun e w' => e = .returned (.int .u64 (val xs / 2 ^ i % 2 : Nat)) ∧ w = w' := by
  obtain ⟨a, HX⟩ : ∃ a, Hid (ent xs (i / 32) = a) := ⟨_, rfl⟩
  have la : (a : Int) ≤ 4294967295 := by rw [← HX.out]; exact ent_le xs _
  have HB : Hid (a / 2 ^ (i % 32) % 2 = val xs / 2 ^ i % 2) := by unfold Hid; rw [← HX.out]; exact bit_val xs i
  have hand := Lib.hid (and_one64 a (i % 32) la)
  go_enter Tryd.func56, Tryd.ntmps56
  go_wp2_with fail
  refine (refAt_any A xs c (i / 32) _ hr hc hl (by omega)).mono ?_; rintro e w' ⟨rfl, rfl⟩
  rw [HX.out]
  go_wp2_with fail
  go_ret
  refine ⟨?_, rfl⟩
  rw [← HB.out, ← hand.out]
  rfl

/-- how many bits a number has -/
theorem bits_unique (n k : Nat) (h1 : n < 2 ^ k) (h2 : k = 0 ∨ 2 ^ (k - 1) ≤ n) : k = if n = 0 then 0 else Nat.log2 n + 1 := by
  by_cases hn : n = 0
  · subst hn
    rw [if_pos rfl]
    rcases h2 with h | h
    · exact h
    · have := Nat.pow_pos (n := k - 1) (show 0 < 2 by decide); omega
  · rw [if_neg hn]
    rcases h2 with h | h
    · subst h; simp at h1; omega
    · have a1 : k ≠ 0 := by rintro rfl; simp at h1; omega
      have a2 : Nat.log2 n < k := (Nat.log2_lt hn).2 h1
      have a3 : k - 1 ≤ Nat.log2 n := (Nat.le_log2 hn).2 h
      omega
def blen (n : Nat) : Nat := if n = 0 then 0 else Nat.log2 n + 1
theorem top_bit (n k : Nat) (h1 : n < 2 ^ (k + 1)) : (n / 2 ^ k % 2 = 0 → n < 2 ^ k) ∧ (n / 2 ^ k % 2 ≠ 0 → 2 ^ k ≤ n) := by
  have h : n / 2 ^ k < 2 := Nat.div_lt_of_lt_mul (by rw [Nat.pow_succ] at h1; exact h1)
  constructor
  · intro h0
    have : n / 2 ^ k = 0 := by
      generalize n / 2 ^ k = q at *
      omega
    exact (Nat.div_eq_zero_iff_lt (Nat.pow_pos (by decide))).1 this
  · intro h0
    rcases Nat.lt_or_ge n (2 ^ k) with h | h
    · rw [Nat.div_eq_of_lt h] at h0; omega
    · exact h

set_option maxRecDepth 100000 in
set_option maxHeartbeats 800000 in
theorem refBits_any (A : Option Addr) (xs : List UInt32) (c : Nat) (w : World) (hr : Rd uv w A xs) (hc : xs.length ≤ c) (hm : c ≤ maxLen) (hl : (xs.length : Int) ≤ 200000) :
    Calls Tryd.prog 36 #[.slice A xs.length c] w fun e w' => e = .returned (.int .i64 (blen (val xs) : Nat)) ∧ Below w.heap.size w w' := by
  go_enter Tryd.func36, Tryd.ntmps36
  go_wp2_with fail
  refine (refNorm_any A xs c _ hr hc hm (by omega)).mono ?_; rintro e w1 ⟨v1, rfl, hown1, hb1⟩
  have hlen : (limbs (val xs)).length ≤ xs.length := limbs_len _ _ (val_lt xs)
  obtain ⟨A1, c1, ys, rfl, HY, hy1, hy2, hc1, hm1, hr1, -⟩ := hown1.name (limbs (val xs)).length rfl
  have HV : Hid (val ys = val xs) := by unfold Hid; rw [HY.out, val_limbs]
  have hyl : (ys.length : Int) ≤ 200000 := by omega
  clear hlen hy1 hy2 HY hown1
  go_wp2_with fail
  go_loop [4] (fun v => ∃ n : Nat, v = .int .i64 n ∧ n ≤ 32 * ys.length ∧ Hid (val xs < 2 ^ n)) (fun v => (intOf v).toNat)
  case atStart =>
    refine ⟨32 * ys.length, by go_num, Nat.le_refl _, ?_⟩
    unfold Hid
    rw [← HV.out, Nat.pow_mul]
    exact val_lt ys
  case round =>
    obtain ⟨n, rfl, hn, HN⟩ := hrel
    rcases n with _ | n
    · have hfin : Hid (blen (val xs) = 0) := by
        unfold Hid blen
        have := HN.out
        rw [if_pos (by simpa using this)]
      go_wp2_with fail
      go_ret
      refine ⟨?_, hb1⟩
      rw [hfin.out]
      rfl
    · obtain ⟨b, HB⟩ : ∃ b, Hid (val ys / 2 ^ n % 2 = b) := ⟨_, rfl⟩
      have hb2 : b ≤ 1 := by rw [← HB.out]; omega
      have ht := top_bit (val xs) n HN.out
      rw [← HV.out, HB.out] at ht
      have HT := Lib.hid ht
      clear ht
      by_cases h0 : b = 0
      · subst h0
        go_wp2_with fail
        refine (refBit_any A1 ys c1 n _ hr1 hc1 (by omega) (by omega)).mono ?_; rintro e w' ⟨rfl, rfl⟩
        rw [HB.out]
        go_wp2_with fail
        go_round
        case rel => exact ⟨n, by go_num, by omega, by unfold Hid; rw [← HV.out]; exact HT.out.1 (by trivial)⟩
        case measure => simp [intOf]
      · obtain rfl : b = 1 := by omega
        have hfin : Hid (blen (val xs) = n + 1) := (bits_unique _ _ HN.out (.inr (by rw [← HV.out]; exact HT.out.2 (by decide)))).symm
        go_wp2_with fail
        refine (refBit_any A1 ys c1 n _ hr1 hc1 (by omega) (by omega)).mono ?_; rintro e w' ⟨rfl, rfl⟩
        rw [HB.out]
        go_wp2_with fail
        go_ret
        refine ⟨?_, hb1⟩
        rw [hfin.out]
        rfl

theorem Own.litU {w : World} {g : Nat} (xs : List UInt32) (hg : g = w.heap.size) (hm : xs.length ≤ maxLen) : Own uv 57 (w.alloc (.cells (xs.map uv).toArray 57)) w.heap.size (.slice (some ⟨g, 0, none⟩) xs.length xs.length) xs := by
  subst hg
  exact ⟨by simp, .inr ⟨w.heap.size, xs.length, _, rfl, Nat.le_refl _, heap_alloc_new w _, Nat.le_refl _, hm, by simp, by rw [Nat.mul_one]; exact List.take_of_length_le (by simp)⟩⟩

end Go.Proofs.YtddolmkmijkpiaaDoor
