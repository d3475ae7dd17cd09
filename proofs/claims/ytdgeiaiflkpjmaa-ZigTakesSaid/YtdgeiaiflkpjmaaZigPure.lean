/- What is put is taken; cut off it is short; how many bytes a number has. Lemmas on lists of bytes. -/
import Derived.Test.YtdgeiaiflkpjmaaZigTake
namespace Go.Proofs.Ytdgeiaiflkpjmaa
open Go.RowKit

theorem toNat_byte (n : Nat) (h : n < 256) : (UInt8.ofNat n).toNat = n := by rw [UInt8.toNat_ofNat']; omega
theorem div_pow_ne (x R : Nat) : x / 2 ^ R ≠ 0 ↔ ¬ x < 2 ^ R := by
  have hp : 0 < 2 ^ R := Nat.pow_pos (by decide)
  rw [Ne, Nat.div_eq_zero_iff_lt hp]
theorem pow128 (n : Nat) : 128 ^ n = 2 ^ (7 * n) := by rw [Nat.pow_mul]
theorem split128 (x R : Nat) (h : 8 ≤ R) : x / 128 < 2 ^ (R - 7) ↔ x < 2 ^ R := by
  have e : 2 ^ R = 2 ^ (R - 7) * 128 := by
    rw [show (128 : Nat) = 2 ^ 7 from rfl, ← Nat.pow_add, show R - 7 + 7 = R from by omega]
  rw [e, Nat.div_lt_iff_lt_mul (by decide)]
theorem sum128 (a x i : Nat) : a + x % 128 * 2 ^ (7 * i) + x / 128 * 2 ^ (7 * (i + 1)) = a + x * 2 ^ (7 * i) := by
  have e : 2 ^ (7 * (i + 1)) = 128 * 2 ^ (7 * i) := by rw [show 7 * (i + 1) = 7 + 7 * i from by omega, Nat.pow_add]
  have h : x * 2 ^ (7 * i) = (x % 128 + 128 * (x / 128)) * 2 ^ (7 * i) := by rw [Nat.mod_add_div]
  rw [e, h, Nat.add_mul, Nat.add_assoc, ← Nat.mul_assoc, Nat.mul_comm (x / 128) 128]

theorem tv_last (bits i a x : Nat) (m : List UInt8) (hx : x < 128) (hi : 7 * i < bits) :
    tv bits ([UInt8.ofNat x] ++ m) i a = if x < 2 ^ (bits - 7 * i) then (a + x * 2 ^ (7 * i), i + 1, 0) else (0, 0, 4) := by
  rw [List.singleton_append, tv, toNat_byte x (by omega)]
  by_cases h : x < 2 ^ (bits - 7 * i)
  · rw [if_neg (fun h' => (div_pow_ne _ _).1 ((room_iff x _ (by omega) (by omega)).1 h') h), if_pos hx, if_pos h, Nat.mod_eq_of_lt hx]
  · rw [if_pos ((room_iff x _ (by omega) (by omega)).2 ((div_pow_ne _ _).2 h)), if_neg h]

theorem tv_vi (bits : Nat) (m : List UInt8) (hb : bits ≤ 64) : ∀ (f x i a : Nat), x < 128 ^ (f + 1) → i + f = 9 → 7 * i < bits →
    tv bits (vi f x ++ m) i a = if x < 2 ^ (bits - 7 * i) then (a + x * 2 ^ (7 * i), i + (vi f x).length, 0) else (0, 0, 4)
  | 0, x, i, a, hx, _, hi => tv_last bits i a x m (by simpa using hx) hi
  | f + 1, x, i, a, hx, hif, hi => by
    by_cases h : x < 128
    · rw [vi_small _ _ h]; exact tv_last bits i a x m h hi
    · rw [vi_big _ _ (by omega), List.cons_append, tv, toNat_byte _ (by omega)]
      by_cases h8 : 8 ≤ bits - 7 * i
      · rw [if_neg (by rintro (⟨h1, _⟩ | ⟨h1, _⟩) <;> omega), if_neg (by omega), show (x % 128 + 128) % 128 = x % 128 from by omega]
        have hx' : x / 128 < 128 ^ (f + 1) := by rw [Nat.pow_succ] at hx; exact Nat.div_lt_of_lt_mul (by omega)
        rw [tv_vi bits m hb f (x / 128) (i + 1) _ hx' (by omega) (by omega), sum128, show bits - 7 * (i + 1) = bits - 7 * i - 7 from by omega]
        have hs := split128 x (bits - 7 * i) h8
        by_cases h2 : x < 2 ^ (bits - 7 * i)
        · rw [if_pos (hs.2 h2), if_pos h2, List.length_cons, show i + 1 + (vi f (x / 128)).length = i + ((vi f (x / 128)).length + 1) from by omega]
        · rw [if_neg (fun h3 => h2 (hs.1 h3)), if_neg h2]
      · rw [if_pos (.inr ⟨by omega, by omega⟩), if_neg]
        have : 2 ^ (bits - 7 * i) ≤ 2 ^ 7 := Nat.pow_le_pow_right (by decide) (by omega)
        omega

/-- what is put is taken, if it has no more bits, whatever stands behind -/
theorem take_put (bits x : Nat) (m : List UInt8) (h1 : 1 ≤ bits) (hb : bits ≤ 64) (hx : x < 2 ^ 64) :
    takeVarS bits (varint x ++ m) = if x < 2 ^ bits then (x, (varint x).length, 0) else (0, 0, 4) := by
  unfold takeVarS varint
  have e : (128 : Nat) ^ 10 = 1180591620717411303424 := rfl
  have e2 : (2 : Nat) ^ 64 = 18446744073709551616 := rfl
  rw [tv_vi bits m hb 9 x 0 0 (by omega) (by omega) (by omega)]
  simp

theorem tv_cut : ∀ (f x i a j : Nat), i + f = 9 → j < (vi f x).length → tv 64 ((vi f x).take j) i a = (0, 0, 3)
  | f, x, i, a, 0, _, _ => by simp [tv]
  | 0, x, i, a, j + 1, _, hj => by simp [vi] at hj
  | f + 1, x, i, a, j + 1, hif, hj => by
    by_cases h : x < 128
    · rw [vi_small _ _ h] at hj; simp at hj
    · rw [vi_big _ _ (by omega)] at hj ⊢
      rw [List.take_succ_cons, tv, toNat_byte _ (by omega), if_neg (by rintro (⟨h1, _⟩ | ⟨h1, _⟩) <;> omega), if_neg (by omega)]
      exact tv_cut f (x / 128) (i + 1) _ j (by omega) (by simpa using hj)
theorem take_cut (x j : Nat) (hj : j < (varint x).length) : takeVarS 64 ((varint x).take j) = (0, 0, 3) := tv_cut 9 x 0 0 j rfl hj

/-- how many bytes a number has -/
theorem vi_length : ∀ (f n x : Nat), 1 ≤ n → n ≤ f + 1 → (n = 1 ∨ 128 ^ (n - 1) ≤ x) → (n = f + 1 ∨ x < 128 ^ n) → (vi f x).length = n
  | 0, n, x, h1, h2, _, _ => by simp [vi]; omega
  | f + 1, n, x, h1, h2, h3, h4 => by
    by_cases h : x < 128
    · rw [vi_small _ _ h]
      rcases h3 with h3 | h3
      · simp [h3]
      · rcases Nat.lt_or_ge 1 n with h5 | h5
        · have : 128 ^ 1 ≤ 128 ^ (n - 1) := Nat.pow_le_pow_right (by decide) (by omega)
          omega
        · simp; omega
    · rw [vi_big _ _ (by omega), List.length_cons]
      obtain ⟨n, rfl⟩ : ∃ k, n = k + 1 := ⟨n - 1, by omega⟩
      have hn : 1 ≤ n := by
        rcases Nat.eq_zero_or_pos n with h0 | h0
        · subst h0
          rcases h4 with h4 | h4
          · omega
          · simp at h4; omega
        · exact h0
      rw [vi_length f n (x / 128) hn (by omega) ?_ ?_]
      · rcases h3 with h3 | h3
        · omega
        · rcases Nat.lt_or_ge 1 n with h5 | h5
          · refine .inr ?_
            rw [Nat.le_div_iff_mul_le (by decide), ← Nat.pow_succ, show (n - 1).succ = n from by omega]
            simpa using h3
          · exact .inl (by omega)
      · rcases h4 with h4 | h4
        · exact .inl (by omega)
        · refine .inr ?_
          rw [Nat.pow_succ] at h4
          exact Nat.div_lt_of_lt_mul (by omega)
end Go.Proofs.Ytdgeiaiflkpjmaa
