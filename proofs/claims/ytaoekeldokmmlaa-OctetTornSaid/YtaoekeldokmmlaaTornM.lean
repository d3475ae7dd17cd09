/- What a turned bit does to a sealed record: plain lemmas on lists and numbers. -/
import Derived.Test.YtaoekeldokmmlaaSums
import Derived.Test.YtaoekeldokmmlaaTexts
namespace Go.Proofs.Ytaoekeldokmmlaa
open Go.RowKit

theorem crcStep_zero (t : Nat) (ht : t < 4294967296) (h : crcStep t = 0) : t = 0 := by
  unfold crcStep at h
  by_cases h2 : t % 2 = 1
  · rw [if_pos h2] at h
    have he : t / 2 = 2197175160 := by
      have := congrArg (· ^^^ 2197175160) h
      simp only [Nat.xor_assoc, Nat.xor_self, Nat.xor_zero, Nat.zero_xor] at this
      exact this
    omega
  · rw [if_neg h2, Nat.xor_zero] at h
    omega
theorem crcStep_lt (t : Nat) (ht : t < 4294967296) : crcStep t < 4294967296 := crcSteps_lt 1 t ht
theorem crcSteps_zero (k t : Nat) (ht : t < 4294967296) (h : crcSteps k t = 0) : t = 0 := by
  induction k with
  | zero => exact h
  | succ k ih => exact ih (crcStep_zero _ (crcSteps_lt k t ht) h)
theorem xor_eq_zero (a b : Nat) (h : a ^^^ b = 0) : a = b := by
  have := congrArg (· ^^^ b) h
  simpa [Nat.xor_assoc] using this
theorem crcSteps_inj (k r s : Nat) (hr : r < 4294967296) (hs : s < 4294967296) (h : crcSteps k r = crcSteps k s) : r = s := by
  have h2 : crcSteps k (r ^^^ s) = 0 := by rw [crcSteps_xor, h, Nat.xor_self]
  exact xor_eq_zero _ _ (crcSteps_zero k _ (Nat.xor_lt_two_pow (n := 32) hr hs) h2)
theorem xor_byte_lt (r : Nat) (x : UInt8) (hr : r < 4294967296) : r ^^^ x.toNat < 4294967296 := by
  have := x.toNat_lt
  exact Nat.xor_lt_two_pow (n := 32) hr (by omega)
theorem crcByte_lt (r : Nat) (x : UInt8) (hr : r < 4294967296) : crcByte r x < 4294967296 := crcSteps_lt 8 _ (xor_byte_lt r x hr)
theorem xor_left_inj (a b c : Nat) (h : a ^^^ b = a ^^^ c) : b = c := by
  have := congrArg (a ^^^ ·) h
  simpa [← Nat.xor_assoc] using this
theorem fold_inj : ∀ (l : List UInt8) (r s : Nat), r < 4294967296 → s < 4294967296 → l.foldl crcByte r = l.foldl crcByte s → r = s
  | [], _, _, _, _, h => h
  | x :: l, r, s, hr, hs, h => by
    have h1 := fold_inj l _ _ (crcByte_lt r x hr) (crcByte_lt s x hs) h
    have h2 := crcSteps_inj 8 _ _ (xor_byte_lt r x hr) (xor_byte_lt s x hs) h1
    rw [Nat.xor_comm r, Nat.xor_comm s] at h2
    exact xor_left_inj _ _ _ h2
theorem fold_lt : ∀ (l : List UInt8) (r : Nat), r < 4294967296 → l.foldl crcByte r < 4294967296
  | [], _, h => h
  | x :: l, r, h => fold_lt l _ (crcByte_lt r x h)
/-- one byte turned, another sum -/
theorem crc_set (l : List UInt8) (i : Nat) (hi : i < l.length) (y : UInt8) (hy : y ≠ l[i]) : crc (l.set i y) ≠ crc l := by
  intro h
  have h1 : crcReg (l.set i y) = crcReg l := xor_left_inj _ _ _ h
  have e1 : l = l.take i ++ l[i] :: l.drop (i + 1) := by rw [← List.drop_eq_getElem_cons hi, List.take_append_drop]
  have e2 : l.set i y = l.take i ++ y :: l.drop (i + 1) := by rw [List.set_eq_take_append_cons_drop, if_pos hi]
  rw [e2] at h1
  have h2 : crcReg (l.take i ++ y :: l.drop (i + 1)) = crcReg (l.take i ++ l[i] :: l.drop (i + 1)) := by rw [← e1]; exact h1
  unfold crcReg at h2
  rw [List.foldl_append, List.foldl_append, List.foldl_cons, List.foldl_cons] at h2
  have hr := fold_lt (l.take i) 4294967295 (by decide)
  generalize (l.take i).foldl crcByte 4294967295 = r at h2 hr
  have h3 := fold_inj _ _ _ (crcByte_lt r y hr) (crcByte_lt r l[i] hr) h2
  have h4 := crcSteps_inj 8 _ _ (xor_byte_lt r y hr) (xor_byte_lt r l[i] hr) h3
  have h5 := xor_left_inj _ _ _ h4
  exact hy (UInt8.toNat_inj.1 h5)
theorem num_inj' : ∀ (l m : List UInt8) (u v : Nat), l.length = m.length → l.foldl (fun v x => v * 256 + x.toNat) u = m.foldl (fun v x => v * 256 + x.toNat) v → u = v ∧ l = m
  | [], [], _, _, _, h => ⟨h, rfl⟩
  | [], _ :: _, _, _, h, _ => by simp at h
  | _ :: _, [], _, _, h, _ => by simp at h
  | x :: l, y :: m, u, v, h, h' => by
    obtain ⟨h1, h2⟩ := num_inj' l m _ _ (by simpa using h) h'
    have h1 : u * 256 + x.toNat = v * 256 + y.toNat := h1
    have hx := x.toNat_lt
    have hy := y.toNat_lt
    have h3 : x.toNat = y.toNat := by omega
    exact ⟨by omega, by rw [UInt8.toNat_inj.1 h3, h2]⟩
theorem num_inj (l m : List UInt8) (h : l.length = m.length) (h' : num l = num m) : l = m := (num_inj' l m 0 0 h h').2

/-- a sealed record -/
def record (xs : List UInt8) : List UInt8 := be 3 xs.length ++ xs ++ be 4 (crc xs)
theorem record_len (xs : List UInt8) : (record xs).length = 7 + xs.length := by simp [record, be_len]; omega
theorem record_take3 (xs : List UInt8) (h : xs.length < 16777216) : num ((record xs).take 3) = xs.length := by
  unfold record
  rw [List.append_assoc, take_left' _ _ _ (be_len _ _), num_be']
  exact Nat.mod_eq_of_lt h
theorem record_data (xs : List UInt8) (m : List UInt8) : ((record xs ++ m).drop 3).take xs.length = xs := by
  unfold record
  rw [List.append_assoc, List.append_assoc, drop_left' _ _ _ (be_len _ _), take_left' _ _ _ rfl]
theorem record_sum (xs : List UInt8) (m : List UInt8) : num (((record xs ++ m).drop (3 + xs.length)).take 4) = crc xs := by
  unfold record
  rw [List.append_assoc, drop_left' _ _ _ (by simp [be_len]), take_left' _ _ _ (be_len _ _), num_be']
  exact Nat.mod_eq_of_lt (crc_lt xs)
/-- a byte of it turned, not in its length -/
theorem record_turned (xs : List UInt8) (h : xs.length < 16777216) (q : Nat) (hq3 : 3 ≤ q) (hq : q < (record xs).length) (y : UInt8) (hy : y ≠ (record xs)[q]) :
    num (((record xs).set q y).take 3) = xs.length ∧
    num ((((record xs).set q y).drop (3 + xs.length)).take 4) ≠ crc ((((record xs).set q y).drop 3).take xs.length) := by
  have hlen := record_len xs
  constructor
  · rw [List.take_set_of_le (by omega)]; exact record_take3 xs h
  · have h1 : ((record xs).drop 3).take xs.length = xs := by simpa using record_data xs []
    have h2 : num (((record xs).drop (3 + xs.length)).take 4) = crc xs := by simpa using record_sum xs []
    by_cases hin : q < 3 + xs.length
    · rw [List.drop_set_of_lt hin, h2]
      have e : (((record xs).set q y).drop 3).take xs.length = xs.set (q - 3) y := by
        rw [List.drop_set, if_neg (by omega), List.take_set, h1]
      rw [e]
      refine fun he => crc_set xs (q - 3) (by omega) y ?_ he.symm
      intro hy'
      apply hy
      have hg : (record xs)[q]? = xs[q - 3]? := by
        unfold record
        rw [List.getElem?_append_left (by simp [be_len]; omega), List.getElem?_append_right (by simp [be_len]; omega), be_len]
      rw [List.getElem?_eq_getElem hq, List.getElem?_eq_getElem (by omega)] at hg
      rw [hy']
      exact (Option.some.inj hg).symm
    · have e : (((record xs).set q y).drop 3).take xs.length = xs := by
        rw [List.drop_set, if_neg (by omega), List.take_set_of_le (by omega), h1]
      rw [e]
      intro he
      rw [← h2] at he
      have hl := num_inj _ _ (by simp) he
      rw [List.drop_set, if_neg hin, List.take_set] at hl
      have hlt : q - (3 + xs.length) < (((record xs).drop (3 + xs.length)).take 4).length := by simp; omega
      have := congrArg (fun l => l[q - (3 + xs.length)]?) hl
      simp only [List.getElem?_set_self hlt, List.getElem?_eq_getElem hlt, Option.some.injEq] at this
      apply hy
      rw [this, List.getElem_take, List.getElem_drop]
      congr 1
      omega
end Go.Proofs.Ytaoekeldokmmlaa
