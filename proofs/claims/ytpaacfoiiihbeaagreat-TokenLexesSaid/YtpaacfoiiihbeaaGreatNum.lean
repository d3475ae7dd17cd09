/- A number that is read: the words in which contracts of big speak. -/
import Derived.Test.YtpaacfoiiihbeaaGreatBigP
namespace Go.Proofs.YtpaacfoiiihbeaaGreat
open Go.RowKit

/-- a number that is read: some slice of its one list -/
def IsNum (w : World) (v : Value) (n : Nat) : Prop := ∃ A c ys, v = .slice A ys.length c ∧ Rd uv w A ys ∧ ys.length ≤ c ∧ c ≤ maxLen ∧ Hid (ys = limbs n)
theorem IsNum.below {w w' : World} {v : Value} {n : Nat} (h : IsNum w v n) (hb : Below w.heap.size w w') : IsNum w' v n := by
  obtain ⟨A, c, ys, h1, h2, h3⟩ := h
  exact ⟨A, c, ys, h1, h2.below hb, h3⟩
theorem IsNum.cast {w : World} {v : Value} {n m : Nat} (h : IsNum w v n) (e : n = m) : IsNum w v m := e ▸ h
theorem IsNum.zero (w : World) : IsNum w (.slice none 0 0) 0 := ⟨none, 0, [], rfl, Rd.nil, Nat.le_refl _, Nat.zero_le _, rfl⟩
/-- opened, with a bound on the length -/
theorem IsNum.open_ {w : World} {v : Value} {n : Nat} (h : IsNum w v n) (k : Nat) (hk : n < 4294967296 ^ k) : ∃ A c ys, v = .slice A ys.length c ∧ Rd uv w A ys ∧ ys.length ≤ c ∧ c ≤ maxLen ∧ ys.length ≤ k ∧ Hid (ys = limbs n) ∧ Hid (val ys = n) := by
  obtain ⟨A, c, ys, h1, h2, h3, h4, h5⟩ := h
  refine ⟨A, c, ys, h1, h2, h3, h4, ?_, h5, ?_⟩
  · rw [h5.out]; exact limbs_len _ _ hk
  · unfold Hid; rw [h5.out, val_limbs]

/-- a number of at most K entries that is read -/
def Num (w : World) (v : Value) (n K : Nat) : Prop := ∃ A c ys, v = .slice A ys.length c ∧ Rd uv w A ys ∧ ys.length ≤ c ∧ c ≤ maxLen ∧ ys.length ≤ K ∧ val ys = n
theorem Num.below {w w' : World} {v : Value} {n K : Nat} (h : Num w v n K) (hb : Below w.heap.size w w') : Num w' v n K := by
  obtain ⟨A, c, ys, h1, h2, h3⟩ := h
  exact ⟨A, c, ys, h1, h2.below hb, h3⟩
theorem IsNum.num {w : World} {v : Value} {n K : Nat} (h : IsNum w v n) (hk : n < 4294967296 ^ K) : Num w v n K := by
  obtain ⟨A, c, ys, h1, h2, h3, h4, h5, h6, h7⟩ := h.open_ K hk
  exact ⟨A, c, ys, h1, h2, h3, h4, h5, h7⟩
theorem Num.of {w : World} {A : Option Addr} {xs : List UInt32} {c K : Nat} (hr : Rd uv w A xs) (hc : xs.length ≤ c) (hm : c ≤ maxLen) (hl : xs.length ≤ K) : Num w (.slice A xs.length c) (val xs) K := ⟨A, c, xs, rfl, hr, hc, hm, hl, rfl⟩
theorem Num.lt {w : World} {v : Value} {n K : Nat} (h : Num w v n K) : n < 4294967296 ^ K := by
  obtain ⟨A, c, ys, h1, h2, h3, h4, h5, rfl⟩ := h
  exact Nat.lt_of_lt_of_le (val_lt ys) (Nat.pow_le_pow_right (by decide) h5)

theorem ln1 {w : World} {v : Value} {n : Nat} (h : IsNum w v n) (hn : n < 4294967296 * 4294967296) : Num w v n 2 := h.num (by simpa [Nat.pow_succ] using hn)

/-- a number shifted -/
def shV (V : Nat) (n : Int) : Nat := if 0 ≤ n then V * 2 ^ n.toNat else V / 2 ^ (-n).toNat
theorem shF_shV (l : List UInt32) (n : Int) : shF (val l) n (32 * l.length) = shV (val l) n := by
  unfold shF shV
  have : val l % 2 ^ (32 * l.length) = val l := Nat.mod_eq_of_lt (by rw [Nat.pow_mul]; exact val_lt l)
  rw [this]

/-- what Sub hands back -/
def SubN (w' : World) (x y : Nat) (v : Value) (is : Bool) : Prop :=
  if x < y then v = .slice none 0 0 ∧ is = false else IsNum w' v (x - y) ∧ is = true

/-- what Div hands back -/
def DivN (w' : World) (x y : Nat) (q r : Value) (ok : Bool) : Prop :=
  if y = 0 then q = .slice none 0 0 ∧ r = .slice none 0 0 ∧ ok = false
  else IsNum w' q (x / y) ∧ IsNum w' r (x % y) ∧ ok = true

theorem cmpI_same (a : Nat) : cmpI a a = 0 := by simp [cmpI]
theorem b8 {n K : Nat} (k : Nat) (h : n < 4294967296 ^ k) (hk : k ≤ K) : n < 4294967296 ^ K := Nat.lt_of_lt_of_le h (Nat.pow_le_pow_right (by decide) hk)
theorem bmul {m n : Nat} (j k : Nat) (h : m < 4294967296 ^ j) (g : n < 4294967296 ^ k) : m * n < 4294967296 ^ (j + k) := by
  rw [Nat.pow_add]
  exact Nat.mul_lt_mul'' h g
theorem badd {m n : Nat} (j : Nat) (h : m < 4294967296 ^ j) (g : n < 4294967296 ^ j) : m + n < 4294967296 ^ (j + 1) := by
  rw [Nat.pow_succ]; omega

end Go.Proofs.YtpaacfoiiihbeaaGreat
