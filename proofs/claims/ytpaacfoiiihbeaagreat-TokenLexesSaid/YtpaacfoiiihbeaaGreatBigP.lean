/- Numbers as lists of words: plain lemmas that big and the document's answer share. -/
import Derived.Test.YtpaacfoiiihbeaaGreatProg
import Derived.Test.YtpaacfoiiihbeaaGreatMBase
import Derived.WalkSpells
import Derived.Deep.DeepCutAuto
import Derived.Deep.QuietTactic
import Derived.BigQuiet
import Derived.RegionTactic
set_option linter.unusedVariables false
set_option linter.unusedSimpArgs false
namespace Go.Proofs.YtpaacfoiiihbeaaGreat
open Go.RowKit
-- RefBigA

theorem info_u32 : (Tryz.prog.info? 95).map (fun i => (i.zero, i.size, i.bytes)) = some (some (.int .u32 0), 1, 4) := by kernel_rfl
theorem uT : ElT Tryz.prog 93 95 4 := by
  obtain ⟨i, h1, h2, h3, h4⟩ := info_parts info_u32
  exact ⟨Tryz.underlying93, i, _, h1, h2, h3, h4, rfl⟩

/-- entry i of a list, 0 beyond -/
def ent (l : List UInt32) (i : Nat) : Nat := (l.getD i 0).toNat
theorem ent_le (l : List UInt32) (i : Nat) : (ent l i : Int) ≤ 4294967295 := by
  have := (l.getD i 0).toNat_lt; unfold ent; omega
theorem ent_val (l : List UInt32) (i : Nat) : ent l i = val l / 4294967296 ^ i % 4294967296 := val_entry l i

theorem Rd.litsU {w : World} {e : TypeId} {g : Nat} (xs : List UInt32) (hg : g = w.heap.size) : Rd uv (w.alloc (.cells (xs.map uv).toArray e)) (some ⟨g, 0, none⟩) xs := by
  subst hg
  intro _
  refine ⟨_, _, rfl, by simp, fun j hj => ?_⟩
  rw [World.cell?_alloc_at _ _ _ _ rfl]
  simp [hj]

theorem or_hi (a b : Nat) (ha : (a : Int) ≤ 4294967295) (hb : (b : Int) ≤ 4294967295) : bits .or .u64 (a : Int) ((b : Int) * 4294967296) = ((a + b * 4294967296 : Nat) : Int) := by
  have h0 : ((b : Int) * 4294967296) = ((b * 4294967296 : Nat) : Int) := by omega
  have hl : b * 4294967296 < 18446744073709551616 := by omega
  have hl2 : a < 18446744073709551616 := by omega
  have ha' : a < 2 ^ 32 := by omega
  rw [h0, bits_or_u64_nat a _ hl2 hl]
  have := Nat.two_pow_add_eq_or_of_lt (i := 32) (b := a) ha' b
  rw [Nat.or_comm, Nat.mul_comm b, show (4294967296 : Nat) = 2 ^ 32 from rfl, ← this, Nat.add_comm]
theorem digits_ext : ∀ (k a b : Nat), a < 4294967296 ^ k → b < 4294967296 ^ k → (∀ j, a / 4294967296 ^ j % 4294967296 = b / 4294967296 ^ j % 4294967296) → a = b
  | 0, a, b, ha, hb, _ => by simp at ha hb; omega
  | k + 1, a, b, ha, hb, h => by
    have h0 := h 0
    rw [Nat.pow_zero, Nat.div_one, Nat.div_one] at h0
    have h1 : a / 4294967296 = b / 4294967296 := by
      rw [Nat.pow_succ] at ha hb
      refine digits_ext k _ _ (Nat.div_lt_of_lt_mul (by omega)) (Nat.div_lt_of_lt_mul (by omega)) fun j => ?_
      have := h (j + 1)
      rw [Nat.pow_succ, Nat.mul_comm (4294967296 ^ j), ← Nat.div_div_eq_div_mul, ← Nat.div_div_eq_div_mul] at this
      exact this
    omega
theorem high_ext (xs ys : List UInt32) (m : Nat) (h : ∀ j, m ≤ j → ent xs j = ent ys j) : val xs / 4294967296 ^ m = val ys / 4294967296 ^ m := by
  have hx := val_lt xs
  have hy := val_lt ys
  refine digits_ext (xs.length + ys.length) _ _ ?_ ?_ fun j => ?_
  · exact Nat.lt_of_le_of_lt (Nat.div_le_self _ _) (Nat.lt_of_lt_of_le hx (Nat.pow_le_pow_right (by decide) (by omega)))
  · exact Nat.lt_of_le_of_lt (Nat.div_le_self _ _) (Nat.lt_of_lt_of_le hy (Nat.pow_le_pow_right (by decide) (by omega)))
  · have := h (m + j) (by omega)
    rw [ent_val, ent_val, Nat.pow_add, ← Nat.div_div_eq_div_mul, ← Nat.div_div_eq_div_mul] at this
    exact this
theorem val_ext (xs ys : List UInt32) (h : ∀ j, ent xs j = ent ys j) : val xs = val ys := by
  simpa using high_ext xs ys 0 fun j _ => h j
theorem val_less (xs ys : List UInt32) (m : Nat) (h : ∀ j, m + 1 ≤ j → ent xs j = ent ys j) (hlt : ent xs m < ent ys m) : val xs < val ys := by
  have h1 := high_ext xs ys (m + 1) h
  rw [ent_val, ent_val] at hlt
  rw [Nat.pow_succ, ← Nat.div_div_eq_div_mul, ← Nat.div_div_eq_div_mul] at h1
  have h2 : val xs / 4294967296 ^ m < val ys / 4294967296 ^ m := by
    generalize val xs / 4294967296 ^ m = a at *
    generalize val ys / 4294967296 ^ m = b at *
    omega
  rcases Nat.lt_or_ge (val xs) (val ys) with h | h
  · exact h
  · have := Nat.div_le_div_right (c := 4294967296 ^ m) h
    omega

def cmpI (a b : Nat) : Int := if a < b then -1 else if b < a then 1 else 0

-- RefBigB

theorem add_step (V cc P X Y S : Nat) (hS : S = cc + X / P % 4294967296 + Y / P % 4294967296) (h : V + cc * P = X % P + Y % P) :
    V + P * (S % 4294967296) + S / 4294967296 * (P * 4294967296) = X % (P * 4294967296) + Y % (P * 4294967296) := by
  rw [Nat.mod_mul, Nat.mod_mul]
  have h1 : P * S = P * (S % 4294967296) + S / 4294967296 * (P * 4294967296) := by
    have := Nat.div_add_mod S 4294967296
    have h2 : P * S = P * (4294967296 * (S / 4294967296) + S % 4294967296) := by rw [this]
    rw [h2, Nat.mul_add, Nat.add_comm, ← Nat.mul_assoc, Nat.mul_comm (P * 4294967296)]
  have h3 : P * S = P * cc + P * (X / P % 4294967296) + P * (Y / P % 4294967296) := by rw [hS, Nat.mul_add, Nat.mul_add]
  have h4 : P * cc = cc * P := Nat.mul_comm _ _
  omega
theorem val_snoc (l : List UInt32) (x : UInt32) : val (l ++ [x]) = val l + 4294967296 ^ l.length * x.toNat := by
  rw [val_append, val_cons]; simp [val]

theorem sub_step (V bo P X Y D bo' : Nat) (hD : D + Y / P % 4294967296 + bo = X / P % 4294967296 + 4294967296) (hb : bo' + D / 4294967296 = 1) (h : V + Y % P = X % P + bo * P) :
    V + P * (D % 4294967296) + Y % (P * 4294967296) = X % (P * 4294967296) + bo' * (P * 4294967296) := by
  rw [Nat.mod_mul, Nat.mod_mul]
  have h1 : P * D = P * (D % 4294967296) + P * 4294967296 * (D / 4294967296) := by
    have := Nat.div_add_mod D 4294967296
    have h2 : P * D = P * (4294967296 * (D / 4294967296) + D % 4294967296) := by rw [this]
    rw [h2, Nat.mul_add, Nat.add_comm, ← Nat.mul_assoc]
  have h3 : P * D + P * (Y / P % 4294967296) + P * bo = P * (X / P % 4294967296) + P * 4294967296 := by
    rw [← Nat.mul_add, ← Nat.mul_add, hD, Nat.mul_add]
  have h4 : P * 4294967296 * (D / 4294967296) + bo' * (P * 4294967296) = P * 4294967296 := by
    rw [Nat.mul_comm bo', ← Nat.mul_add, Nat.add_comm, hb, Nat.mul_one]
  have h5 : P * bo = bo * P := Nat.mul_comm _ _
  generalize P * 4294967296 * (D / 4294967296) = Q at *
  generalize bo' * (P * 4294967296) = R at *
  omega

/-- what Sub hands back -/
def SubIs (w w' : World) (x y : Nat) (v : Value) (is : Bool) : Prop :=
  if x < y then v = .slice none 0 0 ∧ is = false else Own uv 95 w' w.heap.size v (limbs (x - y)) ∧ is = true

-- RefBigC

theorem uZ : ∀ i, Tryz.prog.info? 95 = some i → i.zero = some (uv 0) := by
  obtain ⟨i, h1, h2, h3, h4⟩ := info_parts info_u32
  intro j hj
  rw [h1] at hj; cases hj; exact h2

theorem val_set (l : List UInt32) (i : Nat) (hi : i < l.length) (y : UInt32) : val (l.set i y) + 4294967296 ^ i * (l.getD i 0).toNat = val l + 4294967296 ^ i * y.toNat := by
  induction l generalizing i with
  | nil => simp at hi
  | cons x l ih =>
    cases i with
    | zero => simp [val]; omega
    | succ i =>
      have := ih i (by simpa using hi)
      simp only [List.set_cons_succ, val_cons, List.getD_cons_succ, Nat.pow_succ, Nat.mul_comm (4294967296 ^ i) 4294967296, Nat.mul_assoc]
      generalize 4294967296 ^ i * (l.getD i 0).toNat = p at *
      generalize 4294967296 ^ i * y.toNat = q at *
      omega
/-- one step of the inner loop -/
theorem mul_step (V V' cc P Pi T a b o S : Nat) (Y Pk : Nat) (hP : P = Pi * Pk) (hS : S = cc + o + a * b) (hb : b = Y / Pk % 4294967296) (hV : V' + P * o = V + P * (S % 4294967296)) (h : V + cc * P = T + a * (Y % Pk) * Pi) :
    V' + S / 4294967296 * (P * 4294967296) = T + a * (Y % (Pk * 4294967296)) * Pi := by
  rw [Nat.mod_mul, ← hb]
  have h1 : P * S = P * (S % 4294967296) + S / 4294967296 * (P * 4294967296) := by
    have := Nat.div_add_mod S 4294967296
    have h2 : P * S = P * (4294967296 * (S / 4294967296) + S % 4294967296) := by rw [this]
    rw [h2, Nat.mul_add, Nat.add_comm, ← Nat.mul_assoc, Nat.mul_comm (P * 4294967296)]
  have h3 : P * S = cc * P + P * o + a * b * P := by rw [hS, Nat.mul_add, Nat.mul_add, Nat.mul_comm P cc, Nat.mul_comm P (a * b)]
  have h4 : a * (Y % Pk + Pk * b) * Pi = a * (Y % Pk) * Pi + a * b * P := by
    rw [hP, Nat.mul_add, Nat.add_mul]
    congr 1
    rw [Nat.mul_comm Pk b, ← Nat.mul_assoc, Nat.mul_assoc (a * b), Nat.mul_comm Pk Pi]
  omega

-- RefBigD

theorem bit_val (xs : List UInt32) (i : Nat) : ent xs (i / 32) / 2 ^ (i % 32) % 2 = val xs / 2 ^ i % 2 := by
  rw [ent_val]
  generalize val xs = V
  have hB : (4294967296 : Nat) ^ (i / 32) = 2 ^ (32 * (i / 32)) := by rw [Nat.pow_mul]
  have h32 : (4294967296 : Nat) = 2 ^ (i % 32) * 2 ^ (32 - i % 32) := by
    rw [← Nat.pow_add, show i % 32 + (32 - i % 32) = 32 from by omega]
  have hi : 2 ^ i = 2 ^ (32 * (i / 32)) * 2 ^ (i % 32) := by rw [← Nat.pow_add]; congr 1; omega
  rw [hB, hi, ← Nat.div_div_eq_div_mul]
  generalize V / 2 ^ (32 * (i / 32)) = W
  rw [h32, Nat.mod_mul_right_div_self]
  exact Nat.mod_mod_of_dvd _ ⟨2 ^ (32 - i % 32 - 1), by rw [← Nat.pow_succ']; congr 1; omega⟩

theorem and_one64 (a m : Nat) (ha : (a : Int) ≤ 4294967295) : bits .and .u64 ((a : Int) / 2 ^ m) 1 = ((a / 2 ^ m % 2 : Nat) : Int) := by
  have hle : a / 2 ^ m ≤ a := Nat.div_le_self _ _
  have hl1 : a / 2 ^ m < 18446744073709551616 := by omega
  have := bits_and_u64_nat (a / 2 ^ m) 1 hl1 (by decide)
  rw [Nat.and_one_is_mod] at this
  rw [← this]
  simp

/-- how many bits a number has -/
theorem bits_unique (n k : Nat) (h1 : n < 2 ^ k) (h2 : k = 0 ∨ 2 ^ (k - 1) ≤ n) : k = if n = 0 then 0 else Nat.log2 n + 1 := by
  by_cases hn : n = 0
  · subst hn
    rw [if_pos rfl]
    rcases h2 with h | h
    · exact h
    · have := Nat.pow_pos (n := k - 1) (show 0 < 2 by decide); omega
  · rw [if_neg hn]
    rcases h2 with h | h
    · subst h; simp at h1; omega
    · have a1 : k ≠ 0 := by rintro rfl; simp at h1; omega
      have a2 : Nat.log2 n < k := (Nat.log2_lt hn).2 h1
      have a3 : k - 1 ≤ Nat.log2 n := (Nat.le_log2 hn).2 h
      omega
def blen (n : Nat) : Nat := if n = 0 then 0 else Nat.log2 n + 1
theorem top_bit (n k : Nat) (h1 : n < 2 ^ (k + 1)) : (n / 2 ^ k % 2 = 0 → n < 2 ^ k) ∧ (n / 2 ^ k % 2 ≠ 0 → 2 ^ k ≤ n) := by
  have h : n / 2 ^ k < 2 := Nat.div_lt_of_lt_mul (by rw [Nat.pow_succ] at h1; exact h1)
  constructor
  · intro h0
    have : n / 2 ^ k = 0 := by
      generalize n / 2 ^ k = q at *
      omega
    exact (Nat.div_eq_zero_iff_lt (Nat.pow_pos (by decide))).1 this
  · intro h0
    rcases Nat.lt_or_ge n (2 ^ k) with h | h
    · rw [Nat.div_eq_of_lt h] at h0; omega
    · exact h

theorem Own.litU {w : World} {g : Nat} (xs : List UInt32) (hg : g = w.heap.size) (hm : xs.length ≤ maxLen) : Own uv 95 (w.alloc (.cells (xs.map uv).toArray 95)) w.heap.size (.slice (some ⟨g, 0, none⟩) xs.length xs.length) xs := by
  subst hg
  exact ⟨by simp, .inr ⟨w.heap.size, xs.length, _, rfl, Nat.le_refl _, heap_alloc_new w _, Nat.le_refl _, hm, by simp, by rw [Nat.mul_one]; exact List.take_of_length_le (by simp)⟩⟩

-- RefBigE

/-- a number shifted, its first i bits alone -/
def shF (V : Nat) (n : Int) (i : Nat) : Nat := if 0 ≤ n then (V % 2 ^ i) * 2 ^ n.toNat else (V % 2 ^ i) / 2 ^ (-n).toNat
theorem mod_succ_pow (V i : Nat) : V % 2 ^ (i + 1) = V % 2 ^ i + 2 ^ i * (V / 2 ^ i % 2) := by rw [Nat.pow_succ, Nat.mod_mul]
theorem shF_skip (V : Nat) (n : Int) (i : Nat) (h : V / 2 ^ i % 2 = 0 ∨ (i : Int) + n < 0) : shF V n (i + 1) = shF V n i := by
  unfold shF
  rw [mod_succ_pow]
  rcases h with h | h
  · rw [h]; simp
  · rw [if_neg (by omega), if_neg (by omega)]
    have h1 : V % 2 ^ i < 2 ^ i := Nat.mod_lt _ (Nat.pow_pos (by decide))
    have h2 : 2 ^ (i + 1) ≤ 2 ^ (-n).toNat := Nat.pow_le_pow_right (by decide) (by omega)
    have h3 : 2 ^ i * (V / 2 ^ i % 2) ≤ 2 ^ i := by
      have : V / 2 ^ i % 2 ≤ 1 := by omega
      exact Nat.le_trans (Nat.mul_le_mul_left _ this) (by omega)
    rw [Nat.pow_succ] at h2
    rw [Nat.div_eq_of_lt (by omega), Nat.div_eq_of_lt (by omega)]
theorem shF_set (V : Nat) (n : Int) (i p : Nat) (h : V / 2 ^ i % 2 = 1) (hp : (i : Int) + n = p) : shF V n (i + 1) = shF V n i + 2 ^ p ∧ shF V n i < 2 ^ p := by
  unfold shF
  rw [mod_succ_pow, h, Nat.mul_one]
  have h1 : V % 2 ^ i < 2 ^ i := Nat.mod_lt _ (Nat.pow_pos (by decide))
  by_cases hn : 0 ≤ n
  · rw [if_pos hn, if_pos hn]
    have hp' : p = i + n.toNat := by omega
    rw [hp', Nat.pow_add]
    exact ⟨Nat.add_mul _ _ _, Nat.mul_lt_mul_of_pos_right h1 (Nat.pow_pos (by decide))⟩
  · rw [if_neg hn, if_neg hn]
    have hi : i = p + (-n).toNat := by omega
    have hP : 0 < 2 ^ (-n).toNat := Nat.pow_pos (by decide)
    rw [hi, Nat.pow_add] at h1 ⊢
    constructor
    · rw [Nat.add_mul_div_right _ _ hP]
    · exact Nat.div_lt_of_lt_mul (by rw [Nat.mul_comm (2 ^ (-n).toNat)]; exact h1)
theorem shF_low (l : List UInt32) (p : Nat) (h : val l < 2 ^ p) : ent l (p / 32) < 2 ^ (p % 32) := by
  rw [ent_val]
  have hp : 2 ^ p = 4294967296 ^ (p / 32) * 2 ^ (p % 32) := by
    rw [show (4294967296 : Nat) = 2 ^ 32 from rfl, ← Nat.pow_mul, ← Nat.pow_add]; congr 1; omega
  rw [hp] at h
  exact Nat.lt_of_le_of_lt (Nat.mod_le _ _) (Nat.div_lt_of_lt_mul h)
theorem pow_split (p : Nat) : 4294967296 ^ (p / 32) * 2 ^ (p % 32) = 2 ^ p := by
  rw [show (4294967296 : Nat) = 2 ^ 32 from rfl, ← Nat.pow_mul, ← Nat.pow_add]; congr 1; omega
theorem or_bit (e r : Nat) (hr : r < 32) (he : e < 2 ^ r) : bits .or .u32 (e : Int) (2 ^ r % 4294967296) = ((e + 2 ^ r : Nat) : Int) ∧ e + 2 ^ r < 4294967296 := by
  have hp : 2 ^ (r + 1) ≤ 2 ^ 32 := Nat.pow_le_pow_right (by decide) (by omega)
  have hp2 : 2 ^ (r + 1) = 2 ^ r * 2 := Nat.pow_succ _ _
  have e32 : (2 : Nat) ^ 32 = 4294967296 := rfl
  have h1 : e + 2 ^ r < 4294967296 := by omega
  have hc : ((2 : Int) ^ r % 4294967296) = ((2 ^ r : Nat) : Int) := by
    have : ((2 : Int) ^ r) = ((2 ^ r : Nat) : Int) := by rw [Int.natCast_pow]; rfl
    rw [this]
    exact Int.emod_eq_of_lt (by omega) (by omega)
  refine ⟨?_, h1⟩
  rw [hc, u32_or_nat e (2 ^ r) (by omega) (by omega)]
  have := Nat.two_pow_add_eq_or_of_lt (i := r) (b := e) he 1
  rw [Nat.mul_one] at this
  rw [Nat.or_comm, ← this, Nat.add_comm]

theorem shF_all (xs : List UInt32) (n : Int) : shF (val xs) n (32 * xs.length) = if 0 ≤ n then val xs * 2 ^ n.toNat else val xs / 2 ^ (-n).toNat := by
  unfold shF
  rw [Nat.mod_eq_of_lt (by rw [Nat.pow_mul]; exact val_lt xs)]
end Go.Proofs.YtpaacfoiiihbeaaGreat
