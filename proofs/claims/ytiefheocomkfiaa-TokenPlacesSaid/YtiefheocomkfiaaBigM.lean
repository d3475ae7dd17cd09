/- Numbers without end as lists of 32 bits each: what they are worth, and the one list that has no noughts behind. Plain lemmas. -/
import Derived.Test.YtiefheocomkfiaaBase
set_option linter.unusedVariables false
set_option linter.unusedSimpArgs false
namespace Go.Proofs.Ytiefheocomkfiaa
open Go.RowKit

/-- an entry as a value -/
def uv (x : UInt32) : Value := .int .u32 (x.toNat : Int)
theorem uv_one (x : UInt32) : (uv x).oneCell' = true := rfl
theorem uv_ofNat (n : Nat) (k : Int) (h : k = ((n % 4294967296 : Nat) : Int)) : Value.int .u32 k = uv (UInt32.ofNat n) := by
  subst h; simp [uv, UInt32.toNat_ofNat]

/-- what a list is worth -/
def val : List UInt32 → Nat
  | [] => 0
  | x :: l => x.toNat + 4294967296 * val l
theorem val_cons (x : UInt32) (l : List UInt32) : val (x :: l) = x.toNat + 4294967296 * val l := rfl
theorem val_append (l m : List UInt32) : val (l ++ m) = val l + 4294967296 ^ l.length * val m := by
  induction l with
  | nil => simp [val]
  | cons x l ih =>
    rw [List.cons_append, val_cons, ih, val_cons, List.length_cons, Nat.pow_succ, Nat.mul_add, Nat.mul_comm (4294967296 ^ l.length) 4294967296, Nat.mul_assoc]
    omega
theorem val_lt (l : List UInt32) : val l < 4294967296 ^ l.length := by
  induction l with
  | nil => simp [val]
  | cons x l ih =>
    have hx : x.toNat < 4294967296 := x.toNat_lt
    rw [val_cons, List.length_cons, Nat.pow_succ]
    generalize 4294967296 ^ l.length = P at *
    omega
theorem val_zeros (n : Nat) : val (List.replicate n 0) = 0 := by
  induction n with
  | zero => rfl
  | succ n ih => rw [List.replicate_succ, val_cons, ih]; rfl
/-- an entry out of what the list is worth -/
theorem val_entry (l : List UInt32) (i : Nat) : (l.getD i 0).toNat = val l / 4294967296 ^ i % 4294967296 := by
  induction l generalizing i with
  | nil => simp [val]
  | cons x l ih =>
    have hx : x.toNat < 4294967296 := x.toNat_lt
    cases i with
    | zero => rw [val_cons]; simp
    | succ i =>
      rw [val_cons, Nat.pow_succ, Nat.mul_comm (4294967296 ^ i), ← Nat.div_div_eq_div_mul]
      have : (x.toNat + 4294967296 * val l) / 4294967296 = val l := by omega
      rw [this, ← ih]; rfl

/-- no noughts behind -/
def Canon (l : List UInt32) : Prop := ∀ h : l ≠ [], l.getLast h ≠ 0
theorem canon_nil : Canon [] := fun h => absurd rfl h
theorem canon_tail {x : UInt32} {l : List UInt32} (h : Canon (x :: l)) : Canon l := fun hl => by
  have := h (by simp)
  rwa [List.getLast_cons hl] at this
theorem canon_zero {l : List UInt32} (h : Canon l) (h0 : val l = 0) : l = [] := by
  induction l with
  | nil => rfl
  | cons x l ih =>
    rw [val_cons] at h0
    have h1 := ih (canon_tail h) (by omega)
    subst h1
    exfalso
    apply h (by simp)
    have hx : x.toNat = 0 := by omega
    exact UInt32.toNat_inj.1 hx
/-- one number, one list -/
theorem canon_one : ∀ (l m : List UInt32), Canon l → Canon m → val l = val m → l = m
  | [], m, _, hm, h => (canon_zero hm h.symm).symm
  | l, [], hl, _, h => canon_zero hl h
  | x :: l, y :: m, hl, hm, h => by
    have hx : x.toNat < 4294967296 := x.toNat_lt
    have hy : y.toNat < 4294967296 := y.toNat_lt
    rw [val_cons, val_cons] at h
    have h1 : x.toNat = y.toNat := by omega
    rw [UInt32.toNat_inj.1 h1, canon_one l m (canon_tail hl) (canon_tail hm) (by omega)]

/-- a number's list -/
def limbsF : Nat → Nat → List UInt32
  | 0, _ => []
  | f + 1, n => if n = 0 then [] else UInt32.ofNat n :: limbsF f (n / 4294967296)
def limbs (n : Nat) : List UInt32 := limbsF n n
theorem limbsF_spec (f n : Nat) (h : n ≤ f) : val (limbsF f n) = n ∧ Canon (limbsF f n) := by
  induction f generalizing n with
  | zero => obtain rfl : n = 0 := by omega
            exact ⟨rfl, canon_nil⟩
  | succ f ih =>
    unfold limbsF
    by_cases h0 : n = 0
    · rw [if_pos h0]; exact ⟨h0.symm, canon_nil⟩
    · rw [if_neg h0]
      obtain ⟨h1, h2⟩ := ih (n / 4294967296) (by omega)
      have hn : (UInt32.ofNat n).toNat = n % 4294967296 := UInt32.toNat_ofNat'
      refine ⟨by rw [val_cons, h1, hn]; omega, fun hne => ?_⟩
      by_cases hl : limbsF f (n / 4294967296) = []
      · simp only [hl, List.getLast_singleton]
        rw [hl] at h1
        have h1' : n / 4294967296 = 0 := h1.symm
        intro e
        have := congrArg UInt32.toNat e
        rw [hn] at this
        have : n % 4294967296 = 0 := this
        omega
      · rw [List.getLast_cons hl]; exact h2 hl
theorem val_limbs (n : Nat) : val (limbs n) = n := (limbsF_spec n n (Nat.le_refl _)).1
theorem canon_limbs (n : Nat) : Canon (limbs n) := (limbsF_spec n n (Nat.le_refl _)).2
theorem limbs_val {l : List UInt32} (h : Canon l) : l = limbs (val l) := canon_one _ _ h (canon_limbs _) (val_limbs _).symm
theorem limbs_zero : limbs 0 = [] := rfl
theorem limbs_inj {m n : Nat} (h : limbs m = limbs n) : m = n := by rw [← val_limbs m, h, val_limbs]
/-- noughts behind struck -/
theorem take_limbs (l : List UInt32) (n : Nat) (hn : n ≤ l.length) (hz : ∀ j, n ≤ j → l.getD j 0 = 0) (hl : n = 0 ∨ l.getD (n - 1) 0 ≠ 0) : l.take n = limbs (val l) := by
  have hv : val (l.take n) = val l := by
    have h1 : l = l.take n ++ l.drop n := (List.take_append_drop n l).symm
    have h2 : l.drop n = List.replicate (l.length - n) 0 := by
      apply List.ext_getElem
      · simp
      · intro i h3 h4
        rw [List.getElem_drop, List.getElem_replicate]
        have := hz (n + i) (by omega)
        rw [List.length_drop] at h3
        rw [List.getD, List.getElem?_eq_getElem (by omega)] at this
        exact this
    rw [h2] at h1
    have h3 := congrArg val h1
    rw [val_append, val_zeros] at h3
    omega
  rw [← hv]
  refine limbs_val fun hne => ?_
  rcases hl with rfl | hl
  · simp at hne
  · have h0 : 0 < n := by
      rcases Nat.eq_zero_or_pos n with h | h
      · subst h; simp at hne
      · exact h
    rw [List.getLast_eq_getElem, List.getElem_take]
    rw [List.getD, List.getElem?_eq_getElem (by omega)] at hl
    simpa [List.length_take, Nat.min_eq_left hn] using hl
theorem limbs_len (n k : Nat) (h : n < 4294967296 ^ k) : (limbs n).length ≤ k := by
  rcases Nat.lt_or_ge k (limbs n).length with hlt | hge
  · exfalso
    have hne : limbs n ≠ [] := by intro e; rw [e] at hlt; simp at hlt
    have hc := canon_limbs n hne
    have he := val_entry (limbs n) ((limbs n).length - 1)
    rw [val_limbs, List.getD, List.getElem?_eq_getElem (by omega)] at he
    have hp : n / 4294967296 ^ ((limbs n).length - 1) = 0 := Nat.div_eq_of_lt (Nat.lt_of_lt_of_le h (Nat.pow_le_pow_right (by decide) (by omega)))
    rw [hp] at he
    apply hc
    rw [List.getLast_eq_getElem]
    have he' : ((limbs n)[(limbs n).length - 1]'(by omega)).toNat = 0 := he
    exact UInt32.toNat_inj.1 he'
  · exact hge
end Go.Proofs.Ytiefheocomkfiaa
