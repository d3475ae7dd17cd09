/- Values as trees, and how they are compared. Plain. -/
import Derived.Test.YtjeadmndnbggmaaBase
set_option linter.unusedVariables false
set_option linter.unusedSimpArgs false
namespace Go.Proofs.Ytjeadmndnbggmaa

/-- a value -/
inductive Val where
  | mk (k : Nat) (n : Int) (s : List UInt8) (l : List Val) (ids : List Int)
def val0 : Val := .mk 0 0 [] [] []
/-- a value without parts, of a kind -/
def leafV (k : Nat) (n : Int) : Val := .mk k n [] [] []
def cmpI (a b : Int) : Int := if a < b then -1 else if b < a then 1 else 0
def cmpB : List UInt8 → List UInt8 → Int
  | [], [] => 0
  | [], _ :: _ => -1
  | _ :: _, [] => 1
  | x :: xs, y :: ys => if x < y then -1 else if y < x then 1 else cmpB xs ys
def cmpL (f : Val → Val → Int) : List Val → List Val → Int
  | [], [] => 0
  | [], _ :: _ => -1
  | _ :: _, [] => 1
  | x :: xs, y :: ys => if f x y = 0 then cmpL f xs ys else f x y
def cmpF (f : Val → Val → Int) : List Int → List Val → List Int → List Val → Int
  | i :: is, x :: xs, j :: js, y :: ys => if i = j then (if f x y = 0 then cmpF f is xs js ys else f x y) else cmpI i j
  | _, xs, _, ys => cmpI xs.length ys.length
def intK (k : Nat) : Bool := decide (k = 2) || decide (k = 3) || decide (k = 6) || decide (k = 8) || decide (k = 10) || decide (k = 17)
def strK (k : Nat) : Bool := decide (k = 11) || decide (k = 16)
def lstK (k : Nat) : Bool := decide (k = 13) || decide (k = 14) || decide (k = 15)
/-- two values, so deep -/
def cmpV : Nat → Val → Val → Int
  | 0, _, _ => 0
  | n + 1, .mk k a s l i, .mk k' a' s' l' i' =>
    if k ≠ k' then cmpI k k'
    else if intK k = true then cmpI a a'
    else if k = 4 then cmpI (a % 18446744073709551616) (a' % 18446744073709551616)
    else if strK k = true then cmpB s s'
    else if lstK k = true then cmpL (cmpV n) l l'
    else if k = 12 then cmpF (cmpV n) i l i' l'
    else 0
theorem cmpI_neg (a b : Int) : cmpI b a = - cmpI a b := by unfold cmpI; split <;> split <;> omega
theorem cmpI_le (a b : Int) : -1 ≤ cmpI a b ∧ cmpI a b ≤ 1 := by unfold cmpI; split <;> (try split) <;> omega
theorem cmpI_eq {a b : Int} : cmpI a b = 0 ↔ a = b := by unfold cmpI; split <;> (try split) <;> omega
theorem cmpI_self (a : Int) : cmpI a a = 0 := cmpI_eq.2 rfl
theorem cmpB_neg : ∀ s t : List UInt8, cmpB t s = - cmpB s t
  | [], [] => rfl
  | [], _ :: _ => rfl
  | _ :: _, [] => rfl
  | x :: xs, y :: ys => by
    unfold cmpB
    by_cases h : x < y
    · rw [if_pos h, if_neg (fun h2 => absurd (UInt8.lt_trans h h2) (UInt8.lt_irrefl x)), if_pos h]; rfl
    · by_cases h2 : y < x
      · rw [if_pos h2, if_neg h, if_pos h2]
      · rw [if_neg h2, if_neg h, if_neg h, if_neg h2]; exact cmpB_neg xs ys
theorem cmpB_self : ∀ s : List UInt8, cmpB s s = 0
  | [] => rfl
  | x :: xs => by unfold cmpB; rw [if_neg (UInt8.lt_irrefl x), if_neg (UInt8.lt_irrefl x)]; exact cmpB_self xs
theorem cmpB_le : ∀ s t : List UInt8, -1 ≤ cmpB s t ∧ cmpB s t ≤ 1
  | [], [] => by decide
  | [], _ :: _ => by unfold cmpB; decide
  | _ :: _, [] => by unfold cmpB; decide
  | x :: xs, y :: ys => by
    unfold cmpB
    split
    · decide
    · split
      · decide
      · exact cmpB_le xs ys
theorem cmpL_neg {f : Val → Val → Int} (hf : ∀ a b, f b a = - f a b) : ∀ s t : List Val, cmpL f t s = - cmpL f s t
  | [], [] => rfl
  | [], _ :: _ => rfl
  | _ :: _, [] => rfl
  | x :: xs, y :: ys => by
    unfold cmpL
    by_cases h : f x y = 0
    · rw [if_pos h, if_pos (by rw [hf x y, h]; rfl)]; exact cmpL_neg hf xs ys
    · rw [if_neg h, if_neg (fun h2 => h (by rw [hf y x, h2]; rfl))]; exact hf x y
theorem cmpF_neg {f : Val → Val → Int} (hf : ∀ a b, f b a = - f a b) : ∀ (i : List Int) (l : List Val) (i' : List Int) (l' : List Val), cmpF f i' l' i l = - cmpF f i l i' l'
  | i :: is, x :: xs, j :: js, y :: ys => by
    unfold cmpF
    by_cases h0 : i = j
    · rw [if_pos h0, if_pos h0.symm]
      by_cases h : f x y = 0
      · rw [if_pos h, if_pos (by rw [hf x y, h]; rfl)]; exact cmpF_neg hf is xs js ys
      · rw [if_neg h, if_neg (fun h2 => h (by rw [hf y x, h2]; rfl))]; exact hf x y
    · rw [if_neg h0, if_neg (Ne.symm h0)]; exact cmpI_neg i j
  | [], l, i', l' => by simp only [cmpF]; exact cmpI_neg _ _
  | _ :: _, [], i', l' => by simp only [cmpF]; exact cmpI_neg _ _
  | _ :: _, _ :: _, [], l' => by simp only [cmpF]; exact cmpI_neg _ _
  | _ :: _, _ :: _, _ :: _, [] => by simp only [cmpF]; exact cmpI_neg _ _
theorem cmpV_neg : ∀ (n : Nat) (a b : Val), cmpV n b a = - cmpV n a b
  | 0, _, _ => rfl
  | n + 1, .mk k a s l i, .mk k' a' s' l' i' => by
    unfold cmpV
    by_cases h : k = k'
    · subst h
      simp only [ne_eq, not_true_eq_false, if_false]
      by_cases h1 : intK k = true
      · rw [if_pos h1, if_pos h1]; exact cmpI_neg _ _
      · rw [if_neg h1, if_neg h1]
        by_cases h2 : k = 4
        · rw [if_pos h2, if_pos h2]; exact cmpI_neg _ _
        · rw [if_neg h2, if_neg h2]
          by_cases h3 : strK k = true
          · rw [if_pos h3, if_pos h3]; exact cmpB_neg _ _
          · rw [if_neg h3, if_neg h3]
            by_cases h4 : lstK k = true
            · rw [if_pos h4, if_pos h4]; exact cmpL_neg (cmpV_neg n) _ _
            · rw [if_neg h4, if_neg h4]
              by_cases h5 : k = 12
              · rw [if_pos h5, if_pos h5]; exact cmpF_neg (cmpV_neg n) _ _ _ _
              · rw [if_neg h5, if_neg h5]; rfl
    · rw [if_pos (Ne.symm h), if_pos h]; exact cmpI_neg _ _
/-- are two trees the same, so deep? -/
def twnL (f : Val → Val → Bool) : List Val → List Val → Bool
  | [], [] => true
  | x :: xs, y :: ys => f x y && twnL f xs ys
  | _, _ => false
def twnV : Nat → Val → Val → Bool
  | 0, _, _ => false
  | n + 1, .mk k a s l i, .mk k' a' s' l' i' => decide (k = k') && decide (a = a') && decide (s = s') && decide (i = i') && twnL (twnV n) l l'
/-- how deep a tree is at most -/
def depV : Nat → Val → Prop
  | 0, _ => False
  | n + 1, .mk _ _ _ l _ => ∀ x ∈ l, depV n x
theorem twnL_self {f : Val → Val → Bool} : ∀ {l : List Val}, (∀ x ∈ l, f x x = true) → twnL f l l = true
  | [], _ => rfl
  | x :: xs, h => by
    unfold twnL
    rw [h x (by simp), twnL_self (fun y hy => h y (by simp [hy]))]; rfl
theorem twnV_self : ∀ (n : Nat) (v : Val), depV n v → twnV n v v = true
  | 0, _, h => h.elim
  | n + 1, .mk k a s l i, h => by
    unfold twnV
    simp only [decide_true, Bool.true_and]
    exact twnL_self fun x hx => twnV_self n x (h x hx)
theorem leaf_dep (n k : Nat) (a : Int) : depV (n + 1) (leafV k a) := by
  unfold leafV depV; intro x hx; cases hx
theorem leaf_cmp (n k : Nat) (hk : intK k = true) (a b : Int) : cmpV (n + 1) (leafV k a) (leafV k b) = cmpI a b := by
  unfold leafV cmpV
  rw [if_neg (fun h => h rfl), if_pos hk]
end Go.Proofs.Ytjeadmndnbggmaa
