/- The nearest binary64 to a fraction, as one number: which level, which nearest integer, that it rises, that it does not change where fraction and divisor are multiplied alike. Plain lemmas. -/
import Derived.Test.YtpaacfoiiihbeaaDoorBase
namespace Go.Proofs.YtpaacfoiiihbeaaDoor
open Go.RowKit

/-- the integer nearest to a over b, of two the even one -/
def rnd (a b : Nat) : Nat := if 2 * (a % b) > b ∨ 2 * (a % b) = b ∧ a / b % 2 = 1 then a / b + 1 else a / b

theorem rnd_lo (a b : Nat) : a / b ≤ rnd a b := by unfold rnd; split <;> omega
theorem rnd_hi (a b : Nat) : rnd a b ≤ a / b + 1 := by unfold rnd; split <;> omega
/-- what is nearer than a half on either side -/
theorem rnd_is (a b n : Nat) (h1 : 2 * a < (2 * n + 1) * b) (h2 : 2 * n * b < 2 * a + b) : rnd a b = n := by
  have hb : 0 < b := by
    rcases Nat.eq_zero_or_pos b with h | h
    · subst h; omega
    · exact h
  have hdm := Nat.div_add_mod a b
  have hm := Nat.mod_lt a hb
  generalize hq : a / b = q at *
  generalize hr : a % b = r at *
  have e1 : (2 * n + 1) * b = 2 * (n * b) + b := by rw [Nat.add_mul, Nat.mul_assoc, Nat.one_mul]
  have e2 : 2 * n * b = 2 * (n * b) := Nat.mul_assoc _ _ _
  have e3 : b * q = q * b := Nat.mul_comm _ _
  rw [e1] at h1
  rw [e2] at h2
  unfold rnd
  rw [hq, hr]
  rcases Nat.lt_trichotomy q n with h | h | h
  · have h3 : (q + 1) * b ≤ n * b := Nat.mul_le_mul_right _ h
    rw [Nat.add_mul, Nat.one_mul] at h3
    have h4 : n = q + 1 := by
      rcases Nat.lt_or_ge (q + 1) n with h5 | h5
      · have h6 : (q + 2) * b ≤ n * b := Nat.mul_le_mul_right _ h5
        rw [Nat.add_mul] at h6; omega
      · omega
    subst h4
    rw [Nat.add_mul, Nat.one_mul] at h2
    rw [if_pos (.inl (by omega))]
  · subst h
    rw [if_neg (by omega)]
  · have h3 : (n + 1) * b ≤ q * b := Nat.mul_le_mul_right _ h
    rw [Nat.add_mul, Nat.one_mul] at h3
    omega
/-- just between two -/
theorem rnd_half (a b n : Nat) (hb : 0 < b) (h : 2 * a = (2 * n + 1) * b) : rnd a b = n + n % 2 := by
  have e1 : (2 * n + 1) * b = 2 * (n * b) + b := by rw [Nat.add_mul, Nat.mul_assoc, Nat.one_mul]
  rw [e1] at h
  obtain ⟨c, hc⟩ : ∃ c, b = 2 * c := ⟨b / 2, by omega⟩
  have ha : a = c + b * n := by rw [Nat.mul_comm b n]; omega
  have h1 : a / b = n := by rw [ha, Nat.add_mul_div_left _ _ hb, Nat.div_eq_of_lt (by omega), Nat.zero_add]
  have h2 : a % b = c := by rw [ha, Nat.add_mul_mod_self_left, Nat.mod_eq_of_lt (by omega)]
  unfold rnd
  rw [h1, h2]
  rcases Nat.mod_two_eq_zero_or_one n with h3 | h3
  · rw [if_neg (by omega), h3]; rfl
  · rw [if_pos (.inr ⟨by omega, h3⟩), h3]
theorem rnd_exact (b n : Nat) (hb : 0 < b) : rnd (n * b) b = n := by
  unfold rnd
  rw [Nat.mul_mod_left, Nat.mul_div_cancel _ hb, if_neg (by omega)]
theorem rnd_mono (a c b : Nat) (h : a ≤ c) : rnd a b ≤ rnd c b := by
  have h1 : a / b ≤ c / b := Nat.div_le_div_right h
  rcases Nat.lt_or_ge (a / b) (c / b) with h2 | h2
  · exact Nat.le_trans (rnd_hi a b) (Nat.le_trans h2 (rnd_lo c b))
  · have h3 : a / b = c / b := by omega
    have h4 := Nat.div_add_mod a b
    have h5 := Nat.div_add_mod c b
    rw [h3] at h4
    unfold rnd
    rw [h3]
    split
    · rename_i h6
      rw [if_pos (by omega)]; exact Nat.le_refl _
    · split <;> omega
theorem rnd_mul (a b k : Nat) (hk : 0 < k) : rnd (a * k) (b * k) = rnd a b := by
  unfold rnd
  rw [Nat.mul_div_mul_right _ _ hk, Nat.mul_mod_mul_right]
  have e1 : (2 * (a % b * k) > b * k) ↔ (2 * (a % b) > b) := by
    rw [← Nat.mul_assoc]; exact Nat.mul_lt_mul_right hk
  have e2 : (2 * (a % b * k) = b * k) ↔ (2 * (a % b) = b) := by
    rw [← Nat.mul_assoc]; exact ⟨fun h => Nat.eq_of_mul_eq_mul_right hk h, fun h => by rw [h]⟩
  simp only [e1, e2]
/-- rounding to one side of a number that is itself one -/
theorem rnd_le (a b n : Nat) (hb : 0 < b) (h : a ≤ n * b) : rnd a b ≤ n := by
  have := rnd_mono a (n * b) b h
  rwa [rnd_exact b n hb] at this
theorem rnd_ge (a b n : Nat) (hb : 0 < b) (h : n * b ≤ a) : n ≤ rnd a b := by
  have := rnd_mono (n * b) a b h
  rwa [rnd_exact b n hb] at this

/-- the level: by how many bits a fraction is too great for 53 -/
def lev (X Y : Nat) : Nat := if X / Y = 0 then 0 else Nat.log2 (X / Y) - 52
theorem lev_lt (X Y : Nat) (hY : 0 < Y) : X < Y * 2 ^ (lev X Y + 53) := by
  have h : X / Y < 2 ^ (lev X Y + 53) := by
    unfold lev
    by_cases h0 : X / Y = 0
    · rw [if_pos h0, h0]; exact Nat.pow_pos (by decide)
    · rw [if_neg h0]
      exact Nat.lt_of_lt_of_le ((Nat.log2_lt h0).1 (Nat.lt_succ_self _)) (Nat.pow_le_pow_right (by decide) (by omega))
  rw [Nat.mul_comm]
  exact (Nat.div_lt_iff_lt_mul hY).1 h
theorem lev_ge (X Y : Nat) (hY : 0 < Y) : lev X Y = 0 ∨ Y * 2 ^ (lev X Y + 52) ≤ X := by
  rcases Nat.eq_zero_or_pos (lev X Y) with h | h
  · exact .inl h
  · refine .inr ?_
    have h0 : X / Y ≠ 0 := by intro h0; unfold lev at h; rw [if_pos h0] at h; omega
    have h1 : lev X Y + 52 = Nat.log2 (X / Y) := by unfold lev at h ⊢; rw [if_neg h0] at h ⊢; omega
    rw [h1, Nat.mul_comm, ← Nat.le_div_iff_mul_le hY]
    exact Nat.log2_self_le h0
theorem lev_is (X Y E : Nat) (hY : 0 < Y) (h1 : X < Y * 2 ^ (E + 53)) (h2 : E = 0 ∨ Y * 2 ^ (E + 52) ≤ X) : lev X Y = E := by
  have h3 := lev_lt X Y hY
  have h4 := lev_ge X Y hY
  rcases Nat.lt_trichotomy (lev X Y) E with h | h | h
  · have h5 : Y * 2 ^ (lev X Y + 53) ≤ Y * 2 ^ (E + 52) := Nat.mul_le_mul_left _ (Nat.pow_le_pow_right (by decide) (by omega))
    omega
  · exact h
  · have h5 : Y * 2 ^ (E + 53) ≤ Y * 2 ^ (lev X Y + 52) := Nat.mul_le_mul_left _ (Nat.pow_le_pow_right (by decide) (by omega))
    omega
theorem lev_mono (X Z Y : Nat) (hY : 0 < Y) (h : X ≤ Z) : lev X Y ≤ lev Z Y := by
  have h1 := lev_lt Z Y hY
  have h2 := lev_ge X Y hY
  rcases Nat.lt_or_ge (lev Z Y) (lev X Y) with h3 | h3
  · have h5 : Y * 2 ^ (lev Z Y + 53) ≤ Y * 2 ^ (lev X Y + 52) := Nat.mul_le_mul_left _ (Nat.pow_le_pow_right (by decide) (by omega))
    omega
  · exact h3
theorem lev_mul (X Y k : Nat) (hk : 0 < k) : lev (X * k) (Y * k) = lev X Y := by
  unfold lev
  rw [Nat.mul_div_mul_right _ _ hk]

/-- the bits of the nearest binary64 to X over Y, in steps of the least one; beyond the greatest one they go on -/
def near (X Y : Nat) : Nat := lev X Y * 4503599627370496 + rnd X (Y * 2 ^ lev X Y)
theorem p53 (Y E : Nat) : Y * 2 ^ (E + 53) = 9007199254740992 * (Y * 2 ^ E) := by
  rw [Nat.pow_add, ← Nat.mul_assoc, Nat.mul_comm]
theorem p52 (Y E : Nat) : Y * 2 ^ (E + 52) = 4503599627370496 * (Y * 2 ^ E) := by
  rw [Nat.pow_add, ← Nat.mul_assoc, Nat.mul_comm]
theorem near_zero (Y : Nat) (hY : 0 < Y) : near 0 Y = 0 := by
  have h : lev 0 Y = 0 := by unfold lev; rw [Nat.zero_div, if_pos rfl]
  unfold near
  rw [h]
  have := rnd_exact (Y * 2 ^ 0) 0 (by omega)
  rw [Nat.zero_mul] at this
  rw [this]
theorem near_mul (X Y k : Nat) (hk : 0 < k) : near (X * k) (Y * k) = near X Y := by
  unfold near
  rw [lev_mul _ _ _ hk, Nat.mul_right_comm, rnd_mul _ _ _ hk]
theorem near_rnd (X Y : Nat) (hY : 0 < Y) : rnd X (Y * 2 ^ lev X Y) ≤ 9007199254740992 ∧ (lev X Y = 0 ∨ 4503599627370496 ≤ rnd X (Y * 2 ^ lev X Y)) := by
  have hp : 0 < Y * 2 ^ lev X Y := Nat.mul_pos hY (Nat.pow_pos (by decide))
  have h1 := lev_lt X Y hY
  rw [p53] at h1
  refine ⟨rnd_le _ _ _ hp (by omega), ?_⟩
  rcases lev_ge X Y hY with h | h
  · exact .inl h
  · rw [p52] at h; exact .inr (rnd_ge _ _ _ hp h)
theorem near_mono (X Z Y : Nat) (hY : 0 < Y) (h : X ≤ Z) : near X Y ≤ near Z Y := by
  have h1 := lev_mono X Z Y hY h
  have h2 := near_rnd X Y hY
  have h3 := near_rnd Z Y hY
  unfold near
  rcases Nat.lt_or_ge (lev X Y) (lev Z Y) with h4 | h4
  · omega
  · have h5 : lev X Y = lev Z Y := by omega
    rw [h5]
    have := rnd_mono X Z (Y * 2 ^ lev Z Y) h
    omega
/-- twice as much is one level more -/
theorem near_two (X Y : Nat) (hY : 0 < Y) (h : 4503599627370496 * Y ≤ X) : near (2 * X) Y = near X Y + 4503599627370496 := by
  have h1 := lev_lt X Y hY
  have h2 := lev_ge X Y hY
  have h3 : lev (2 * X) Y = lev X Y + 1 := by
    refine lev_is _ _ _ hY ?_ (.inr ?_)
    · rw [show lev X Y + 1 + 53 = lev X Y + 53 + 1 from by omega, Nat.pow_succ, ← Nat.mul_assoc]; omega
    · rw [show lev X Y + 1 + 52 = lev X Y + 52 + 1 from by omega, Nat.pow_succ, ← Nat.mul_assoc]
      rcases h2 with h2 | h2
      · rw [h2, p52]; simp; omega
      · omega
  unfold near
  rw [h3, Nat.pow_succ, ← Nat.mul_assoc, Nat.mul_comm 2 X, rnd_mul _ _ _ (by decide)]
  omega
/-- a number that is one -/
theorem near_exact (m E Y : Nat) (hY : 0 < Y) (h1 : m < 9007199254740992) (h2 : E = 0 ∨ 4503599627370496 ≤ m) : near (m * (Y * 2 ^ E)) Y = E * 4503599627370496 + m := by
  have hp : 0 < Y * 2 ^ E := Nat.mul_pos hY (Nat.pow_pos (by decide))
  have h3 : lev (m * (Y * 2 ^ E)) Y = E := by
    refine lev_is _ _ _ hY ?_ ?_
    · rw [p53]; exact Nat.mul_lt_mul_of_pos_right h1 hp
    · rcases h2 with h | h
      · exact .inl h
      · rw [p52]; exact .inr (Nat.mul_le_mul_right _ h)
  unfold near
  rw [h3, rnd_exact _ _ hp]
/-- what lies nearer to a number m 2^E than a half step of its own level, and below by less than a quarter where it is a power of two -/
theorem near_by (X Y m E : Nat) (hY : 0 < Y) (h1 : m < 9007199254740992) (h2 : E = 0 ∨ 4503599627370496 ≤ m)
    (hup : 2 * X < (2 * m + 1) * (Y * 2 ^ E)) (hlo : 2 * m * (Y * 2 ^ E) < 2 * X + Y * 2 ^ E) (hq : m = 4503599627370496 → 4 * m * (Y * 2 ^ E) < 4 * X + Y * 2 ^ E) : near X Y = E * 4503599627370496 + m := by
  have hp : 0 < Y * 2 ^ E := Nat.mul_pos hY (Nat.pow_pos (by decide))
  have e1 : (2 * m + 1) * (Y * 2 ^ E) = 2 * (m * (Y * 2 ^ E)) + Y * 2 ^ E := by rw [Nat.add_mul, Nat.mul_assoc, Nat.one_mul]
  have e3 : 2 * m * (Y * 2 ^ E) = 2 * (m * (Y * 2 ^ E)) := Nat.mul_assoc _ _ _
  have hrn : rnd X (Y * 2 ^ E) = m := rnd_is _ _ _ hup hlo
  have hub : X < Y * 2 ^ (E + 53) := by
    rw [p53]
    have : (m + 1) * (Y * 2 ^ E) ≤ 9007199254740992 * (Y * 2 ^ E) := Nat.mul_le_mul_right _ h1
    rw [Nat.add_mul, Nat.one_mul] at this
    rw [e1] at hup
    omega
  by_cases hlow : E = 0 ∨ Y * 2 ^ (E + 52) ≤ X
  · have h3 : lev X Y = E := lev_is _ _ _ hY hub hlow
    unfold near
    rw [h3, hrn]
  · obtain ⟨E', rfl⟩ : ∃ E', E = E' + 1 := ⟨E - 1, by omega⟩
    have hmge : 4503599627370496 ≤ m := by omega
    have hX : X < Y * 2 ^ (E' + 1 + 52) := by omega
    rw [p52] at hX
    have hm : m = 4503599627370496 := by
      rcases Nat.lt_or_ge 4503599627370496 m with h | h
      · have h5 : (4503599627370496 + 1) * (Y * 2 ^ (E' + 1)) ≤ m * (Y * 2 ^ (E' + 1)) := Nat.mul_le_mul_right _ h
        rw [Nat.add_mul, Nat.one_mul] at h5
        rw [e3] at hlo
        omega
      · omega
    have hq := hq hm
    subst hm
    have e2 : 4 * 4503599627370496 * (Y * 2 ^ (E' + 1)) = 4 * (4503599627370496 * (Y * 2 ^ (E' + 1))) := Nat.mul_assoc _ _ _
    have e4 : Y * 2 ^ (E' + 1) = 2 * (Y * 2 ^ E') := by rw [Nat.pow_succ, ← Nat.mul_assoc, Nat.mul_comm]
    rw [e4] at hX
    rw [e2, e4] at hq
    have hp' : 0 < Y * 2 ^ E' := Nat.mul_pos hY (Nat.pow_pos (by decide))
    have h3 : lev X Y = E' := by
      refine lev_is _ _ _ hY (by rw [p53]; omega) (.inr ?_)
      rw [p52]; omega
    have h4 : rnd X (Y * 2 ^ E') = 9007199254740992 := by
      refine rnd_is _ _ _ ?_ ?_
      · omega
      · omega
    unfold near
    rw [h3, h4]; omega

/-- the least binary64 is one over 2^tz -/
def tz : Nat := 1074
theorem tz_eq : tz = 1074 := rfl
/-- where the search for the level begins -/
theorem lev_start (x y : Nat) (hx : x ≠ 0) (hy : y ≠ 0) : Nat.log2 x + tz ≤ Nat.log2 y + 53 + lev (x * 2 ^ tz) y := by
  have h1 := lev_lt (x * 2 ^ tz) y (Nat.pos_of_ne_zero hy)
  have h2 : 2 ^ Nat.log2 x ≤ x := Nat.log2_self_le hx
  have h3 : y < 2 ^ (Nat.log2 y + 1) := (Nat.log2_lt hy).1 (Nat.lt_succ_self _)
  rcases Nat.lt_or_ge (Nat.log2 y + 53 + lev (x * 2 ^ tz) y) (Nat.log2 x + tz) with h | h
  · exfalso
    have h4 : y * 2 ^ (lev (x * 2 ^ tz) y + 53) < 2 ^ (Nat.log2 y + 1) * 2 ^ (lev (x * 2 ^ tz) y + 53) := Nat.mul_lt_mul_of_pos_right h3 (Nat.pow_pos (by decide))
    rw [← Nat.pow_add] at h4
    have h5 : 2 ^ (Nat.log2 y + 1 + (lev (x * 2 ^ tz) y + 53)) ≤ 2 ^ (Nat.log2 x + tz) := Nat.pow_le_pow_right (by decide) (by omega)
    have h6 : 2 ^ (Nat.log2 x + tz) ≤ x * 2 ^ tz := by rw [Nat.pow_add]; exact Nat.mul_le_mul_right _ h2
    omega
  · exact h
/-- a fraction at a level, as it is reckoned: shifted up or down -/
theorem at_level (x y : Nat) (e : Int) (E : Nat) (hE : (E : Int) = e + tz) : ∃ c, 0 < c ∧ x * 2 ^ tz = x * 2 ^ (max (-e) 0).toNat * c ∧ y * 2 ^ E = y * 2 ^ (max e 0).toNat * c := by
  rcases Int.le_total 0 e with h | h
  · refine ⟨2 ^ tz, Nat.pow_pos (by decide), ?_, ?_⟩
    · rw [show (max (-e) 0).toNat = 0 from by omega, Nat.pow_zero, Nat.mul_one]
    · rw [Nat.mul_assoc, ← Nat.pow_add]; congr 2; omega
  · refine ⟨2 ^ E, Nat.pow_pos (by decide), ?_, ?_⟩
    · rw [Nat.mul_assoc, ← Nat.pow_add]; congr 2; omega
    · rw [show (max e 0).toNat = 0 from by omega, Nat.pow_zero, Nat.mul_one]
end Go.Proofs.YtpaacfoiiihbeaaDoor
