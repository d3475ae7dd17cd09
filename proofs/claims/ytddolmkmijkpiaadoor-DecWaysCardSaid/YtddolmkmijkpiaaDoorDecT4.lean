/- What the document's parse makes of texts that are laid together; how the nearest binary64 to a number times a power of ten goes with the number; the laws' texts. -/
import Derived.Test.YtddolmkmijkpiaaDoorDecG
import Derived.Test.YtddolmkmijkpiaaDoorRefT
set_option linter.unusedVariables false
set_option linter.unusedSimpArgs false
namespace Go.Proofs.YtddolmkmijkpiaaDoor
open Go.RowKit

theorem digit_is (n : Nat) : isDig (UInt8.ofNat (48 + n % 10)) = true ∧ digV (UInt8.ofNat (48 + n % 10)) = n % 10 := by
  have h : (UInt8.ofNat (48 + n % 10)).toNat = 48 + n % 10 := by
    have : (UInt8.ofNat (48 + n % 10)).toNat = (48 + n % 10) % 256 := by simp
    omega
  unfold isDig digV
  rw [h]
  constructor
  · simp; omega
  · omega
theorem decS_digs (n : Nat) : digs (decS n) := by
  induction n using Nat.strongRecOn with
  | _ n ih =>
    by_cases h : n < 10
    · rw [decS_small n h]
      intro c hc
      rw [List.mem_singleton.1 hc]; exact (digit_is n).1
    · rw [decS_step n (by omega)]
      intro c hc
      rcases List.mem_append.1 hc with h1 | h1
      · exact ih (n / 10) (by omega) c h1
      · rw [List.mem_singleton.1 h1]; exact (digit_is n).1
theorem valS_decS (n : Nat) : valS (decS n) = n := by
  induction n using Nat.strongRecOn with
  | _ n ih =>
    by_cases h : n < 10
    · rw [decS_small n h]
      show 10 * 0 + digV _ = n
      rw [(digit_is n).2]; omega
    · rw [decS_step n (by omega), valS_snoc, ih (n / 10) (by omega), (digit_is n).2]; omega
theorem decS_ne (n : Nat) : decS n ≠ [] := by
  intro h; have := decS_pos n; rw [h] at this; simp at this
theorem bigF_val (l : List UInt8) (hd : digs l) : ∀ v, v * 10 ^ l.length + valS l ≤ 100000 → bigF l v = v * 10 ^ l.length + valS l := by
  induction l with
  | nil => intro v _; simp [bigF, valS]
  | cons c l ih =>
    intro v h
    have hc : valS (c :: l) = digV c * 10 ^ l.length + valS l := by
      have gen : ∀ (l : List UInt8) (a : Nat), l.foldl (fun x c => 10 * x + digV c) a = a * 10 ^ l.length + valS l := by
        intro l
        induction l with
        | nil => intro a; simp [valS]
        | cons d l ih2 =>
          intro a
          unfold valS
          simp only [List.foldl_cons, List.length_cons]
          rw [ih2, ih2 (10 * 0 + digV d), Nat.pow_succ, Nat.add_mul]
          have : 10 * a * 10 ^ l.length = a * (10 ^ l.length * 10) := by rw [Nat.mul_comm 10 a, Nat.mul_assoc, Nat.mul_comm 10]
          rw [this]
          simp [Nat.add_assoc]
      show (l.foldl (fun x c => 10 * x + digV c) (10 * 0 + digV c)) = _
      rw [gen]
      simp
    rw [hc, List.length_cons, Nat.pow_succ] at h
    have e1 : v * (10 ^ l.length * 10) = v * 10 * 10 ^ l.length := by rw [Nat.mul_comm (10 ^ l.length), ← Nat.mul_assoc]
    rw [e1] at h
    have hp : 1 ≤ 10 ^ l.length := Nat.pow_pos (by decide)
    have h1 : v * 10 + digV c ≤ (v * 10 + digV c) * 10 ^ l.length := Nat.le_mul_of_pos_right _ hp
    rw [Nat.add_mul] at h1
    unfold bigF
    rw [Nat.min_eq_left (by omega), ih (fun d hm => hd d (List.mem_cons_of_mem _ hm)) _ (by rw [Nat.add_mul]; omega), hc, List.length_cons, Nat.pow_succ, e1, Nat.add_mul, Nat.add_assoc]

/-- what stands behind the digits, and what it says -/
def Sfx (s : List UInt8) (v : Int) : Prop := expS s = some (v, false) ∧ (s = [] ∨ ∃ c t, s = c :: t ∧ isDig c = false ∧ c ≠ 46)
theorem Sfx.nil : Sfx [] 0 := ⟨rfl, .inl rfl⟩
theorem signS_dig (c : UInt8) (l : List UInt8) (h : isDig c = true) : signS (c :: l) = (false, c :: l) := by
  have := (isDig_iff c).1 h
  have h1 : ¬ c.toNat = 43 := by omega
  have h2 : ¬ c.toNat = 45 := by omega
  simp [signS, h1, h2]
theorem signS_decS (m : Nat) (l : List UInt8) : signS (decS m ++ l) = (false, decS m ++ l) := by
  cases h : decS m with
  | nil => exact absurd h (decS_ne m)
  | cons c t => exact signS_dig c _ (decS_digs m c (by rw [h]; exact List.mem_cons_self ..))
theorem expS_letter (c : UInt8) (l : List UInt8) (hc : c = 101 ∨ c = 69) (neg : Bool) (m : Nat) (hm : m ≤ 400) (h : signS l = (neg, decS m)) : Sfx (c :: l) (if neg then -(m : Int) else (m : Int)) := by
  refine ⟨?_, .inr ⟨c, l, rfl, by rcases hc with rfl | rfl <;> decide, by rcases hc with rfl | rfl <;> decide⟩⟩
  have he : c.toNat = 101 ∨ c.toNat = 69 := by rcases hc with rfl | rfl <;> decide
  have hv := bigF_val (decS m) (decS_digs m) 0 (by rw [valS_decS]; omega)
  rw [valS_decS, Nat.zero_mul, Nat.zero_add] at hv
  simp only [expS, if_pos he, h, if_neg (decS_ne m), expDigits_all _ (decS_digs m), hv]
  simp; omega
theorem Sfx.ten (k : Int) (h1 : -400 ≤ k) (h2 : k ≤ 400) : Sfx (101 :: tenS k) k := by
  unfold tenS
  split
  · rename_i h
    have := expS_letter 101 (45 :: decS (-k).toNat) (.inl rfl) true (-k).toNat (by omega) rfl
    rw [if_pos rfl, show -(((-k).toNat : Nat) : Int) = k from by omega] at this
    exact this
  · rename_i h
    have hs := signS_decS k.toNat []
    rw [List.append_nil] at hs
    have := expS_letter 101 (decS k.toNat) (.inl rfl) false k.toNat (by omega) hs
    rw [if_neg (by decide), show ((k.toNat : Nat) : Int) = k from by omega] at this
    exact this

/-- a text laid together: a sign, digits, a full stop and digits perhaps, what stands behind -/
theorem parse_main (sg : List UInt8) (neg : Bool) (hsg : sg = [] ∧ neg = false ∨ sg = [43] ∧ neg = false ∨ sg = [45] ∧ neg = true) (W F D : List UInt8) (hW : digs W) (hF : digs F)
    (hD : (D = [] ∧ W ≠ [] ∧ F = []) ∨ (D = 46 :: F ∧ F ≠ [])) (hlen : W.length + F.length ≤ 60) (sfx : List UInt8) (v : Int) (hs : Sfx sfx v) :
    parseS (sg ++ (W ++ (D ++ sfx))) = if numS (valS (W ++ F)) (v - F.length) < LIM then ((if neg then 9223372036854775808 else 0) + numS (valS (W ++ F)) (v - F.length), 0) else (0, 5) := by
  have hsgn : signS (sg ++ (W ++ (D ++ sfx))) = (neg, W ++ (D ++ sfx)) := by
    rcases hsg with ⟨rfl, rfl⟩ | ⟨rfl, rfl⟩ | ⟨rfl, rfl⟩
    · rw [List.nil_append]
      cases W with
      | nil =>
        rcases hD with ⟨_, h, _⟩ | ⟨rfl, _⟩
        · exact absurd rfl h
        · rfl
      | cons c t => exact signS_dig c _ (hW c (List.mem_cons_self ..))
    · rfl
    · rfl
  have hscan : scanS false (W ++ (D ++ sfx)) = (W ++ F, F.length, !D.isEmpty, sfx) := by
    rw [scan_false]
    rcases hD with ⟨rfl, hw, rfl⟩ | ⟨rfl, hf⟩
    · rw [List.nil_append]
      have h1 : spanD (W ++ sfx) = (W, sfx) := spanD_is W sfx hW (by
        rcases hs.2 with h | ⟨c, t, h, h2, _⟩
        · exact .inl h
        · exact .inr ⟨c, t, h, h2⟩)
      rw [h1]
      have h2 : stopS sfx = (false, sfx) := by
        rcases hs.2 with rfl | ⟨c, t, rfl, _, h3⟩
        · rfl
        · simp [stopS, h3]
      rw [h2]
      simp
    · have h1 : spanD (W ++ (46 :: F ++ sfx)) = (W, 46 :: F ++ sfx) := spanD_is W _ hW (.inr ⟨46, F ++ sfx, rfl, by decide⟩)
      rw [h1]
      have h2 : stopS (46 :: F ++ sfx) = (true, F ++ sfx) := rfl
      rw [h2]
      have h3 : spanD (F ++ sfx) = (F, sfx) := spanD_is F sfx hF (by
        rcases hs.2 with h | ⟨c, t, h, h2, _⟩
        · exact .inl h
        · exact .inr ⟨c, t, h, h2⟩)
      simp [h3]
  have hp : ∀ l, parseS l = (if (scanS false (signS l).2).1 = [] ∨ (scanS false (signS l).2).2.2.1 = true ∧ (scanS false (signS l).2).2.1 = 0 then (0, 2)
    else match expS (scanS false (signS l).2).2.2.2 with
    | none => (0, 2)
    | some (v, big) =>
      if 60 < (scanS false (signS l).2).1.length then (0, 4)
      else if big then (0, 5)
      else if numS (valS (scanS false (signS l).2).1) (v - (scanS false (signS l).2).2.1) < LIM then ((if (signS l).1 then 9223372036854775808 else 0) + numS (valS (scanS false (signS l).2).1) (v - (scanS false (signS l).2).2.1), 0)
      else (0, 5)) := fun _ => rfl
  rw [hp, hsgn]
  dsimp only
  rw [hscan]
  dsimp only
  have hne : ¬ (W ++ F = [] ∨ (!D.isEmpty) = true ∧ F.length = 0) := by
    rcases hD with ⟨rfl, hw, rfl⟩ | ⟨rfl, hf⟩
    · simp; exact hw
    · simp; exact ⟨fun _ => hf, hf⟩
  rw [if_neg hne, hs.1]
  dsimp only
  rw [if_neg (by rw [List.length_append]; omega), if_neg (by decide)]

theorem decS_len' (n k : Nat) (h : n < 10 ^ k) (hk : 1 ≤ k) : (decS n).length ≤ k := by
  obtain ⟨j, rfl⟩ : ∃ j, k = j + 1 := ⟨k - 1, by omega⟩
  exact decS_len j n h
/-- digits and an exponent -/
theorem parse_exp (n : Nat) (hn : n < 10 ^ 60) (k : Int) (h1 : -400 ≤ k) (h2 : k ≤ 400) :
    parseS (decS n ++ (101 :: tenS k)) = if numS n k < LIM then (numS n k, 0) else (0, 5) := by
  have := parse_main [] false (.inl ⟨rfl, rfl⟩) (decS n) [] [] (decS_digs n) (fun c hc => by cases hc) (.inl ⟨rfl, decS_ne n, rfl⟩) (by have := decS_len' n 60 hn (by decide); simpa using this) _ k (Sfx.ten k h1 h2)
  simp only [List.nil_append, List.append_nil, valS_decS, List.length_nil] at this
  rw [show k - ((0 : Nat) : Int) = k from by omega] at this
  simpa using this
theorem parse_exp_neg (n : Nat) (hn : n < 10 ^ 60) (k : Int) (h1 : -400 ≤ k) (h2 : k ≤ 400) :
    parseS (45 :: (decS n ++ (101 :: tenS k))) = if numS n k < LIM then (9223372036854775808 + numS n k, 0) else (0, 5) := by
  have := parse_main [45] true (.inr (.inr ⟨rfl, rfl⟩)) (decS n) [] [] (decS_digs n) (fun c hc => by cases hc) (.inl ⟨rfl, decS_ne n, rfl⟩) (by have := decS_len' n 60 hn (by decide); simpa using this) _ k (Sfx.ten k h1 h2)
  simp only [List.nil_append, List.append_nil, valS_decS, List.length_nil] at this
  rw [show k - ((0 : Nat) : Int) = k from by omega] at this
  simpa using this
theorem parse_int (n : Nat) (hn : n < 10 ^ 60) : parseS (decS n) = if numS n 0 < LIM then (numS n 0, 0) else (0, 5) := by
  have := parse_main [] false (.inl ⟨rfl, rfl⟩) (decS n) [] [] (decS_digs n) (fun c hc => by cases hc) (.inl ⟨rfl, decS_ne n, rfl⟩) (by have := decS_len' n 60 hn (by decide); simpa using this) [] 0 Sfx.nil
  simp only [List.nil_append, List.append_nil, valS_decS, List.length_nil] at this
  rw [show (0 : Int) - ((0 : Nat) : Int) = 0 from rfl] at this
  simpa using this
theorem numS_zero (n : Nat) : numS n 0 = nearI n := by
  unfold numS nearI
  rw [if_pos (Int.le_refl _)]
  show near (n * 1 * 2 ^ tz) 1 = _
  rw [Nat.mul_one]
theorem numS_mono (a b : Nat) (k : Int) (h : a ≤ b) : numS a k ≤ numS b k := by
  unfold numS
  split
  · exact near_mono _ _ _ (by decide) (Nat.mul_le_mul_right _ (Nat.mul_le_mul_right _ h))
  · exact near_mono _ _ _ (Nat.pow_pos (by decide)) (Nat.mul_le_mul_right _ h)

def q908 : Nat := 908
theorem q908_eq : q908 = 908 := rfl
def q960 : Nat := 52 + q908
theorem q960_eq : q960 = 52 + q908 := rfl
def q400 : Nat := 400
theorem q400_eq : q400 = 400 := rfl
theorem near_lt (X Y : Nat) (hY : 0 < Y) (h : X ≤ Y * (2 ^ q960 * 2 ^ tz)) : near X Y < LIM := by
  have e : Y * (2 ^ q960 * 2 ^ tz) = 4503599627370496 * (Y * 2 ^ (q908 + tz)) := by
    obtain ⟨T, hT⟩ : ∃ T, 2 ^ tz = T := ⟨_, rfl⟩
    obtain ⟨A, hA⟩ : ∃ A : Nat, (2 : Nat) ^ q908 = A := ⟨_, rfl⟩
    rw [Nat.pow_add, hT, q960_eq, Nat.pow_add, hA, show (2 : Nat) ^ 52 = 4503599627370496 from rfl]
    rw [Nat.mul_left_comm 4503599627370496, Nat.mul_assoc]
  have h1 := near_mono X _ Y hY (e ▸ h)
  rw [near_exact 4503599627370496 (q908 + tz) Y hY (by decide) (.inr (Nat.le_refl _))] at h1
  have ht := tz_eq
  have hq := q908_eq
  unfold LIM
  omega
theorem numS_lt (n : Nat) (k : Int) (a : Nat) (hn : n ≤ 10 ^ a) (ha : a ≤ 240) (hk : (a : Int) + k ≤ 240) : numS n k < LIM := by
  have hq := q960_eq
  have hq2 := q908_eq
  unfold numS
  split
  · rename_i h
    refine near_lt _ _ (by decide) ?_
    rw [Nat.one_mul]
    refine Nat.mul_le_mul_right _ ?_
    calc n * 10 ^ k.toNat ≤ 10 ^ a * 10 ^ k.toNat := Nat.mul_le_mul_right _ hn
      _ = 10 ^ (a + k.toNat) := (Nat.pow_add ..).symm
      _ ≤ 2 ^ (4 * (a + k.toNat)) := ten_two _
      _ ≤ 2 ^ q960 := Nat.pow_le_pow_right (by decide) (by omega)
  · have hp : 0 < 10 ^ (-k).toNat := Nat.pow_pos (by decide)
    refine near_lt _ _ hp ?_
    rw [← Nat.mul_assoc]
    refine Nat.mul_le_mul_right _ ?_
    calc n ≤ 10 ^ a := hn
      _ ≤ 2 ^ (4 * a) := ten_two _
      _ ≤ 2 ^ q960 := Nat.pow_le_pow_right (by decide) (by omega)
      _ ≤ 10 ^ (-k).toNat * 2 ^ q960 := Nat.le_mul_of_pos_left _ hp
theorem numS_two (n : Nat) (k : Int) (hn : 1 ≤ n) (hk : -100 ≤ k) : numS (2 * n) k = numS n k + 4503599627370496 := by
  have ht := tz_eq
  have hq := q400_eq
  have h52 : (4503599627370496 : Nat) * 2 ^ q400 ≤ 2 ^ tz := by
    rw [show (4503599627370496 : Nat) = 2 ^ 52 from rfl, ← Nat.pow_add]
    exact Nat.pow_le_pow_right (by decide) (by omega)
  unfold numS
  split
  · rw [show 2 * n * 10 ^ k.toNat * 2 ^ tz = 2 * (n * 10 ^ k.toNat * 2 ^ tz) from by rw [Nat.mul_assoc 2, Nat.mul_assoc 2]]
    refine near_two _ _ (by decide) ?_
    have h1 : 1 ≤ n * 10 ^ k.toNat := Nat.mul_pos hn (Nat.pow_pos (by decide))
    have h2 : (4503599627370496 : Nat) ≤ 4503599627370496 * 2 ^ q400 := Nat.le_mul_of_pos_right _ (Nat.pow_pos (by decide))
    calc 4503599627370496 * 1 ≤ 4503599627370496 * 2 ^ q400 := by rw [Nat.mul_one]; exact h2
      _ ≤ 2 ^ tz := h52
      _ ≤ n * 10 ^ k.toNat * 2 ^ tz := Nat.le_mul_of_pos_left _ h1
  · rw [Nat.mul_assoc]
    refine near_two _ _ (Nat.pow_pos (by decide)) ?_
    calc 4503599627370496 * 10 ^ (-k).toNat ≤ 4503599627370496 * 2 ^ (4 * (-k).toNat) := Nat.mul_le_mul_left _ (ten_two _)
      _ ≤ 4503599627370496 * 2 ^ q400 := Nat.mul_le_mul_left _ (Nat.pow_le_pow_right (by decide) (by omega))
      _ ≤ 2 ^ tz := h52
      _ ≤ n * 2 ^ tz := Nat.le_mul_of_pos_left _ hn
/-- noughts behind, and the exponent less by so many -/
theorem numS_tens (n j : Nat) : numS (n * 10 ^ j) (-(j : Int)) = numS n 0 := by
  rcases Nat.eq_zero_or_pos j with rfl | h
  · rw [Nat.pow_zero, Nat.mul_one]; rfl
  · rw [numS_zero]
    unfold numS nearI
    rw [if_neg (by omega), Int.neg_neg, Int.toNat_natCast, Nat.mul_right_comm]
    have := near_mul (n * 2 ^ tz) 1 (10 ^ j) (Nat.pow_pos (by decide))
    rw [Nat.one_mul] at this
    exact this

theorem Tx.plus {s t : ByteArray} {a b : List UInt8} (h : Tx s a) (g : Tx t b) : Tx (s ++ t) (a ++ b) := by
  unfold Tx at *
  rw [← h, ← g]
  simp

theorem tenText_t (v : Int) (w : World) (h1 : -9223372036854775808 ≤ v) (h2 : v ≤ 9223372036854775807) (k : Nat) (hk : (tenS v).length ≤ k) :
    Calls Tryd.prog 19 #[.int .i64 v] w fun e w' => ∃ t : ByteArray, e = .returned (.string t) ∧ Hid (Tx t (tenS v)) ∧ t.size ≤ k ∧ Nx w w' :=
  (tenText_any v w h1 h2).mono fun _ _ ⟨h, hb⟩ => ⟨_, h, Tx.of _, Tx.sz (Tx.of (tenS v)) k hk, hb⟩
theorem tenS_nat (n : Nat) : tenS (n : Int) = decS n := by
  unfold tenS; rw [if_neg (by omega)]; rfl
theorem tenText_n (n : Nat) (w : World) (h2 : (n : Int) ≤ 9223372036854775807) :
    Calls Tryd.prog 19 #[.int .i64 (n : Int)] w fun e w' => ∃ t : ByteArray, e = .returned (.string t) ∧ Hid (Tx t (decS n)) ∧ t.size ≤ 20 ∧ Nx w w' := by
  refine (tenText_t n w (by omega) h2 20 ?_).mono ?_
  · rw [tenS_nat]; exact decS_len 19 n (by omega)
  · rintro e w' ⟨t, h1, h3, h4, h5⟩
    rw [tenS_nat] at h3
    exact ⟨t, h1, h3, h4, h5⟩
end Go.Proofs.YtddolmkmijkpiaaDoor
