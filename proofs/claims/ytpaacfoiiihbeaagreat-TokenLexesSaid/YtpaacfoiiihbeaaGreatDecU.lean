/- The parts of a text, and the document's parse. Plain lemmas. -/
import Derived.Test.YtpaacfoiiihbeaaGreatDecC
namespace Go.Proofs.YtpaacfoiiihbeaaGreat
open Go.RowKit

theorem scan_true (t : List UInt8) : scanS true t = ((spanD t).1, (spanD t).1.length, true, (spanD t).2) := by
  induction t with
  | nil => rfl
  | cons c t ih =>
    unfold scanS spanD
    by_cases h : isDig c = true
    · simp [h, ih]
    · simp [h]
theorem dig_not_stop (c : UInt8) (h : isDig c = true) : c ≠ 46 := by
  rintro rfl; revert h; decide
theorem scan_false (t : List UInt8) : scanS false t =
    if (stopS (spanD t).2).1 then ((spanD t).1 ++ (spanD (stopS (spanD t).2).2).1, (spanD (stopS (spanD t).2).2).1.length, true, (spanD (stopS (spanD t).2).2).2)
    else ((spanD t).1, 0, false, (stopS (spanD t).2).2) := by
  induction t with
  | nil => rfl
  | cons c t ih =>
    unfold scanS
    by_cases h : isDig c = true
    · rw [if_pos h, ih]
      have hs : spanD (c :: t) = (c :: (spanD t).1, (spanD t).2) := by rw [spanD, if_pos h]
      rw [hs]
      dsimp only
      split <;> simp
    · rw [if_neg h]
      have hs : spanD (c :: t) = ([], c :: t) := by rw [spanD, if_neg h]
      rw [hs]
      dsimp only
      by_cases h46 : c = 46
      · subst h46
        rw [if_pos ⟨rfl, rfl⟩, scan_true]
        simp [stopS]
      · have h2 : ¬ (c.toNat = 46 ∧ false = false) := fun e => h46 (UInt8.toNat_inj.1 (by rw [e.1]; rfl))
        rw [if_neg h2]
        simp [stopS, h46]
/-- digits as a number, to 100000 -/
def bigF : List UInt8 → Nat → Nat
  | [], v => v
  | c :: l, v => bigF l (min (v * 10 + digV c) 100000)
theorem expDigits_all (l : List UInt8) (h : digs l) : ∀ v, expDigits l v = some (bigF l v) := by
  induction l with
  | nil => intro v; rfl
  | cons c l ih =>
    intro v
    rw [expDigits, if_pos (h c (List.mem_cons_self ..)), ih (fun d hd => h d (List.mem_cons_of_mem _ hd))]
    rfl
theorem expDigits_some (l : List UInt8) : (spanD l).2 ≠ [] → ∀ v, expDigits l v = none := by
  induction l with
  | nil => intro h; exact absurd rfl h
  | cons c l ih =>
    intro h v
    unfold expDigits
    by_cases hc : isDig c = true
    · rw [if_pos hc]
      apply ih
      rw [spanD, if_pos hc] at h
      exact h
    · rw [if_neg hc]
theorem cap_big (l : List UInt8) : ∀ v u, min v 401 = min u 401 → u ≤ 401 → min (bigF l v) 401 = min (capF l u) 401 := by
  induction l with
  | nil => intro v u h _; exact h
  | cons c l ih =>
    intro v u h hu
    unfold bigF capF
    refine ih _ _ ?_ (Nat.min_le_right _ _)
    omega
theorem expS_is (c : UInt8) (l : List UInt8) : ((expD (c :: l)).2 = false ∧ expS (c :: l) = none) ∨
    ((expD (c :: l)).2 = true ∧ ∃ v : Nat, expS (c :: l) = some (if (signS l).1 then -(v : Int) else (v : Int), decide (400 < v)) ∧ (if 400 < v then (400 < (expD (c :: l)).1 ∨ (expD (c :: l)).1 < -400) else (expD (c :: l)).1 = if (signS l).1 then -(v : Int) else (v : Int))) := by
  by_cases he : c.toNat = 101 ∨ c.toNat = 69
  · have h1 : expD (c :: l) = (if (signS l).1 then -((capF (spanD (signS l).2).1 0 : Nat) : Int) else ((capF (spanD (signS l).2).1 0 : Nat) : Int), !(spanD (signS l).2).1.isEmpty && (spanD (signS l).2).2.isEmpty) := by simp only [expD, if_pos he]
    rw [h1]
    simp only [expS, if_pos he]
    generalize (signS l).1 = neg
    generalize (signS l).2 = r
    by_cases hr : r = []
    · subst hr
      left; exact ⟨rfl, if_pos rfl⟩
    · rw [if_neg hr]
      by_cases hrest : (spanD r).2 = []
      · right
        have hall : (spanD r).1 = r := by have := spanD_app r; rw [hrest, List.append_nil] at this; exact this.symm
        have hd : digs r := by rw [← hall]; exact spanD_digs r
        rw [hrest, hall, expDigits_all r hd]
        refine ⟨by cases r with
          | nil => exact absurd rfl hr
          | cons => rfl, bigF r 0, rfl, ?_⟩
        have hcb := cap_big r 0 0 rfl (by decide)
        have hc := capF_le r 0 (by decide)
        try dsimp only
        split
        · rename_i h
          have : capF r 0 = 401 := by omega
          rw [this]
          cases neg
          · left; decide
          · right; decide
        · rename_i h
          have : capF r 0 = bigF r 0 := by omega
          rw [this]
      · left
        rw [expDigits_some r hrest]
        refine ⟨?_, rfl⟩
        cases hq : (spanD r).2 with
        | nil => exact absurd hq hrest
        | cons => simp
  · left
    exact ⟨by simp only [expD, if_neg he], by simp only [expS, if_neg he]⟩

theorem parse_take (l : List UInt8) (sg : Int) (wv fv : ByteArray) (ev : Int) (ok : Bool) (h : TakeD l sg wv fv ev ok) :
    (ok = false → parseS l = (0, 2)) ∧ (ok = true → ∃ W F, Tx wv W ∧ Tx fv F ∧ digs W ∧ digs F ∧ W.length + F.length ≤ l.length ∧ ∃ S : Nat, sg = (S : Int) ∧ (S = 0 ∨ S = 9223372036854775808) ∧
      parseS l = if 60 < W.length + F.length then (0, 4) else if 400 < ev ∨ ev < -400 then (0, 5) else if numS (valS (W ++ F)) (ev - F.length) < LIM then (S + numS (valS (W ++ F)) (ev - F.length), 0) else (0, 5)) := by
  unfold TakeD at h
  have hp : parseS l = (if (scanS false (signS l).2).1 = [] ∨ (scanS false (signS l).2).2.2.1 = true ∧ (scanS false (signS l).2).2.1 = 0 then (0, 2)
    else match expS (scanS false (signS l).2).2.2.2 with
    | none => (0, 2)
    | some (v, big) =>
      if 60 < (scanS false (signS l).2).1.length then (0, 4)
      else if big then (0, 5)
      else if numS (valS (scanS false (signS l).2).1) (v - (scanS false (signS l).2).2.1) < LIM then ((if (signS l).1 then 9223372036854775808 else 0) + numS (valS (scanS false (signS l).2).1) (v - (scanS false (signS l).2).2.1), 0)
      else (0, 5)) := rfl
  rw [scan_false] at hp
  have g1 := signS_len l
  have g2 := spanD_len (signS l).2
  have g3 := stopS_len (spanD (signS l).2).2
  have g4 := spanD_len (stopS (spanD (signS l).2).2).2
  generalize hneg : (signS l).1 = neg at *
  generalize (signS l).2 = r1 at *
  have hW := spanD_digs r1
  generalize (spanD r1).1 = W at *
  generalize (spanD r1).2 = r2 at *
  generalize (stopS r2).1 = stop at *
  generalize (stopS r2).2 = r3 at *
  have hF := spanD_digs r3
  generalize (spanD r3).1 = F at *
  generalize (spanD r3).2 = r4 at *
  have hS : ∃ S : Nat, (if neg = true then (9223372036854775808 : Int) else 0) = (S : Int) ∧ (S = 0 ∨ S = 9223372036854775808) ∧ (if neg = true then 9223372036854775808 else 0) = S := by
    cases neg
    · exact ⟨0, rfl, .inl rfl, rfl⟩
    · exact ⟨9223372036854775808, rfl, .inr rfl, rfl⟩
  obtain ⟨S, hS1, hS2, hS3⟩ := hS
  rw [hS3] at hp
  rw [hS1] at h
  -- what is left, and the digits behind the stop
  obtain ⟨G, rest, hG, hrest, hgd, hgl⟩ : ∃ G rest, (if stop = true then F else []) = G ∧ (if stop = true then r4 else r3) = rest ∧ digs G ∧ W.length + G.length ≤ l.length := by
    refine ⟨_, _, rfl, rfl, ?_, ?_⟩
    · cases stop
      · intro c hc; cases hc
      · exact hF
    · cases stop
      · simp; omega
      · simp; omega
  rw [hG, hrest] at h
  have hp2 : parseS l = (if G = [] ∧ (stop = true ∨ W = []) then (0, 2)
    else match expS rest with
    | none => (0, 2)
    | some (v, big) =>
      if 60 < (W ++ G).length then (0, 4)
      else if big then (0, 5)
      else if numS (valS (W ++ G)) (v - G.length) < LIM then (S + numS (valS (W ++ G)) (v - G.length), 0)
      else (0, 5)) := by
    rw [hp]
    cases stop
    · simp at hG hrest
      subst hG hrest
      simp
    · simp at hG hrest
      subst hG hrest
      have e : (W ++ F = [] ∨ True ∧ F.length = 0) ↔ (F = [] ∧ (True ∨ W = [])) := by
        rw [List.append_eq_nil_iff, List.length_eq_zero_iff]
        constructor
        · rintro (⟨_, h⟩ | ⟨_, h⟩) <;> exact ⟨h, .inl trivial⟩
        · rintro ⟨h, _⟩; exact .inr ⟨trivial, h⟩
      simp only [if_true, e]
  by_cases hf : G = [] ∧ (stop = true ∨ W = [])
  · rw [if_pos hf] at h hp2
    exact ⟨fun _ => hp2, fun h' => (by rw [h] at h'; cases h')⟩
  · rw [if_neg hf] at h hp2
    obtain ⟨h1, h2, h3, h4⟩ := h
    cases rest with
    | nil =>
      rw [if_pos rfl] at h4
      obtain ⟨rfl, rfl⟩ := h4
      refine ⟨fun h => (by cases h), fun _ => ⟨W, G, h2, h3, hW, hgd, hgl, S, h1, hS2, ?_⟩⟩
      rw [hp2, show expS [] = some (0, false) from rfl]
      simp
    | cons c m =>
      rw [if_neg (by simp)] at h4
      obtain ⟨rfl, rfl⟩ := h4
      rcases expS_is c m with ⟨e1, e2⟩ | ⟨e1, v, e2, e3⟩
      · rw [e2] at hp2
        exact ⟨fun _ => hp2, fun h' => (by rw [e1] at h'; cases h')⟩
      · rw [e2] at hp2
        refine ⟨fun h' => (by rw [e1] at h'; cases h'), fun _ => ⟨W, G, h2, h3, hW, hgd, hgl, S, h1, hS2, ?_⟩⟩
        rw [hp2, List.length_append]
        dsimp only
        by_cases hb : 400 < v
        · rw [if_pos hb] at e3
          rw [if_pos e3]
          simp [hb]
        · rw [if_neg hb] at e3
          have hv : ¬ (400 < (expD (c :: m)).1 ∨ (expD (c :: m)).1 < -400) := by
            rw [e3]; split <;> omega
          rw [if_neg hv, e3]
          simp [hb]
end Go.Proofs.YtpaacfoiiihbeaaGreat
