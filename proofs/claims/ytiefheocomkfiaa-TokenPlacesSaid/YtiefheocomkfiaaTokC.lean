/- The contracts of token's numbers' lengths. -/
import Derived.Test.YtiefheocomkfiaaTokB
set_option linter.unusedVariables false
set_option linter.unusedSimpArgs false
namespace Go.Proofs.Ytiefheocomkfiaa
open Go.RowKit

theorem sgnN_le (l : List UInt8) : sgnN l ≤ l.length ∧ sgnN l ≤ 1 := by
  cases l with
  | nil => exact ⟨Nat.le_refl _, Nat.zero_le _⟩
  | cons c l => unfold sgnN; dsimp only; split <;> simp
theorem digN_le (l : List UInt8) : digN l ≤ l.length := spanN_le _ _
theorem frac_is (l : List UInt8) : fracN l = if Lib.hasPrefix l [46] = true ∧ digN (Lib.trimPrefix l [46]) ≠ 0 then 1 + digN (Lib.trimPrefix l [46]) else 0 := by
  cases l with
  | nil => rfl
  | cons c r =>
    by_cases h : c = 46
    · subst h
      have h1 : Lib.hasPrefix (46 :: r) [46] = true := by simp [Lib.hasPrefix, List.isPrefixOf]
      have h2 : Lib.trimPrefix (46 :: r) [46] = r := by unfold Lib.trimPrefix; rw [h1]; rfl
      rw [h1, h2]
      unfold fracN
      dsimp only
      by_cases h0 : digN r = 0
      · simp [h0]
      · rw [if_pos ⟨rfl, h0⟩, if_pos ⟨rfl, h0⟩]; omega
    · have h1 : Lib.hasPrefix (c :: r) [46] = false := by
        simp [Lib.hasPrefix, List.isPrefixOf]; exact fun e => h e.symm
      have h3 : ¬ c.toNat = 46 := fun e => h (UInt8.toNat_inj.1 (by rw [e]; rfl))
      rw [h1]
      unfold fracN
      simp [h3]
theorem hex_is (l : List UInt8) : hexN l = if Lib.hasPrefix l [48, 120] = true ∧ spanN isHexS (Lib.trimPrefix l [48, 120]) ≠ 0 then 2 + spanN isHexS (Lib.trimPrefix l [48, 120]) else 0 := by
  cases l with
  | nil => rfl
  | cons c r => cases r with
    | nil => simp [hexN, Lib.hasPrefix, List.isPrefixOf]
    | cons d r =>
      by_cases h : c = 48 ∧ d = 120
      · obtain ⟨rfl, rfl⟩ := h
        have h1 : Lib.hasPrefix (48 :: 120 :: r) [48, 120] = true := by simp [Lib.hasPrefix, List.isPrefixOf]
        have h2 : Lib.trimPrefix (48 :: 120 :: r) [48, 120] = r := by unfold Lib.trimPrefix; rw [h1]; rfl
        rw [h1, h2]
        unfold hexN
        simp
      · have h1 : Lib.hasPrefix (c :: d :: r) [48, 120] = false := by
          simp [Lib.hasPrefix, List.isPrefixOf]
          intro h1 h2
          exact h ⟨h1.symm, h2.symm⟩
        rw [h1]
        unfold hexN
        simp
        intro h1 h2
        exact absurd ⟨h1, h2⟩ h

set_option maxRecDepth 100000 in
set_option maxHeartbeats 800000 in
theorem signLength_any (s : ByteArray) (l : List UInt8) (w : World) (hl : Tx s l) :
    Calls Try.prog 42 #[.string s] w fun e w' => e = .returned (.int .i64 (sgnN l : Nat)) ∧ w' = w := by
  cases l with
  | nil =>
    have e1 := hl.nil.1
    clear hl
    go_enter Try.func42, Try.ntmps42
    go_wp2_with fail
    go_ret
    exact ⟨rfl, rfl⟩
  | cons c l =>
    obtain ⟨hp, t, e0, e1, ht, e2, e3⟩ := hl.cons
    clear ht hl
    have HC : Hid (sgnN (c :: l) = if c.toNat = 43 ∨ c.toNat = 45 then 1 else 0) := rfl
    by_cases c43 : c.toNat = 43
    · have b1 : ((c.toNat : Int) == 43) = true := by rw [beq_iff_eq]; omega
      have HC2 : Hid (sgnN (c :: l) = 1) := by unfold Hid; rw [HC.out, if_pos (.inl c43)]
      clear c43
      go_enter Try.func42, Try.ntmps42
      go_wp2_with fail
      go_ret
      rw [HC2.out]
      exact ⟨rfl, rfl⟩
    · have b1 : ((c.toNat : Int) == 43) = false := by rw [beq_eq_false_iff_ne]; omega
      by_cases c45 : c.toNat = 45
      · have b2 : ((c.toNat : Int) == 45) = true := by rw [beq_iff_eq]; omega
        have HC2 : Hid (sgnN (c :: l) = 1) := by unfold Hid; rw [HC.out, if_pos (.inr c45)]
        clear c43 c45
        go_enter Try.func42, Try.ntmps42
        go_wp2_with fail
        go_ret
        rw [HC2.out]
        exact ⟨rfl, rfl⟩
      · have b2 : ((c.toNat : Int) == 45) = false := by rw [beq_eq_false_iff_ne]; omega
        have HC2 : Hid (sgnN (c :: l) = 0) := by unfold Hid; rw [HC.out, if_neg (by omega)]
        clear c43 c45
        go_enter Try.func42, Try.ntmps42
        go_wp2_with fail
        go_ret
        rw [HC2.out]
        exact ⟨rfl, rfl⟩

set_option maxRecDepth 100000 in
set_option maxHeartbeats 800000 in
theorem fractionLength_any (s : ByteArray) (l : List UInt8) (w : World) (hl : Tx s l) (hs : (l.length : Int) ≤ 100000) :
    Calls Try.prog 43 #[.string s] w fun e w' => e = .returned (.int .i64 (fracN l : Nat)) ∧ w' = w := by
  have HD : Hid (s.data.toList = l) := hl
  have HF := Lib.hid (frac_is l)
  obtain ⟨b, hb⟩ : ∃ b, Hid (Lib.hasPrefix l [46] = b) := ⟨_, rfl⟩
  obtain ⟨r, hr⟩ : ∃ r, Hid (Lib.trimPrefix l [46] = r) := ⟨_, rfl⟩
  have hrl : (r.length : Int) ≤ 100000 := by rw [← hr.out]; unfold Lib.trimPrefix; split; (simp; omega); omega
  rw [hb.out, hr.out] at HF
  clear hl
  go_enter Try.func43, Try.ntmps43
  go_wp2_with fail
  refine (Try.strings_CutPrefix s ⟨#[46]⟩ w).mono ?_; rintro e w' ⟨rfl, rfl⟩
  rw [HD.out, show (ByteArray.mk #[46]).data.toList = [46] from rfl, hb.out, hr.out]
  go_wp2_with fail
  refine (span_any _ isDig such_digit _ r _ (Tx.of r) (by omega)).mono ?_; rintro e w' ⟨rfl, rfl⟩
  have HF2 : Hid (fracN l = if b = true ∧ spanN isDig r ≠ 0 then 1 + spanN isDig r else 0) := HF
  obtain ⟨N, hN⟩ : ∃ N, spanN isDig r = N := ⟨_, rfl⟩
  have hle : (N : Int) ≤ 100000 := by have := spanN_le isDig r; omega
  rw [hN] at HF2 ⊢
  clear hN HF
  cases b
  · go_wp2_with fail
    go_ret
    rw [HF2.out]
    exact ⟨rfl, rfl⟩
  · by_cases h0 : N = 0
    · subst h0
      go_wp2_with fail
      go_ret
      rw [HF2.out]
      exact ⟨rfl, rfl⟩
    · have b1 : ((N : Int) == 0) = false := by rw [beq_eq_false_iff_ne]; omega
      have HF3 : Hid (fracN l = 1 + N) := by unfold Hid; rw [HF2.out, if_pos ⟨rfl, h0⟩]
      clear h0
      go_wp2_with fail
      go_ret
      rw [HF3.out]
      exact ⟨by go_num, rfl⟩

set_option maxRecDepth 100000 in
set_option maxHeartbeats 800000 in
theorem hexLength_any (s : ByteArray) (l : List UInt8) (w : World) (hl : Tx s l) (hs : (l.length : Int) ≤ 100000) :
    Calls Try.prog 29 #[.string s] w fun e w' => e = .returned (.int .i64 (hexN l : Nat)) ∧ w' = w := by
  have HD : Hid (s.data.toList = l) := hl
  have HF := Lib.hid (hex_is l)
  obtain ⟨b, hb⟩ : ∃ b, Hid (Lib.hasPrefix l [48, 120] = b) := ⟨_, rfl⟩
  obtain ⟨r, hr⟩ : ∃ r, Hid (Lib.trimPrefix l [48, 120] = r) := ⟨_, rfl⟩
  have hrl : (r.length : Int) ≤ 100000 := by rw [← hr.out]; unfold Lib.trimPrefix; split; (simp; omega); omega
  rw [hb.out, hr.out] at HF
  clear hl
  go_enter Try.func29, Try.ntmps29
  go_wp2_with fail
  refine (Try.strings_CutPrefix s ⟨#[48, 120]⟩ w).mono ?_; rintro e w' ⟨rfl, rfl⟩
  rw [HD.out, show (ByteArray.mk #[48, 120]).data.toList = [48, 120] from rfl, hb.out, hr.out]
  go_wp2_with fail
  refine (span_any _ isHexS such_hex _ r _ (Tx.of r) (by omega)).mono ?_; rintro e w' ⟨rfl, rfl⟩
  have HF2 : Hid (hexN l = if b = true ∧ spanN isHexS r ≠ 0 then 2 + spanN isHexS r else 0) := HF
  obtain ⟨N, hN⟩ : ∃ N, spanN isHexS r = N := ⟨_, rfl⟩
  have hle : (N : Int) ≤ 100000 := by have := spanN_le isHexS r; omega
  rw [hN] at HF2 ⊢
  clear hN HF
  cases b
  · go_wp2_with fail
    go_ret
    rw [HF2.out]
    exact ⟨rfl, rfl⟩
  · by_cases h0 : N = 0
    · subst h0
      go_wp2_with fail
      go_ret
      rw [HF2.out]
      exact ⟨rfl, rfl⟩
    · have b1 : ((N : Int) == 0) = false := by rw [beq_eq_false_iff_ne]; omega
      have HF3 : Hid (hexN l = 2 + N) := by unfold Hid; rw [HF2.out, if_pos ⟨rfl, h0⟩]
      clear h0
      go_wp2_with fail
      go_ret
      rw [HF3.out]
      exact ⟨by go_num, rfl⟩

theorem ne_test (a b : Nat) : ((((a : Int) == (b : Int)) = true) ↔ a = b) := by rw [beq_iff_eq]; omega

set_option maxRecDepth 100000 in
set_option maxHeartbeats 1600000 in
theorem exponentLength_any (s : ByteArray) (l : List UInt8) (w : World) (hl : Tx s l) (hs : (l.length : Int) ≤ 100000) :
    Calls Try.prog 44 #[.string s] w fun e w' => e = .returned (.int .i64 (expN l : Nat)) ∧ w' = w := by
  cases l with
  | nil =>
    have e1 := hl.nil.1
    clear hl
    go_enter Try.func44, Try.ntmps44
    go_wp2_with fail
    go_ret
    exact ⟨rfl, rfl⟩
  | cons c l =>
    have HL := Lib.hid hl
    obtain ⟨hp, t, e0, e1, ht, e2, e3⟩ := hl.cons
    have HT := Lib.hid ht
    have hll : (l.length : Int) ≤ 100000 := by simp at hs; omega
    have hz : (s.size : Int) = (l.length : Int) + 1 := by rw [hl.size]; simp
    clear ht hl hs
    obtain ⟨M, hM⟩ : ∃ M, sgnN l = M := ⟨_, rfl⟩
    obtain ⟨hM1, hM2⟩ := sgnN_le l
    obtain ⟨K, hK⟩ : ∃ K, digN (l.drop M) = K := ⟨_, rfl⟩
    have hK1 : K ≤ l.length := by rw [← hK]; have := digN_le (l.drop M); simp at this; omega
    have HC : Hid (expN (c :: l) = if (c.toNat = 101 ∨ c.toNat = 69) ∧ K ≠ 0 then 1 + M + K else 0) := by
      unfold Hid expN; dsimp only; rw [hM, hK]
    rw [hM] at hM1 hM2
    have HM := Lib.hid hM
    have HK := Lib.hid hK
    obtain ⟨u, hu, HU⟩ := HL.out.from_ (1 + M)
    have HU2 : Hid (Tx u (l.drop M)) := by
      have : (c :: l).drop (1 + M) = l.drop M := by rw [Nat.add_comm]; rfl
      rw [← this]; exact HU
    have hu2 : s.extract (M + 1) s.size = u := by rw [Nat.add_comm]; exact hu
    have hM0 : (M : Int) ≤ 1 := by omega
    have hK2 : (K : Int) ≤ 100000 := by omega
    have hM3 : (M : Int) ≤ (l.length : Int) := by omega
    clear hM hK HU hM1 hM2 hK1
    by_cases hE : c.toNat = 101 ∨ c.toNat = 69
    · have ht1 : ((c.toNat : Int) != 101) = false ∨ ((c.toNat : Int) != 101) = true ∧ ((c.toNat : Int) != 69) = false := by
        rcases hE with h | h
        · left; simp; omega
        · right; simp; omega
      have HC2 : Hid (expN (c :: l) = if K ≠ 0 then 1 + M + K else 0) := by unfold Hid; rw [HC.out]; simp [hE]
      clear hE HC
      rcases ht1 with b1 | ⟨b1, b2⟩
      all_goals
        go_enter Try.func44, Try.ntmps44
        go_wp2_with fail
        refine (signLength_any t l w HT.out).mono ?_; rintro e w' ⟨rfl, rfl⟩
        rw [HM.out]
        go_wp2_with fail
        refine (span_any _ isDig such_digit u (l.drop M) _ HU2.out (by simp; omega)).mono ?_; rintro e w' ⟨rfl, rfl⟩
        rw [show spanN isDig (l.drop M) = K from HK.out]
        by_cases h0 : K = 0
        · subst h0
          go_wp2_with fail
          go_ret
          rw [HC2.out]
          exact ⟨rfl, rfl⟩
        · have b1 : ((K : Int) == 0) = false := by rw [beq_eq_false_iff_ne]; omega
          have HF3 : Hid (expN (c :: l) = 1 + M + K) := by unfold Hid; rw [HC2.out, if_pos h0]
          clear h0
          go_wp2_with fail
          go_ret
          rw [HF3.out]
          exact ⟨by go_num, rfl⟩
    · have b1 : ((c.toNat : Int) != 101) = true := by simp; omega
      have b2 : ((c.toNat : Int) != 69) = true := by simp; omega
      have HC2 : Hid (expN (c :: l) = 0) := by unfold Hid; rw [HC.out]; simp [hE]
      clear hE HC
      go_enter Try.func44, Try.ntmps44
      go_wp2_with fail
      go_ret
      rw [HC2.out]
      exact ⟨rfl, rfl⟩
end Go.Proofs.Ytiefheocomkfiaa
