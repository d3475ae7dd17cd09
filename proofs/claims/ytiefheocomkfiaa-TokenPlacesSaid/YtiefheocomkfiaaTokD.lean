/- The contracts of token's numbers' values. -/
import Derived.Test.YtiefheocomkfiaaTokC
set_option linter.unusedVariables false
set_option linter.unusedSimpArgs false
namespace Go.Proofs.Ytiefheocomkfiaa
open Go.RowKit

theorem fracN_le (l : List UInt8) : fracN l ≤ l.length := by
  cases l with
  | nil => exact Nat.le_refl _
  | cons c r =>
    unfold fracN; dsimp only
    have := digN_le r
    split
    · simp; omega
    · simp
theorem expN_le (l : List UInt8) : expN l ≤ l.length := by
  cases l with
  | nil => exact Nat.le_refl _
  | cons c r =>
    unfold expN; dsimp only
    have h1 := digN_le (r.drop (sgnN r))
    have h2 := (sgnN_le r).1
    split
    · simp at h1 ⊢; omega
    · simp

set_option maxRecDepth 100000 in
set_option maxHeartbeats 1600000 in
theorem decimalLength_any (s : ByteArray) (l : List UInt8) (w : World) (hl : Tx s l) (hs : (l.length : Int) ≤ 100000) :
    Calls Try.prog 31 #[.string s] w fun e w' => e = .returned (.int .i64 (decN l : Nat)) ∧ w' = w := by
  have HL := Lib.hid hl
  have hz : (s.size : Int) = (l.length : Int) := by rw [hl.size]
  clear hl
  obtain ⟨M, hM⟩ : ∃ M, sgnN l = M := ⟨_, rfl⟩
  obtain ⟨hM1, hM2⟩ := sgnN_le l
  obtain ⟨K, hK⟩ : ∃ K, digN (l.drop M) = K := ⟨_, rfl⟩
  have hK1 : M + K ≤ l.length := by rw [← hK, ← hM]; have := digN_le (l.drop (sgnN l)); simp at this; omega
  obtain ⟨F, hF⟩ : ∃ F, fracN (l.drop (M + K)) = F := ⟨_, rfl⟩
  have hF1 : M + K + F ≤ l.length := by rw [← hF]; have := fracN_le (l.drop (M + K)); simp at this; omega
  obtain ⟨D, hD⟩ : ∃ D, K + F = D := ⟨_, rfl⟩
  obtain ⟨E, hE⟩ : ∃ E, expN (l.drop (M + D)) = E := ⟨_, rfl⟩
  have hE1 : M + D + E ≤ l.length := by rw [← hE]; have := expN_le (l.drop (M + D)); simp at this; omega
  have HC : Hid (decN l = if D = 0 then 0 else M + D + E) := by
    unfold Hid decN; dsimp only; rw [hM, hK, hF, hD, hE]
  have HM := Lib.hid hM
  have HK := Lib.hid hK
  have HF := Lib.hid hF
  have HE := Lib.hid hE
  obtain ⟨u1, hu1, HU1⟩ := HL.out.from_ M
  obtain ⟨u2, hu2, HU2⟩ := HL.out.from_ (M + K)
  obtain ⟨u3, hu3, HU3⟩ := HL.out.from_ (M + D)
  have i1 : (M : Int) ≤ (l.length : Int) := by omega
  have i2 : (M : Int) + (K : Int) ≤ (l.length : Int) := by omega
  have i3 : (M : Int) + (D : Int) ≤ (l.length : Int) := by omega
  have i4 : (M : Int) + (D : Int) + (E : Int) ≤ (l.length : Int) := by omega
  have hDI : (K : Int) + (F : Int) = (D : Int) := by omega
  rw [hM] at hM1 hM2
  clear hM hK hF hE hM1 hM2 hK1 hF1 hE1 hD
  go_enter Try.func31, Try.ntmps31
  go_wp2_with fail
  refine (signLength_any s l w HL.out).mono ?_; rintro e w' ⟨rfl, rfl⟩
  rw [HM.out]
  go_wp2_with fail
  refine (span_any _ isDig such_digit u1 _ _ HU1.out (by simp; omega)).mono ?_; rintro e w' ⟨rfl, rfl⟩
  rw [show spanN isDig (l.drop M) = K from HK.out]
  go_wp2_with fail
  refine (fractionLength_any u2 _ _ HU2.out (by simp; omega)).mono ?_; rintro e w' ⟨rfl, rfl⟩
  rw [HF.out]
  by_cases h0 : D = 0
  · have b1 : ((D : Int) == 0) = true := by rw [beq_iff_eq]; omega
    have HC2 : Hid (decN l = 0) := by unfold Hid; rw [HC.out, if_pos h0]
    clear h0
    go_wp2_with fail
    go_ret
    rw [HC2.out]
    exact ⟨rfl, rfl⟩
  · have b1 : ((D : Int) == 0) = false := by rw [beq_eq_false_iff_ne]; omega
    have HC2 : Hid (decN l = M + D + E) := by unfold Hid; rw [HC.out, if_neg h0]
    clear h0
    go_wp2_with fail
    refine (exponentLength_any u3 _ _ HU3.out (by simp; omega)).mono ?_; rintro e w' ⟨rfl, rfl⟩
    rw [HE.out]
    go_wp2_with fail
    go_ret
    rw [HC2.out]
    exact ⟨by go_num, rfl⟩

set_option maxRecDepth 100000 in
set_option maxHeartbeats 1600000 in
theorem isWhole_any (s : ByteArray) (l : List UInt8) (w : World) (hl : Tx s l) (hs : (l.length : Int) ≤ 100000) :
    Calls Try.prog 32 #[.string s] w fun e w' => e = .returned (.bool (wholeB l)) ∧ w' = w := by
  have HL := Lib.hid hl
  have hz : (s.size : Int) = (l.length : Int) := by rw [hl.size]
  clear hl
  obtain ⟨M, hM⟩ : ∃ M, sgnN l = M := ⟨_, rfl⟩
  obtain ⟨hM1, hM2⟩ := sgnN_le l
  obtain ⟨K, hK⟩ : ∃ K, digN (l.drop M) = K := ⟨_, rfl⟩
  have hK1 : M + K ≤ l.length := by rw [← hK, ← hM]; have := digN_le (l.drop (sgnN l)); simp at this; omega
  have HC : Hid (wholeB l = decide (M + K = l.length)) := by unfold Hid wholeB; rw [hM, hK]
  have HM := Lib.hid hM
  have HK := Lib.hid hK
  obtain ⟨u1, hu1, HU1⟩ := HL.out.from_ M
  have i1 : (M : Int) ≤ (l.length : Int) := by omega
  have i2 : (M : Int) + (K : Int) ≤ (l.length : Int) := by omega
  rw [hM] at hM1 hM2
  clear hM hK hM1 hM2 hK1
  go_enter Try.func32, Try.ntmps32
  go_wp2_with fail
  refine (signLength_any s l w HL.out).mono ?_; rintro e w' ⟨rfl, rfl⟩
  rw [HM.out]
  go_wp2_with fail
  refine (span_any _ isDig such_digit u1 _ _ HU1.out (by simp; omega)).mono ?_; rintro e w' ⟨rfl, rfl⟩
  rw [show spanN isDig (l.drop M) = K from HK.out]
  go_wp2_with fail
  go_ret
  refine ⟨congrArg (fun b => Ending.returned (Value.bool b)) ?_, rfl⟩
  rw [HC.out, Bool.eq_iff_iff]
  simp
  omega

theorem isHex_iff (c : UInt8) : isHexS c = true ↔ (48 ≤ c.toNat ∧ c.toNat ≤ 57) ∨ (97 ≤ c.toNat ∧ c.toNat ≤ 102) ∨ (65 ≤ c.toNat ∧ c.toNat ≤ 70) := by
  unfold isHexS isDig; simp; omega
theorem hexV_lt (c : UInt8) (h : isHexS c = true) : hexV c ≤ 15 := by
  have := (isHex_iff c).1 h
  unfold hexV; split
  · omega
  · split <;> omega

set_option maxRecDepth 100000 in
set_option maxHeartbeats 1600000 in
theorem digitValue_any (c : UInt8) (w : World) (hc : isHexS c = true) :
    Calls Try.prog 55 #[.int .u8 (c.toNat : Int)] w fun e w' => e = .returned (.int .u64 (hexV c : Nat)) ∧ w' = w := by
  have h := (isHex_iff c).1 hc
  obtain ⟨H, hH⟩ : ∃ H, Hid (hexV c = H) := ⟨_, rfl⟩
  rw [hH.out]
  by_cases c1 : 97 ≤ c.toNat
  · obtain ⟨R, hR⟩ : ∃ R : Nat, (c.toNat : Int) - 97 = (R : Int) := ⟨c.toNat - 97, by omega⟩
    have hR2 : H = R + 10 := by rw [← hH.out]; unfold hexV; rw [if_pos (by omega)]; omega
    have b1 : decide ((97 : Int) ≤ (c.toNat : Int)) = true := decide_eq_true (by omega)
    have b2 : decide ((c.toNat : Int) ≤ 102) = true := decide_eq_true (by omega)
    have i1 : (97 : Int) ≤ (c.toNat : Int) := by omega
    have i2 : (c.toNat : Int) ≤ 102 := by omega
    have i3 : (R : Int) ≤ 5 := by omega
    subst hR2
    clear h c1
    go_enter Try.func55, Try.ntmps55
    go_wp2_with fail
    go_ret
    exact ⟨by go_num, rfl⟩
  · have b1 : decide ((97 : Int) ≤ (c.toNat : Int)) = false := decide_eq_false (by omega)
    by_cases c2 : 65 ≤ c.toNat
    · obtain ⟨R, hR⟩ : ∃ R : Nat, (c.toNat : Int) - 65 = (R : Int) := ⟨c.toNat - 65, by omega⟩
      have hR2 : H = R + 10 := by rw [← hH.out]; unfold hexV; rw [if_neg (by omega), if_pos (by omega)]; omega
      have b3 : decide ((65 : Int) ≤ (c.toNat : Int)) = true := decide_eq_true (by omega)
      have b4 : decide ((c.toNat : Int) ≤ 70) = true := decide_eq_true (by omega)
      have i1 : (65 : Int) ≤ (c.toNat : Int) := by omega
      have i2 : (c.toNat : Int) ≤ 70 := by omega
      have i3 : (R : Int) ≤ 5 := by omega
      subst hR2
      clear h c1 c2
      go_enter Try.func55, Try.ntmps55
      go_wp2_with fail
      go_ret
      exact ⟨by go_num, rfl⟩
    · obtain ⟨R, hR⟩ : ∃ R : Nat, (c.toNat : Int) - 48 = (R : Int) := ⟨c.toNat - 48, by omega⟩
      have hR2 : H = R := by rw [← hH.out]; unfold hexV; rw [if_neg (by omega), if_neg (by omega)]; omega
      have b3 : decide ((65 : Int) ≤ (c.toNat : Int)) = false := decide_eq_false (by omega)
      have i1 : (48 : Int) ≤ (c.toNat : Int) := by omega
      have i2 : (c.toNat : Int) ≤ 57 := by omega
      have i3 : (R : Int) ≤ 9 := by omega
      subst hR2
      clear h c1 c2
      go_enter Try.func55, Try.ntmps55
      go_wp2_with fail
      go_ret
      exact ⟨by go_num, rfl⟩
end Go.Proofs.Ytiefheocomkfiaa
