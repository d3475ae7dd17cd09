/- DecBack: for every number the law returns true and leaves memory as it was. No condition. -/
import Derived.Test.YtddolmkmijkpiaaDoorDecHalves
set_option linter.unusedVariables false
set_option linter.unusedSimpArgs false
namespace Go.Proofs.YtddolmkmijkpiaaDoor
open Go.RowKit

theorem rnd_near (a b : Nat) (hb : 0 < b) : 2 * (rnd a b * b) ≤ 2 * a + b ∧ 2 * a ≤ 2 * (rnd a b * b) + b := by
  have hdm := Nat.div_add_mod a b
  have hm := Nat.mod_lt a hb
  have e3 : b * (a / b) = a / b * b := Nat.mul_comm _ _
  unfold rnd
  split
  · rename_i h
    rw [Nat.add_mul, Nat.one_mul]
    omega
  · rename_i h
    omega
theorem near_same (X Y Z W : Nat) (hY : 0 < Y) (hW : 0 < W) (h : X * W = Z * Y) : near X Y = near Z W := by
  rw [← near_mul X Y W hW, ← near_mul Z W Y hY, h, Nat.mul_comm W Y]
theorem numS_shift (n j : Nat) (k : Int) : numS (n * 10 ^ j) k = numS n (k + j) := by
  rw [← near_numS, ← near_numS, Nat.one_mul, Nat.one_mul]
  refine near_same _ _ _ _ (Nat.pow_pos (by decide)) (Nat.pow_pos (by decide)) ?_
  obtain ⟨V, hV⟩ : ∃ V, 2 ^ tz = V := ⟨_, rfl⟩
  rw [hV]
  clear hV
  have e : 10 ^ j * 10 ^ k.toNat * 10 ^ (-(k + j)).toNat = 10 ^ (k + j).toNat * 10 ^ (-k).toNat := by
    rw [← Nat.pow_add, ← Nat.pow_add, ← Nat.pow_add]
    congr 1
    omega
  calc n * 10 ^ j * 10 ^ k.toNat * V * 10 ^ (-(k + j)).toNat = n * (10 ^ j * 10 ^ k.toNat * 10 ^ (-(k + j)).toNat) * V := by
        simp only [Nat.mul_assoc, Nat.mul_comm, Nat.mul_left_comm]
    _ = n * (10 ^ (k + j).toNat * 10 ^ (-k).toNat) * V := by rw [e]
    _ = n * 10 ^ (k + j).toNat * V * 10 ^ (-k).toNat := by simp only [Nat.mul_assoc, Nat.mul_comm, Nat.mul_left_comm]
theorem ex_bits (b : Nat) (hb : b < LIM) : ∃ E : Nat, (E : Int) = exP b + 1074 ∧ E * 4503599627370496 + exM b = b ∧ (E = 0 ∨ 4503599627370496 ≤ exM b) ∧ exM b < 9007199254740992 := by
  unfold LIM at hb
  by_cases h : b / 4503599627370496 = 0
  · refine ⟨0, ?_, ?_, .inl rfl, ?_⟩
    · unfold exP; rw [if_pos h]; rfl
    · unfold exM; rw [if_pos h]; omega
    · unfold exM; rw [if_pos h]; omega
  · refine ⟨b / 4503599627370496 - 1, ?_, ?_, .inr ?_, ?_⟩
    · unfold exP; rw [if_neg h]; omega
    · unfold exM; rw [if_neg h]; omega
    · unfold exM; rw [if_neg h]; omega
    · unfold exM; rw [if_neg h]; omega
/-- seventeen digits say which number it was -/
theorem back (b : Nat) (hb : b < LIM) (T : Int) (h1 : GE10 (exX b) (exY b) T) : numS (digN (exX b) (exY b) T) (T - 16) = b := by
  obtain ⟨E, hE, hEb, hE2, hm⟩ := ex_bits b hb
  have ht := tz_eq
  obtain ⟨k, hk⟩ : ∃ k : Int, T - 16 = k := ⟨_, rfl⟩
  have hexp : E + (-exP b).toNat = tz + (exP b).toNat := by omega
  have ht1 : (16 - T).toNat = (-k).toNat := by omega
  have ht2 : (-(16 - T)).toNat = k.toNat := by omega
  have hm9 : exM b ≤ 9007199254740991 := by omega
  rw [ge10_iff (exX b) (exY b) T ((-(16 - T)).toNat + 16) (16 - T).toNat (by omega), Nat.pow_add, ← Nat.mul_assoc] at h1
  obtain ⟨Kp, hKp⟩ : ∃ K, 10 ^ k.toNat = K := ⟨_, rfl⟩
  obtain ⟨Km, hKm⟩ : ∃ K, 10 ^ (-k).toNat = K := ⟨_, rfl⟩
  obtain ⟨Qp, hQp⟩ : ∃ K, 2 ^ (exP b).toNat = K := ⟨_, rfl⟩
  obtain ⟨Qm, hQm⟩ : ∃ K, 2 ^ (-exP b).toNat = K := ⟨_, rfl⟩
  obtain ⟨V, hV⟩ : ∃ K, 2 ^ tz = K := ⟨_, rfl⟩
  obtain ⟨U, hU⟩ : ∃ K, 2 ^ E = K := ⟨_, rfl⟩
  have pKp : 0 < Kp := by rw [← hKp]; exact Nat.pow_pos (by decide)
  have pKm : 0 < Km := by rw [← hKm]; exact Nat.pow_pos (by decide)
  have pQm : 0 < Qm := by rw [← hQm]; exact Nat.pow_pos (by decide)
  have pV : 0 < V := by rw [← hV]; exact Nat.pow_pos (by decide)
  have pU : 0 < U := by rw [← hU]; exact Nat.pow_pos (by decide)
  have hUV : U * Qm = V * Qp := by
    rw [← hU, ← hQm, ← hV, ← hQp, ← Nat.pow_add, ← Nat.pow_add, hexp]
  have ex : exX b = exM b * Qp := by unfold exX; rw [hQp]
  have ey : exY b = Qm := by unfold exY; rw [hQm, Nat.one_mul]
  obtain ⟨D, hD⟩ : ∃ D, digN (exX b) (exY b) T = D := ⟨_, rfl⟩
  have hDr : rnd (exM b * Qp * Km) (Qm * Kp) = D := by
    rw [← hD]; unfold digN
    rw [ex, ey, ht1, ht2, hKp, hKm]
  rw [ex, ey, ht1, ht2, hKp, hKm] at h1
  have hn := rnd_near (exM b * Qp * Km) (Qm * Kp) (Nat.mul_pos pQm pKp)
  rw [hDr] at hn
  rw [hD, hk, ← near_numS, hKp, hKm, hV, Nat.one_mul, ← hEb]
  clear hV hKp hKm hQp hQm hD hDr ht hexp ht1 ht2 hk hE ex ey hEb
  generalize exM b = m at *
  -- everything over V, and over Qm
  have i1 : 2 * (D * (Qm * Kp)) * V ≤ (2 * (m * Qp * Km) + Qm * Kp) * V := Nat.mul_le_mul_right _ hn.1
  have i2 : 2 * (m * Qp * Km) * V ≤ (2 * (D * (Qm * Kp)) + Qm * Kp) * V := Nat.mul_le_mul_right _ hn.2
  have i3 : Qm * Kp * 10 ^ 16 * V ≤ m * Qp * Km * V := Nat.mul_le_mul_right _ h1
  obtain ⟨s, hs⟩ : ∃ s, Km * U * Qm = s := ⟨_, rfl⟩
  obtain ⟨a, ha⟩ : ∃ a, Qm * Kp * V = a := ⟨_, rfl⟩
  obtain ⟨xz, hxz⟩ : ∃ x, D * Kp * V * Qm = x := ⟨_, rfl⟩
  have ps : 0 < s := by rw [← hs]; exact Nat.mul_pos (Nat.mul_pos pKm pU) pQm
  have e1 : 2 * (D * (Qm * Kp)) * V = 2 * xz := by rw [← hxz]; simp only [Nat.mul_assoc, Nat.mul_comm, Nat.mul_left_comm]
  have e2 : m * Qp * Km * V = m * s := by
    rw [← hs]
    calc m * Qp * Km * V = m * (Km * (V * Qp)) := by simp only [Nat.mul_assoc, Nat.mul_comm, Nat.mul_left_comm]
      _ = m * (Km * U * Qm) := by rw [← hUV, Nat.mul_assoc]
  have e3 : 2 * (m * Qp * Km) * V = 2 * (m * s) := by rw [Nat.mul_assoc, e2]
  have e4 : Qm * Kp * 10 ^ 16 * V = 10000000000000000 * a := by rw [← ha]; simp only [Nat.mul_assoc, Nat.mul_comm, Nat.mul_left_comm]
  rw [Nat.add_mul, e1, e3, ha] at i1
  rw [Nat.add_mul, e1, e3, ha] at i2
  rw [e4, e2] at i3
  have hms : m * s ≤ 9007199254740991 * s := Nat.mul_le_mul_right _ hm9
  have cancel : ∀ {p q : Nat}, p * Qm < q * Qm → p < q := fun h => Nat.lt_of_mul_lt_mul_right h
  refine near_by _ _ m E pKm hm hE2 ?_ ?_ ?_
  all_goals rw [hU]
  · apply cancel
    have f1 : 2 * (D * Kp * V) * Qm = 2 * xz := by rw [← hxz, Nat.mul_assoc]
    have f2 : (2 * m + 1) * (Km * U) * Qm = 2 * (m * s) + s := by rw [← hs, Nat.add_mul, Nat.add_mul, Nat.one_mul]; simp only [Nat.mul_assoc]
    rw [f1, f2]; omega
  · apply cancel
    have f1 : 2 * m * (Km * U) * Qm = 2 * (m * s) := by rw [← hs]; simp only [Nat.mul_assoc]
    have f2 : (2 * (D * Kp * V) + Km * U) * Qm = 2 * xz + s := by rw [← hxz, ← hs, Nat.add_mul, Nat.mul_assoc 2]
    rw [f1, f2]; omega
  · intro hm2
    apply cancel
    have f1 : 4 * m * (Km * U) * Qm = 4 * (m * s) := by rw [← hs]; simp only [Nat.mul_assoc]
    have f2 : (4 * (D * Kp * V) + Km * U) * Qm = 4 * xz + s := by rw [← hxz, ← hs, Nat.add_mul, Nat.mul_assoc 4]
    rw [f1, f2]
    subst hm2
    omega

/-- trailing noughts cut off -/
theorem trim_split (m : List UInt8) : ∃ j, m = Lib.trimRightB m 48 ++ List.replicate j 48 := by
  unfold Lib.trimRightB
  have h : ∀ r : List UInt8, ∃ j, r = List.replicate j 48 ++ r.dropWhile (· == 48) := by
    intro r
    induction r with
    | nil => exact ⟨0, rfl⟩
    | cons c r ih =>
      by_cases hc : c = 48
      · obtain ⟨j, hj⟩ := ih
        refine ⟨j + 1, ?_⟩
        subst hc
        rw [List.replicate_succ, List.cons_append]
        simp only [List.dropWhile_cons, beq_self_eq_true, if_true]
        rw [← hj]
      · refine ⟨0, ?_⟩
        simp [List.dropWhile_cons, hc]
  obtain ⟨j, hj⟩ := h m.reverse
  refine ⟨j, ?_⟩
  have := congrArg List.reverse hj
  rw [List.reverse_reverse, List.reverse_append, List.reverse_replicate] at this
  exact this
theorem valS_noughts (l : List UInt8) (j : Nat) : valS (l ++ List.replicate j 48) = valS l * 10 ^ j := by
  rw [valS_app, List.length_replicate]
  have : valS (List.replicate j 48) = 0 := by
    induction j with
    | zero => rfl
    | succ j ih => rw [List.replicate_succ', valS_snoc, ih]; decide
  rw [this, Nat.add_zero]
theorem parse_shown (sg : List UInt8) (neg : Bool) (hsg : sg = [] ∧ neg = false ∨ sg = [43] ∧ neg = false ∨ sg = [45] ∧ neg = true) (T : Int) (hT1 : -380 ≤ T) (hT2 : T ≤ 380) (D : Nat) (hD : D < 10 ^ 19) (N : Nat) (hN : numS D (T - 16) = N) (hl : N < LIM) (h10 : 10 ≤ D) :
    parseS (sg ++ showD T D) = ((if neg then 9223372036854775808 else 0) + N, 0) := by
  have hlen := decS_len' D 19 hD (by decide)
  have hdg := decS_digs D
  have hval := valS_decS D
  have hlen2 : 2 ≤ (decS D).length := by
    rw [decS_step D h10, List.length_append]
    have := decS_pos (D / 10)
    simp; omega
  unfold showD
  cases hq : decS D with
  | nil => exact absurd hq (decS_ne D)
  | cons c m =>
    rw [hq] at hlen hdg hval hlen2
    have hml : 1 ≤ m.length := by simp at hlen2; omega
    obtain ⟨F, hF⟩ : ∃ F, tailS m = F := ⟨_, rfl⟩
    have hdm : digs m := fun d hd => hdg d (List.mem_cons_of_mem _ hd)
    have key : digs F ∧ F ≠ [] ∧ F.length ≤ m.length ∧ valS (c :: F) * 10 ^ (m.length - F.length) = D := by
      obtain ⟨j, hj⟩ := trim_split m
      unfold tailS at hF
      split at hF
      · rename_i h
        subst hF
        rw [h, List.nil_append] at hj
        refine ⟨by intro d hd; rw [List.mem_singleton.1 hd]; decide, by simp, hml, ?_⟩
        have hjm : m.length = j := by rw [hj]; simp
        have h1 : valS (c :: m) = valS [c] * 10 ^ j := by
          rw [hj]; exact valS_noughts [c] j
        have h2 : valS [c, 48] = valS [c] * 10 := valS_noughts [c] 1
        rw [← hval, h1, h2, hjm, Nat.mul_assoc]
        congr 1
        rw [show ([48] : List UInt8).length = 1 from rfl, ← Nat.pow_succ']
        congr 1
        omega
      · rename_i h
        have hjm : m.length = (Lib.trimRightB m 48).length + j := by conv => lhs; rw [hj]
                                                                     simp
        rw [hF] at hj hjm
        refine ⟨fun d hd => hdm d (by rw [hj]; exact List.mem_append_left _ hd), by rw [← hF]; exact h, by omega, ?_⟩
        rw [show m.length - F.length = j from by omega, ← valS_noughts, ← hval, List.cons_append, ← hj]
    obtain ⟨k1, k2, k3, k4⟩ := key
    obtain ⟨E, hE⟩ : ∃ E : Int, T + (((c :: m).length : Nat) : Int) - 17 = E := ⟨_, rfl⟩
    have hcl : (c :: m).length = m.length + 1 := rfl
    have hE1 : -400 ≤ E := by omega
    have hE2 : E ≤ 400 := by omega
    rw [hE]
    have hc : digs [c] := fun d hd => hdg d (by rw [List.mem_singleton.1 hd]; exact List.mem_cons_self ..)
    have hp := parse_main sg neg hsg [c] F (46 :: F) hc k1 (.inr ⟨rfl, k2⟩) (by simp at hlen ⊢; omega) (101 :: tenS E) E (Sfx.ten E hE1 hE2)
    have hsh := numS_shift (valS (c :: F)) (m.length - F.length) (T - 16)
    rw [k4, hN, show T - 16 + ((m.length - F.length : Nat) : Int) = E - F.length from by omega] at hsh
    rw [show ([c] : List UInt8) ++ F = c :: F from rfl, ← hsh, if_pos hl] at hp
    rw [← hp]
    simp [hF]
theorem two_ten2 : 2 ^ (3 * 380) ≤ 10 ^ (380 : Nat) := by
  obtain ⟨k, hk⟩ : ∃ k : Nat, k = 380 := ⟨_, rfl⟩
  rw [← hk, Nat.pow_mul]
  exact Nat.pow_le_pow_left (by decide) k
theorem ex_lo2 (b : Nat) (hb : b < LIM) (h0 : b ≠ 0) : GE10 (exX b) (exY b) (-380) := by
  have h1 := exP_b b hb
  have h2 := exX_pos b h0
  have h3 := two_ten2
  unfold GE10
  rw [show ((-380 : Int)).toNat = 0 from rfl, Nat.pow_zero, Nat.mul_one, show (- (-380 : Int)).toNat = 380 from rfl]
  unfold exY
  rw [Nat.one_mul]
  calc 2 ^ (-exP b).toNat ≤ 2 ^ (3 * 380) := Nat.pow_le_pow_right (by decide) (by omega)
    _ ≤ 10 ^ 380 := h3
    _ ≤ exX b * 10 ^ 380 := Nat.le_mul_of_pos_left _ h2
theorem ex_hi2 (b : Nat) (hb : b < LIM) (h0 : b ≠ 0) : ¬ GE10 (exX b) (exY b) 380 := by
  have h1 := exP_b b hb
  have h2 := exM_b b h0
  have h3 := two_ten2
  have h4 := exY_pos b
  unfold GE10
  rw [show (-(380 : Int)).toNat = 0 from rfl, Nat.pow_zero, Nat.mul_one, show ((380 : Int)).toNat = 380 from rfl, Nat.not_le]
  unfold exX
  calc exM b * 2 ^ (exP b).toNat < 2 ^ 53 * 2 ^ (exP b).toNat := Nat.mul_lt_mul_of_pos_right (by omega) (Nat.pow_pos (by decide))
    _ = 2 ^ (53 + (exP b).toNat) := (Nat.pow_add ..).symm
    _ ≤ 2 ^ (3 * 380) := Nat.pow_le_pow_right (by decide) (by omega)
    _ ≤ 10 ^ 380 := h3
    _ ≤ exY b * 10 ^ 380 := Nat.le_mul_of_pos_left _ h4
theorem zero_pos : parseS [48, 46, 48, 101, 48] = (0, 0) := by decide +kernel
theorem zero_neg : parseS [45, 48, 46, 48, 101, 48] = (9223372036854775808, 0) := by decide +kernel
theorem show_back (B : Nat) (hB : B < 18446744073709551616) (l : List UInt8) (h : ShowR B l) (hfin : B % 9223372036854775808 < LIM) : parseS l = (B, 0) := by
  unfold ShowR at h
  rw [if_neg (by omega)] at h
  by_cases h0 : B % 9223372036854775808 = 0
  · rw [if_pos h0] at h
    rcases (show B = 0 ∨ B = 9223372036854775808 by omega) with rfl | rfl
    · rw [h, show sgS 0 = [] from rfl]; exact zero_pos
    · rw [h, show sgS 9223372036854775808 = [45] from rfl]; exact zero_neg
  · rw [if_neg h0] at h
    obtain ⟨T, h1, h2, h3⟩ := h
    have hlo := ex_lo2 _ hfin h0
    have hhi := ex_hi2 _ hfin h0
    have hT1 : -380 ≤ T := by
      rcases Int.lt_or_le T (-380) with h | h
      · exact absurd (ge10_mono hlo (show T + 1 ≤ -380 by omega)) h2
      · exact h
    have hT2 : T ≤ 380 := by
      rcases Int.lt_or_le 380 T with h | h
      · exact absurd (ge10_mono h1 (show 380 ≤ T by omega)) hhi
      · exact h
    have hdb := digN_b _ _ T (exY_pos _) h1 h2
    have hbk := back _ hfin T h1
    rw [h3]
    by_cases hneg : 9223372036854775808 ≤ B
    · have hs : sgS B = [45] := by unfold sgS; rw [if_pos hneg]
      rw [hs, parse_shown [45] true (.inr (.inr ⟨rfl, rfl⟩)) T hT1 hT2 _ (by omega) _ hbk hfin (by omega), if_pos rfl]
      congr 1; omega
    · have hs : sgS B = [] := by unfold sgS; rw [if_neg hneg]
      rw [hs, parse_shown [] false (.inl ⟨rfl, rfl⟩) T hT1 hT2 _ (by omega) _ hbk hfin (by omega), if_neg (by decide)]
      congr 1; omega
theorem showR_len (B : Nat) (l : List UInt8) (h : ShowR B l) (hfin : B % 9223372036854775808 < LIM) : l.length ≤ 200 := by
  unfold ShowR at h
  rw [if_neg (by omega)] at h
  have hs : (sgS B).length ≤ 1 := by unfold sgS; split <;> simp
  by_cases h0 : B % 9223372036854775808 = 0
  · rw [if_pos h0] at h
    rw [h]; simp; omega
  · rw [if_neg h0] at h
    obtain ⟨T, h1, h2, h3⟩ := h
    have hlo := ex_lo2 _ hfin h0
    have hhi := ex_hi2 _ hfin h0
    have hT1 : -380 ≤ T := by
      rcases Int.lt_or_le T (-380) with h | h
      · exact absurd (ge10_mono hlo (show T + 1 ≤ -380 by omega)) h2
      · exact h
    have hT2 : T ≤ 380 := by
      rcases Int.lt_or_le 380 T with h | h
      · exact absurd (ge10_mono h1 (show 380 ≤ T by omega)) hhi
      · exact h
    have hdb := digN_b _ _ T (exY_pos _) h1 h2
    have hlen := decS_len 18 (digN (exX (B % 9223372036854775808)) (exY (B % 9223372036854775808)) T) (by omega)
    have ht := trimB_len ((decS (digN (exX (B % 9223372036854775808)) (exY (B % 9223372036854775808)) T)).drop 1)
    have htl : (tailS ((decS (digN (exX (B % 9223372036854775808)) (exY (B % 9223372036854775808)) T)).drop 1)).length ≤ 20 := by
      unfold tailS
      split
      · simp
      · simp at ht ⊢; omega
    rw [h3]
    unfold showD
    have hten := tenS_len (T + ((decS (digN (exX (B % 9223372036854775808)) (exY (B % 9223372036854775808)) T)).length : Nat) - 17) (by omega) (by omega)
    simp only [List.length_append, List.length_cons, List.length_take]
    omega

set_option maxRecDepth 100000 in
set_option maxHeartbeats 1600000 in
theorem DecBack_walk (a : Int) (w : World) (ht : Tab w) (ha1 : 0 ≤ a) (ha2 : a ≤ 18446744073709551615) :
    Calls Tryd.prog 5 #[.int .u64 a] w fun e w' => e = .returned (.bool true) ∧ Below w.heap.size w w' := by
  obtain ⟨B, rfl⟩ := Int.eq_ofNat_of_zero_le ha1
  have hB : B < 18446744073709551616 := by omega
  have hand : bits .and .u64 ((B : Int) / 4503599627370496) 2047 = ((B / 4503599627370496 % 2048 : Nat) : Int) := by
    rw [show (B : Int) / 4503599627370496 = ((B / 4503599627370496 : Nat) : Int) from by omega, show (2047 : Int) = ((2047 : Nat) : Int) from rfl, bits_and_u64_nat _ _ (by omega) (by decide)]
    rw [show (2047 : Nat) = 2 ^ 11 - 1 from rfl, Nat.and_two_pow_sub_one_eq_mod]
  have hB2 : (B : Int) ≤ 18446744073709551615 := ha2
  by_cases hfin : B % 9223372036854775808 < LIM
  · have hne : (((B / 4503599627370496 % 2048 : Nat) : Int) == 2047) = false := by
      rw [beq_eq_false_iff_ne]; unfold LIM at hfin; omega
    obtain ⟨q, hq⟩ : ∃ q : Nat, B / 4503599627370496 % 2048 = q := ⟨_, rfl⟩
    rw [hq] at hand hne
    have HFN := Lib.hid hfin
    clear hfin hq
    go_enter Tryd.func5, Tryd.ntmps5
    go_wp2_with fail
    refine (dbegun_any _ ht).mono ?_; rintro e w0 ⟨rfl, hb⟩
    go_wp2_with fail
    refine (show_any B _ hB (ht.nx hb)).mono ?_; rintro e w1 ⟨t, l, rfl, hT, hS, hw1⟩
    have hb := Nx.trans hb hw1
    have hp := Lib.hid (show_back B hB l hS.out HFN.out)
    have hlen := showR_len B l hS.out HFN.out
    go_wp2_with fail
    refine (parse_any t l _ hT.out (by omega)).mono ?_; rintro e w2 ⟨rfl, hw2⟩
    rw [hp.out]
    have hb := Nx.trans hb hw2
    go_wp2_with fail
    go_ret
    exact ⟨rfl, hb⟩
  · have hne : (((B / 4503599627370496 % 2048 : Nat) : Int) == 2047) = true := by
      rw [beq_iff_eq]; unfold LIM at hfin; omega
    obtain ⟨q, hq⟩ : ∃ q : Nat, B / 4503599627370496 % 2048 = q := ⟨_, rfl⟩
    rw [hq] at hand hne
    have HFN := Lib.hid hfin
    clear hfin hq
    go_enter Tryd.func5, Tryd.ntmps5
    go_wp2_with fail
    refine (dbegun_any _ ht).mono ?_; rintro e w0 ⟨rfl, hb⟩
    go_wp2_with fail
    refine (show_any B _ hB (ht.nx hb)).mono ?_; rintro e w1 ⟨t, l, rfl, hT, hS, hw1⟩
    have hl : l = [] := by
      have := hS.out
      unfold ShowR at this
      rwa [if_pos (Nat.le_of_not_lt HFN.out)] at this
    subst hl
    have hz := hT.out.toL
    have hb := Nx.trans hb hw1
    go_wp2_with fail
    go_ret
    exact ⟨rfl, hb⟩
end Go.Proofs.YtddolmkmijkpiaaDoor
