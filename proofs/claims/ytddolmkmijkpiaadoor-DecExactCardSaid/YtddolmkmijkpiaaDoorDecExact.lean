/- DecExact: for every number the law returns true and leaves memory as it was. No condition. -/
import Derived.Test.YtddolmkmijkpiaaDoorDecT4
namespace Go.Proofs.YtddolmkmijkpiaaDoor
open Go.RowKit

theorem nearI_bits (x j m : Nat) (hj : j ≤ 52) (hm : m = x * 2 ^ j) (h1 : 4503599627370496 ≤ m) (h2 : m < 9007199254740992) : nearI x = (1074 - j) * 4503599627370496 + m := by
  have ht := tz_eq
  unfold nearI
  have e : x * 2 ^ tz = m * (1 * 2 ^ (tz - j)) := by
    rw [hm, Nat.one_mul, Nat.mul_assoc, ← Nat.pow_add]
    congr 2
    omega
  rw [e, near_exact m (tz - j) 1 (by decide) h2 (.inr h1), ht]
theorem near_half (x : Nat) : numS (10 * x + 5) (-1) + 4503599627370496 = nearI (2 * x + 1) := by
  have ht := tz_eq
  have h1 : numS (10 * x + 5) (-1) = near ((2 * x + 1) * 2 ^ tz) 2 := by
    unfold numS
    rw [if_neg (by decide), show (10 : Nat) ^ (- (-1 : Int)).toNat = 2 * 5 from rfl, show (10 * x + 5) * 2 ^ tz = (2 * x + 1) * 2 ^ tz * 5 from by rw [Nat.mul_right_comm]; congr 1; omega]
    exact near_mul _ _ _ (by decide)
  have h2 : nearI (2 * x + 1) = near (2 * ((2 * x + 1) * 2 ^ tz)) 2 := by
    unfold nearI
    have := near_mul ((2 * x + 1) * 2 ^ tz) 1 2 (by decide)
    rw [Nat.one_mul, Nat.mul_comm _ 2] at this
    exact this.symm
  rw [h1, h2]
  refine (near_two _ _ (by decide) ?_).symm
  have h3 : 4503599627370496 * 2 ≤ 2 ^ tz := by
    rw [show 4503599627370496 * 2 = 2 ^ 53 from rfl]
    exact Nat.pow_le_pow_right (by decide) (by omega)
  exact Nat.le_trans h3 (Nat.le_mul_of_pos_left _ (by omega))
theorem parse_half (x : Nat) (hx : x < 10 ^ 50) : parseS (decS x ++ [46, 53]) = if numS (10 * x + 5) (-1) < LIM then (numS (10 * x + 5) (-1), 0) else (0, 5) := by
  have := parse_main [] false (.inl ⟨rfl, rfl⟩) (decS x) [53] [46, 53] (decS_digs x) (by intro c hc; rw [List.mem_singleton.1 hc]; decide) (.inr ⟨rfl, by simp⟩) (by have := decS_len' x 50 hx (by decide); simp; omega) [] 0 Sfx.nil
  rw [valS_snoc, valS_decS, show digV 53 = 5 from rfl] at this
  simpa using this
theorem intS_small (n : Nat) (h : n ≤ 9223372036854775808) : intS (n : Int) = nearI n := by
  rw [intS_nat, packV, if_pos (nearI_lt n h)]

set_option maxRecDepth 100000 in
set_option maxHeartbeats 3200000 in
theorem DecExact_walk (a : Int) (half : Bool) (w : World) (ht : Tab w) (ha1 : 0 ≤ a) (ha2 : a ≤ 18446744073709551615) :
    Calls Tryd.prog 8 #[.int .u64 a, .bool half] w fun e w' => e = .returned (.bool true) ∧ Below w.heap.size w w' := by
  obtain ⟨x, hx, hx2⟩ : ∃ x : Nat, a % 9007199254740992 = (x : Int) ∧ (x : Int) < 9007199254740992 := ⟨(a % 9007199254740992).toNat, by omega, by omega⟩
  have hxs : x < 9007199254740992 := by omega
  obtain ⟨B, HB⟩ : ∃ B, Hid (nearI x = B) := ⟨_, rfl⟩
  have hBl : B < LIM := by rw [← HB.out]; exact nearI_lt x (by omega)
  have hp1 : Hid (parseS (decS x) = (B, 0)) := by
    unfold Hid
    rw [parse_int x (by omega), numS_zero, HB.out, if_pos hBl]
  have hi1 : Hid (intS (x : Int) = B) := by unfold Hid; rw [intS_small x (by omega), HB.out]
  obtain ⟨V, HV⟩ : ∃ V, Hid (numS (10 * x + 5) (-1) = V) := ⟨_, rfl⟩
  have hVU := near_half x
  rw [HV.out] at hVU
  have hUl := nearI_lt (2 * x + 1) (by omega)
  rw [← hVU] at hUl
  obtain ⟨y, hy, hy2⟩ : ∃ y : Nat, 2 * (x : Int) + 1 = (y : Int) ∧ Hid (y = 2 * x + 1) := ⟨2 * x + 1, by omega, rfl⟩
  have hi2 : Hid (intS (y : Int) = V + 4503599627370496) := by unfold Hid; rw [hy2.out, intS_small _ (by omega), hVU]
  have hp2 : Hid (parseS (decS x ++ [46, 53]) = (V, 0)) := by
    unfold Hid
    rw [parse_half x (by omega), HV.out, if_pos (by omega)]
  have hVl : (V : Int) ≤ 9218868437227405312 := by unfold LIM at hUl; omega
  have hyl : (y : Int) ≤ 18014398509481984 := by omega
  have hxl := decS_len 19 x (by omega)
  have HXS := Lib.hid hxs
  have hxi : (x : Int) ≤ 9223372036854775807 := by omega
  clear hVU hUl hBl hxs hx2
  go_enter Tryd.func8, Tryd.ntmps8
  by_cases h0 : x = 0
  · subst h0
    have hB0 : B = 0 := by rw [← HB.out]; unfold nearI; rw [Nat.zero_mul]; exact near_zero 1 (by decide)
    subst hB0
    go_wp2_with fail
    refine (dbegun_any _ ht).mono ?_; rintro e w0 ⟨rfl, hb⟩
    go_wp2_with fail
    refine (tenText_n 0 _ (by decide)).mono ?_; rintro e w2 ⟨tx, rfl, htx, htxs, hw2⟩
    have hb := Nx.trans hb hw2
    go_wp2_with fail
    refine (parse_any _ (decS 0) _ htx.out (by decide)).mono ?_; rintro e w3 ⟨rfl, hw3⟩
    rw [hp1.out]
    have hb := Nx.trans hb hw3
    go_wp2_with fail
    refine (int_any 0 _ (by decide) (by decide)).mono ?_; rintro e w4 ⟨rfl, hw4⟩
    have hi := hi1.out
    rw [show ((0 : Nat) : Int) = 0 from rfl] at hi
    rw [hi]
    have hb := Nx.trans hb hw4
    cases half
    all_goals
      go_wp2_with fail
      go_ret
      exact ⟨rfl, hb⟩
  · have hg : decide (0 < (x : Int)) = true := decide_eq_true (by omega)
    go_wp2_with fail
    refine (dbegun_any _ ht).mono ?_; rintro e w0 ⟨rfl, hb⟩
    go_wp2_with fail
    try rw [hx]
    go_loopw [7, 8] (fun e m wr => ∃ (j M : Nat), e = .int .i64 (52 - (j : Int)) ∧ m = .int .u64 M ∧ j ≤ 52 ∧ Hid (M = x * 2 ^ j ∧ M < 9007199254740992) ∧ Nx w wr) (fun e _ _ => (intOf e + 1).toNat)
    case atStart => exact ⟨0, x, rfl, rfl, by decide, ⟨by rw [Nat.pow_zero, Nat.mul_one], HXS.out⟩, hb⟩
    case round =>
      obtain ⟨j, M, rfl, rfl, hj, HM, hb⟩ := hrel
      by_cases hlt : M < 4503599627370496
      · have g1 : decide ((M : Int) < 4503599627370496) = true := decide_eq_true (by omega)
        have hj1 : j < 52 := by
          rcases Nat.lt_or_ge j 52 with h | h
          · exact h
          · exfalso
            have h1 := HM.out.1
            have h2 : 2 ^ 52 ≤ 2 ^ j := Nat.pow_le_pow_right (by decide) h
            have h3 : 2 ^ j ≤ x * 2 ^ j := Nat.le_mul_of_pos_left _ (Nat.pos_of_ne_zero h0)
            omega
        have HM2 : Hid (M * 2 = x * 2 ^ (j + 1) ∧ M * 2 < 9007199254740992) := ⟨by rw [Nat.pow_succ, ← Nat.mul_assoc, ← HM.out.1], by omega⟩
        obtain ⟨M2, hM2, hM3⟩ : ∃ M2 : Nat, (M : Int) * 2 = (M2 : Int) ∧ Hid (M2 = M * 2) := ⟨M * 2, by omega, rfl⟩
        have hMl : (M : Int) ≤ 4503599627370496 := by omega
        clear hlt
        go_wp2_with fail
        go_roundw
        case rel => exact ⟨j + 1, M2, by go_num, rfl, hj1, by rw [hM3.out]; exact HM2, hb⟩
        case measure => simp [intOf]; omega
      · have g1 : decide ((M : Int) < 4503599627370496) = false := decide_eq_false (by omega)
        have hbits := nearI_bits x j M hj HM.out.1 (by omega) HM.out.2
        rw [HB.out] at hbits
        obtain ⟨Q, hQ, hQ2⟩ : ∃ Q : Nat, (M : Int) - 4503599627370496 = (Q : Int) ∧ Q < 4503599627370496 := ⟨M - 4503599627370496, by omega, by have := HM.out.2; omega⟩
        obtain ⟨E, hE, hE2⟩ : ∃ E : Nat, 52 - (j : Int) + 1023 = (E : Int) ∧ E < 2048 := ⟨52 - j + 1023, by omega, by omega⟩
        have hor := or52 Q E hQ2 hE2
        have hBe : E * 4503599627370496 + Q = B := by rw [hbits]; omega
        rw [hBe] at hor
        obtain ⟨F, hF⟩ : ∃ F : Nat, (E : Int) * 4503599627370496 = (F : Int) ∧ Hid (F = E * 4503599627370496) := ⟨E * 4503599627370496, by omega, rfl⟩
        have hF1 := hF.1
        rw [← hF.2.out] at hor
        have hFl : (F : Int) ≤ 9223372036854775808 := by omega
        have hQl : (Q : Int) ≤ 4503599627370496 := by omega
        have hMl : (M : Int) ≤ 9007199254740992 := by have := HM.out.2; omega
        clear hlt hbits hBe hF
        go_wp2_with fail
        refine (tenText_n x _ hxi).mono ?_; rintro e w2 ⟨tx, rfl, htx, htxs, hw2⟩
        have hb := Nx.trans hb hw2
        go_wp2_with fail
        refine (parse_any _ (decS x) _ htx.out (by omega)).mono ?_; rintro e w3 ⟨rfl, hw3⟩
        rw [hp1.out]
        have hb := Nx.trans hb hw3
        go_wp2_with fail
        refine (int_any (x : Int) _ (by omega) hxi).mono ?_; rintro e w4 ⟨rfl, hw4⟩
        rw [hi1.out]
        have hb := Nx.trans hb hw4
        cases half
        · go_wp2_with fail
          go_ret
          exact ⟨rfl, hb⟩
        · have b0 : ((x : Int) == 0) = false := by rw [beq_eq_false_iff_ne]; omega
          by_cases h52 : 4503599627370496 ≤ x
          · have b1 : decide ((4503599627370496 : Int) ≤ (x : Int)) = true := decide_eq_true (by omega)
            clear h52
            go_wp2_with fail
            go_ret
            exact ⟨rfl, hb⟩
          · have b1 : decide ((4503599627370496 : Int) ≤ (x : Int)) = false := decide_eq_false (by omega)
            have hV2 : (V : Int) + 4503599627370496 ≤ 18446744073709551615 := by omega
            have e5 : ((V + 4503599627370496 : Nat) : Int) = (V : Int) + 4503599627370496 := by omega
            have hx3 : 2 * (x : Int) ≤ 9223372036854775806 := by omega
            clear h52
            go_wp2_with fail
            refine (tenText_n x _ hxi).mono ?_; rintro e w5 ⟨tx, rfl, htx, htxs, hw5⟩
            have hb := Nx.trans hb hw5
            have hs2 : ¬ 9223372036854775807 < tx.size + 2 := by omega
            go_wp2_with fail
            refine (parse_any _ (decS x ++ [46, 53]) _ (Tx.plus htx.out (Tx.of [46, 53])) (by simp; omega)).mono ?_; rintro e w6 ⟨rfl, hw6⟩
            rw [hp2.out]
            have hb := Nx.trans hb hw6
            go_wp2_with fail
            refine (int_any (y : Int) _ (by omega) (by omega)).mono ?_; rintro e w7 ⟨rfl, hw7⟩
            rw [hi2.out, e5]
            have hb := Nx.trans hb hw7
            go_wp2_with fail
            go_ret
            exact ⟨rfl, hb⟩
end Go.Proofs.YtddolmkmijkpiaaDoor
