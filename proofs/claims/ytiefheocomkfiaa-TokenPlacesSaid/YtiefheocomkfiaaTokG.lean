/- The contracts of token's numbers and first words. -/
import Derived.Test.YtiefheocomkfiaaTokF
import Derived.Test.YtiefheocomkfiaaDecS
set_option linter.unusedVariables false
set_option linter.unusedSimpArgs false
namespace Go.Proofs.Ytiefheocomkfiaa
open Go.RowKit

theorem hexN_le (l : List UInt8) : hexN l ≤ l.length ∧ (hexN l ≠ 0 → 3 ≤ hexN l) ∧ (∀ c ∈ (l.take (hexN l)).drop 2, isHexS c = true) := by
  cases l with
  | nil => exact ⟨Nat.le_refl _, fun h => absurd rfl h, fun c h => by simp [hexN] at h⟩
  | cons c r => cases r with
    | nil => exact ⟨Nat.zero_le _, fun h => absurd rfl h, fun c h => by simp [hexN] at h⟩
    | cons d r =>
      unfold hexN
      dsimp only
      split
      · rename_i h
        have := spanN_le isHexS r
        refine ⟨by simp; omega, fun _ => by omega, fun e he => ?_⟩
        rw [Nat.add_comm, List.take_succ_cons, List.take_succ_cons] at he
        exact spanN_take isHexS r e he
      · exact ⟨Nat.zero_le _, fun h => absurd rfl h, fun c h => by simp at h⟩
theorem decN_le (l : List UInt8) : decN l ≤ l.length := by
  unfold decN
  dsimp only
  have h1 := (sgnN_le l).1
  have h2 := digN_le (l.drop (sgnN l))
  have h3 := fracN_le (l.drop (sgnN l + digN (l.drop (sgnN l))))
  split
  · omega
  · have h4 := expN_le (l.drop (sgnN l + (digN (l.drop (sgnN l)) + fracN (l.drop (sgnN l + digN (l.drop (sgnN l)))))))
    simp at h2 h3 h4
    omega
theorem take_digits (l : List UInt8) (h : wholeB l = true) : ∀ c ∈ l.drop (sgnN l), isDig c = true := by
  have h1 := of_decide_eq_true h
  have h2 := spanN_take isDig (l.drop (sgnN l))
  have h3 : spanN isDig (l.drop (sgnN l)) = (l.drop (sgnN l)).length := by
    have : digN (l.drop (sgnN l)) = (l.drop (sgnN l)).length := by simp; omega
    exact this
  rw [h3, List.take_length] at h2
  exact h2

set_option maxRecDepth 100000 in
set_option maxHeartbeats 3200000 in
theorem number_any (s : ByteArray) (l : List UInt8) (w : World) (hl : Tx s l) (hs : (l.length : Int) ≤ 8000) :
    Calls Try.prog 17 #[.string s] w fun e w' => TokR e (numberS l) ∧ Nx w w' := by
  have HL := Lib.hid hl
  have hz : (s.size : Int) = (l.length : Int) := by rw [hl.size]
  obtain ⟨N, hN⟩ : ∃ N, hexN l = N := ⟨_, rfl⟩
  obtain ⟨hN1, hN2, hN3⟩ := hexN_le l
  rw [hN] at hN1 hN2 hN3
  obtain ⟨K, hK⟩ : ∃ K, decN l = K := ⟨_, rfl⟩
  have hK1 := decN_le l
  rw [hK] at hK1
  have HX : Hid (numberS l = if N ≠ 0 then ((hexS ((l.take N).drop 2)).2, ⟨2, [], (hexS ((l.take N).drop 2)).1, 0, 0⟩, N)
      else if K = 0 then (2, tok0, 0) else if wholeB (l.take K) then ((wholeS (l.take K)).2, ⟨2, [], (wholeS (l.take K)).1, 0, 0⟩, K)
      else ((parseS (l.take K)).2, ⟨3, [], 0, (parseS (l.take K)).1, 0⟩, K)) := by
    unfold Hid numberS; rw [hN, hK]
  have HN := Lib.hid hN
  have HN3 := Lib.hid hN3
  have HK := Lib.hid hK
  have hNI : (N : Int) ≤ (l.length : Int) := by omega
  have hKI : (K : Int) ≤ (l.length : Int) := by omega
  clear hl hN hK hN1 hK1 hN3
  obtain ⟨g, hg⟩ : ∃ g, w.heap.size = g := ⟨_, rfl⟩
  have hB0 := Blk.new w #[.int .i64 0, .string ⟨#[]⟩, .int .i64 0, .int .u64 0, .int .i64 0] 29
  rw [hg] at hB0
  have hN0 : Nx w (w.alloc (Obj.cells #[.int .i64 0, .string ⟨#[]⟩, .int .i64 0, .int .u64 0, .int .i64 0] 29)) := nx0 _ _
  go_enter Try.func17, Try.ntmps17
  go_wp2_with fail
  generalize hW1 : World.alloc _ _ = w1 at *
  refine (hexLength_any s l w1 HL.out (by omega)).mono ?_; rintro e w' ⟨rfl, rfl⟩
  rw [HN.out]
  obtain ⟨c0, c1, c2, c3, c4, f0, f1, f2, f3, f4⟩ := cells5 hB0
  by_cases h0 : N = 0
  · subst h0
    have HX2 : Hid (numberS l = if K = 0 then (2, tok0, 0) else if wholeB (l.take K) then ((wholeS (l.take K)).2, ⟨2, [], (wholeS (l.take K)).1, 0, 0⟩, K)
      else ((parseS (l.take K)).2, ⟨3, [], 0, (parseS (l.take K)).1, 0⟩, K)) := by unfold Hid; rw [HX.out, if_neg (by simp)]
    go_wp2_with fail
    refine (decimalLength_any s l _ HL.out (by omega)).mono ?_; rintro e w' ⟨rfl, rfl⟩
    rw [HK.out]
    by_cases hk : K = 0
    · have HX3 : Hid (numberS l = (2, tok0, 0)) := by unfold Hid; rw [HX2.out, if_pos hk]
      have b1 : ((K : Int) == 0) = true := by rw [beq_iff_eq]; omega
      clear hk
      go_wp2_with fail
      refine bodyPost_ret (results_cell_tmp2_row rfl _ _ g _ _ _ _ rfl hB0.put5.2 Try.underlying29 rfl (by kernel_rfl)) rfl ?_
      refine ⟨⟨_, _, _, _, _, _, by rw [HX3.out]; rfl, fun h => ?_⟩, hN0.put5 (by omega)⟩
      rw [HX3.out] at h; cases h
    · have HX3 : Hid (numberS l = if wholeB (l.take K) then ((wholeS (l.take K)).2, ⟨2, [], (wholeS (l.take K)).1, 0, 0⟩, K)
        else ((parseS (l.take K)).2, ⟨3, [], 0, (parseS (l.take K)).1, 0⟩, K)) := by unfold Hid; rw [HX2.out, if_neg hk]
      have b1 : ((K : Int) == 0) = false := by rw [beq_eq_false_iff_ne]; omega
      obtain ⟨u, hu, HU⟩ := HL.out.upto K
      have hne : l.take K ≠ [] := by
        intro h
        have : (l.take K).length = 0 := by rw [h]; rfl
        rw [List.length_take] at this
        omega
      have HNE := Lib.hid hne
      clear hk hne
      go_wp2_with fail
      refine (isWhole_any u (l.take K) _ HU.out (by simp; omega)).mono ?_; rintro e w' ⟨rfl, rfl⟩
      obtain ⟨b, hb⟩ : ∃ b, Hid (wholeB (l.take K) = b) := ⟨_, rfl⟩
      rw [hb.out] at HX3 ⊢
      cases b
      · have HX4 : Hid (numberS l = ((parseS (l.take K)).2, ⟨3, [], 0, (parseS (l.take K)).1, 0⟩, K)) := HX3
        clear c0 c1 c2 c3 c4 f0 f1 f2 f3 f4
        go_wp2_with fail
        refine (parse_any u (l.take K) _ HU.out (by simp; omega)).mono ?_; rintro e w2 ⟨rfl, hw2⟩
        have hB2 := hB0.below hw2
        have hN2 := Nx.trans hN0 hw2
        obtain ⟨c0, c1, c2, c3, c4, f0, f1, f2, f3, f4⟩ := cells5 hB2
        generalize parseS (l.take K) = P at *
        obtain ⟨p1, p2⟩ := P
        go_wp2_with fail
        refine bodyPost_ret (results_cell_tmp2_row rfl _ _ g _ _ _ _ rfl hB2.put5.2 Try.underlying29 rfl (by kernel_rfl)) rfl ?_
        refine ⟨⟨_, _, _, _, _, _, by rw [HX4.out]; rfl, fun _ => ?_⟩, hN2.put5 (by omega)⟩
        rw [HX4.out]
        exact ⟨rfl, rfl⟩
      · have HX4 : Hid (numberS l = ((wholeS (l.take K)).2, ⟨2, [], (wholeS (l.take K)).1, 0, 0⟩, K)) := HX3
        go_wp2_with fail
        refine (wholeValue_any u (l.take K) _ HU.out HNE.out (take_digits _ hb.out) (by simp; omega)).mono ?_; rintro e w2 ⟨rfl, rfl⟩
        generalize wholeS (l.take K) = P at *
        obtain ⟨p1, p2⟩ := P
        go_wp2_with fail
        refine bodyPost_ret (results_cell_tmp2_row rfl _ _ g _ _ _ _ rfl hB0.put5.2 Try.underlying29 rfl (by kernel_rfl)) rfl ?_
        refine ⟨⟨_, _, _, _, _, _, by rw [HX4.out]; rfl, fun _ => ?_⟩, hN0.put5 (by omega)⟩
        rw [HX4.out]
        exact ⟨rfl, rfl⟩
  · have HX2 : Hid (numberS l = ((hexS ((l.take N).drop 2)).2, ⟨2, [], (hexS ((l.take N).drop 2)).1, 0, 0⟩, N)) := by unfold Hid; rw [HX.out, if_pos h0]
    have g1 : decide ((0 : Int) < (N : Int)) = true := decide_eq_true (by omega)
    have g2 : (3 : Int) ≤ (N : Int) := by have := hN2 h0; omega
    obtain ⟨u, hu, HU⟩ := HL.out.mid 2 N
    have hul : (((l.take N).drop 2).length : Int) ≤ 8000 := by simp; omega
    clear h0 hN2
    go_wp2_with fail
    refine (hexValue_any u _ _ HU.out HN3.out (by omega)).mono ?_; rintro e w2 ⟨rfl, rfl⟩
    generalize hexS ((l.take N).drop 2) = P at *
    obtain ⟨p1, p2⟩ := P
    go_wp2_with fail
    refine bodyPost_ret (results_cell_tmp2_row rfl _ _ g _ _ _ _ rfl hB0.put5.2 Try.underlying29 rfl (by kernel_rfl)) rfl ?_
    refine ⟨⟨_, _, _, _, _, _, by rw [HX2.out]; rfl, fun _ => ?_⟩, hN0.put5 (by omega)⟩
    rw [HX2.out]
    exact ⟨rfl, rfl⟩
end Go.Proofs.Ytiefheocomkfiaa
