/- The contracts of token's digits as numbers. -/
import Derived.Test.YtiefheocomkfiaaTokD
import Derived.IntWalk
set_option linter.unusedVariables false
set_option linter.unusedSimpArgs false
namespace Go.Proofs.Ytiefheocomkfiaa
open Go.RowKit

theorem natB_snoc (b : Nat) (l : List UInt8) (c : UInt8) : natB b (l ++ [c]) = b * natB b l + hexV c := by
  unfold natB; rw [List.foldl_append]; rfl
theorem natB_take (b : Nat) (l : List UInt8) (n : Nat) (h : n < l.length) : natB b (l.take (n + 1)) = b * natB b (l.take n) + hexV l[n] := by
  rw [List.take_append_getElem h |>.symm, natB_snoc]
theorem natB_mono (b : Nat) (hb : 1 ≤ b) (l m : List UInt8) : natB b l ≤ natB b (l ++ m) := by
  induction m generalizing l with
  | nil => simp
  | cons c m ih =>
    have h1 := ih (l ++ [c])
    rw [natB_snoc, List.append_assoc] at h1
    have : natB b l ≤ b * natB b l := Nat.le_mul_of_pos_left _ hb
    simp at h1 ⊢
    omega

set_option maxRecDepth 100000 in
set_option maxHeartbeats 1600000 in
theorem natural_any' (b L : Nat) (s : ByteArray) (l : List UInt8) (w : World) (hl : Tx s l) (hd : ∀ c ∈ l, isHexS c = true) (hs : (l.length : Int) ≤ 100000) (hb1 : (10 : Int) ≤ b) (hb2 : (b : Int) ≤ 16)
    (hL1 : (4611686018427387904 : Int) ≤ L) (hL2 : (L : Int) ≤ 9223372036854775808) :
    Calls Try.prog 41 #[.string s, .int .u64 (b : Int), .int .u64 (L : Int)] w fun e w' => e = .returned (.tuple #[.int .u64 (if L < natB b l then 0 else natB b l : Nat), .bool (!decide (L < natB b l))]) ∧ w' = w := by
  have HL := Lib.hid hl
  have HD := Lib.hid hd
  have hz : (s.size : Int) = (l.length : Int) := by rw [hl.size]
  have hb0 : ((b : Int) == 0) = false := by rw [beq_eq_false_iff_ne]; omega
  obtain ⟨T, hT⟩ : ∃ T, Hid (natB b l = T) := ⟨_, rfl⟩
  have HM : Hid (∀ n, natB b (l.take n) ≤ T) := by
    intro n
    rw [← hT.out]
    have := natB_mono b (by omega) (l.take n) (l.drop n)
    rwa [List.take_append_drop] at this
  rw [hT.out]
  obtain ⟨RA, hRA⟩ : ∃ RA : Nat, Hid ((if L < T then 0 else T) = RA) := ⟨_, rfl⟩
  obtain ⟨RB, hRB⟩ : ∃ RB : Bool, Hid ((!decide (L < T)) = RB) := ⟨_, rfl⟩
  rw [hRA.out, hRB.out]
  clear hl hd
  go_enter Try.func41, Try.ntmps41
  go_wp2_with fail
  go_loopw [6, 12] (fun v i wr => ∃ (n V : Nat), v = .int .u64 (V : Int) ∧ i = .int .i64 n ∧ n ≤ l.length ∧ Hid (natB b (l.take n) = V) ∧ (V : Int) ≤ L ∧ wr = w) (fun _ i _ => (100000 - intOf i).toNat)
  case atStart => exact ⟨0, 0, rfl, rfl, Nat.zero_le _, by unfold Hid; simp [natB], by omega, rfl⟩
  case round =>
    obtain ⟨n, V, rfl, rfl, hn, HV, hVL, rfl⟩ := hrel
    by_cases hlt : n < l.length
    · obtain ⟨hp, e0⟩ := HL.out.idx n hlt
      obtain ⟨c, hc⟩ : ∃ c, l[n] = c := ⟨_, rfl⟩
      rw [hc] at e0
      have HX : Hid (isHexS c = true) := by unfold Hid; rw [← hc]; exact HD.out _ (List.getElem_mem hlt)
      obtain ⟨D, hD⟩ : ∃ D, Hid (hexV c = D) := ⟨_, rfl⟩
      have hD15 : (D : Int) ≤ 15 := by have := hexV_lt c HX.out; rw [hD.out] at this; omega
      obtain ⟨R, hR⟩ : ∃ R : Nat, (L : Int) - (D : Int) = (R : Int) := ⟨L - D, by omega⟩
      have hR2 : (R : Int) ≤ 9223372036854775808 := by omega
      obtain ⟨Q, hQ⟩ : ∃ Q : Nat, R / b = Q := ⟨_, rfl⟩
      have hQ2 : (Q : Int) ≤ 9223372036854775808 := by have := Nat.div_le_self R b; omega
      have fQ : (R : Int) / (b : Int) = (Q : Int) := by rw [← hQ]; rfl
      have hVQ : V ≤ Q ↔ b * V + D ≤ L := by
        rw [← hQ, Nat.le_div_iff_mul_le (by omega), Nat.mul_comm]
        omega
      obtain ⟨P, hP⟩ : ∃ P : Nat, b * V = P := ⟨_, rfl⟩
      rw [hP] at hVQ
      have fP : (b : Int) * (V : Int) = (P : Int) := by rw [← hP]; push_cast; rfl
      have hNX : natB b (l.take (n + 1)) = P + D := by rw [natB_take b l n hlt, HV.out, hc, hD.out, hP]
      have hT1 : P + D ≤ T := by rw [← hNX]; exact HM.out _
      have g1 : decide ((n : Int) < (l.length : Int)) = true := decide_eq_true (by omega)
      have HNX := Lib.hid hNX
      have HVQ := Lib.hid hVQ
      have HT1 := Lib.hid hT1
      clear hc hQ hP hNX hVQ hT1
      by_cases hle : V ≤ Q
      · have g2 : decide ((Q : Int) < (V : Int)) = false := decide_eq_false (by omega)
        have g3 : ¬ Q < V := by omega
        have hPD : (P : Int) + (D : Int) ≤ (L : Int) := by have := HVQ.out.1 hle; omega
        clear hle
        go_wp2_with fail
        refine (digitValue_any c _ HX.out).mono ?_; rintro e w' ⟨rfl, rfl⟩
        rw [hD.out]
        go_wp2_with fail
        go_roundw
        case rel => exact ⟨n + 1, P + D, by go_num, by go_num, hlt, HNX, by omega, by first | rfl | trivial⟩
        case measure => simp [intOf]; omega
      · have g2 : decide ((Q : Int) < (V : Int)) = true := decide_eq_true (by omega)
        have g3 : Q < V := by omega
        have HR : Hid (L < T) := by unfold Hid; have := HVQ.out; have := HT1.out; omega
        clear hle
        go_wp2_with fail
        refine (digitValue_any c _ HX.out).mono ?_; rintro e w' ⟨rfl, rfl⟩
        rw [hD.out]
        go_wp2_with fail
        go_ret2
        rw [← hRA.out, ← hRB.out, if_pos HR.out, decide_eq_true HR.out]
        exact ⟨rfl, rfl⟩
    · have g1 : decide ((n : Int) < (l.length : Int)) = false := decide_eq_false (by omega)
      have HR : Hid (T = V ∧ ¬ L < T) := by
        have h : T = V := by rw [← HV.out, List.take_of_length_le (by omega)]; exact hT.out.symm
        exact ⟨h, by omega⟩
      go_wp2_with fail
      go_ret2
      rw [← hRA.out, ← hRB.out, if_neg HR.out.2, decide_eq_false HR.out.2, HR.out.1]
      exact ⟨rfl, rfl⟩

set_option maxRecDepth 100000 in
set_option maxHeartbeats 1600000 in
theorem hexValue_any (s : ByteArray) (l : List UInt8) (w : World) (hl : Tx s l) (hd : ∀ c ∈ l, isHexS c = true) (hs : (l.length : Int) ≤ 100000) :
    Calls Try.prog 30 #[.string s] w fun e w' => e = .returned (.tuple #[.int .i64 (hexS l).1, .int .i64 ((hexS l).2 : Nat)]) ∧ w' = w := by
  have HL := Lib.hid hl
  have HD := Lib.hid hd
  have hz : (s.size : Int) = (l.length : Int) := by rw [hl.size]
  obtain ⟨T, hT⟩ : ∃ T, Hid (natB 16 l = T) := ⟨_, rfl⟩
  have HX : Hid (hexS l = if 16 < l.length then (0, 4) else if 9223372036854775807 < T then (0, 5) else ((T : Int), 0)) := by unfold Hid; rw [← hT.out]; rfl
  clear hl hd
  by_cases h16 : 16 < l.length
  · have g1 : decide ((16 : Int) < (l.length : Int)) = true := decide_eq_true (by omega)
    have HX2 : Hid (hexS l = (0, 4)) := by unfold Hid; rw [HX.out, if_pos h16]
    clear h16
    go_enter Try.func30, Try.ntmps30
    go_wp2_with fail
    go_ret2
    rw [HX2.out]
    exact ⟨rfl, rfl⟩
  · have g1 : decide ((16 : Int) < (l.length : Int)) = false := decide_eq_false (by omega)
    have HX2 : Hid (hexS l = if 9223372036854775807 < T then (0, 5) else ((T : Int), 0)) := by unfold Hid; rw [HX.out, if_neg h16]
    clear h16
    go_enter Try.func30, Try.ntmps30
    go_wp2_with fail
    refine (natural_any' 16 9223372036854775807 s l _ HL.out HD.out hs (by decide) (by decide) (by decide) (by decide)).mono ?_; rintro e w' ⟨rfl, rfl⟩
    rw [hT.out]
    by_cases h : 9223372036854775807 < T
    · have HX3 : Hid (hexS l = (0, 5)) := by unfold Hid; rw [HX2.out, if_pos h]
      rw [if_pos h, decide_eq_true h]
      clear h
      go_wp2_with fail
      go_ret2
      rw [HX3.out]
      exact ⟨rfl, rfl⟩
    · have HX3 : Hid (hexS l = ((T : Int), 0)) := by unfold Hid; rw [HX2.out, if_neg h]
      have hT2 : (T : Int) ≤ 9223372036854775807 := by omega
      rw [if_neg h, decide_eq_false h]
      clear h
      go_wp2_with fail
      go_ret2
      rw [HX3.out]
      exact ⟨rfl, rfl⟩

theorem dig_hex (c : UInt8) (h : isDig c = true) : isHexS c = true := by unfold isHexS; rw [h]; rfl

set_option maxRecDepth 100000 in
set_option maxHeartbeats 1600000 in
theorem wholeValue_any (s : ByteArray) (l : List UInt8) (w : World) (hl : Tx s l) (h0 : l ≠ []) (hd : ∀ c ∈ l.drop (sgnN l), isDig c = true) (hs : (l.length : Int) ≤ 100000) :
    Calls Try.prog 33 #[.string s] w fun e w' => e = .returned (.tuple #[.int .i64 (wholeS l).1, .int .i64 ((wholeS l).2 : Nat)]) ∧ w' = w := by
  obtain ⟨c, r, rfl⟩ : ∃ c r, l = c :: r := by cases l with
    | nil => exact absurd rfl h0
    | cons c r => exact ⟨c, r, rfl⟩
  obtain ⟨hp, t0, e0, e1, ht, e2, e3⟩ := hl.cons
  have HL := Lib.hid hl
  obtain ⟨M, hM⟩ : ∃ M, sgnN (c :: r) = M := ⟨_, rfl⟩
  obtain ⟨hM1, hM2⟩ := sgnN_le (c :: r)
  obtain ⟨ds, hds⟩ : ∃ ds, (c :: r).drop M = ds := ⟨_, rfl⟩
  obtain ⟨u, hu, HU⟩ := HL.out.from_ M
  have hz : (M : Int) ≤ (s.size : Int) := by rw [hl.size]; omega
  rw [hM] at hd hM1 hM2
  rw [hds] at hd HU
  have hdl : ds.length ≤ (c :: r).length := by rw [← hds]; simp
  have hdl2 : (ds.length : Int) ≤ 100000 := by omega
  have HD := Lib.hid hd
  have husz : u.size = ds.length := HU.out.size
  obtain ⟨T, hT⟩ : ∃ T, Hid (natB 10 ds = T) := ⟨_, rfl⟩
  obtain ⟨neg, hneg⟩ : ∃ neg, decide (c.toNat = 45) = neg := ⟨_, rfl⟩
  have HX : Hid (wholeS (c :: r) = if 60 < ds.length then (0, 4) else if (if neg then 9223372036854775808 else 9223372036854775807) < T then (0, 5) else ((if neg then -(T : Int) else (T : Int)), 0)) := by
    have hn : negB (c :: r) = neg := hneg
    unfold Hid wholeS; dsimp only; rw [hM, hds, hT.out, hn]
  have HM := Lib.hid hM
  have b45 : ((c.toNat : Int) == 45) = neg := by
    rw [← hneg, Bool.eq_iff_iff]; simp; omega
  clear hl hd ht hM hds hs hM1 hM2 hdl hneg e1 h0
  go_enter Try.func33, Try.ntmps33
  go_wp2_with fail
  refine (signLength_any s (c :: r) w HL.out).mono ?_; rintro e w' ⟨rfl, rfl⟩
  rw [HM.out]
  by_cases h60 : 60 < ds.length
  · have g1 : decide ((60 : Int) < (ds.length : Int)) = true := decide_eq_true (by omega)
    have HX2 : Hid (wholeS (c :: r) = (0, 4)) := by unfold Hid; rw [HX.out, if_pos h60]
    clear HX h60
    go_wp2_with fail
    go_ret2
    rw [HX2.out]
    exact ⟨rfl, rfl⟩
  · have g1 : decide ((60 : Int) < (ds.length : Int)) = false := decide_eq_false (by omega)
    have HX2 : Hid (wholeS (c :: r) = if (if neg then 9223372036854775808 else 9223372036854775807) < T then (0, 5) else ((if neg then -(T : Int) else (T : Int)), 0)) := by unfold Hid; rw [HX.out, if_neg h60]
    clear HX h60
    cases neg
    · go_wp2_with fail
      refine (natural_any' 10 9223372036854775807 u ds _ HU.out (fun c hc => dig_hex c (HD.out c hc)) hdl2 (by decide) (by decide) (by decide) (by decide)).mono ?_; rintro e w' ⟨rfl, rfl⟩
      rw [hT.out]
      by_cases h : 9223372036854775807 < T
      · have HX3 : Hid (wholeS (c :: r) = (0, 5)) := by unfold Hid; rw [HX2.out]; simp [h]
        rw [if_pos h, decide_eq_true h]
        clear h
        go_wp2_with fail
        go_ret2
        rw [HX3.out]
        exact ⟨rfl, rfl⟩
      · have HX3 : Hid (wholeS (c :: r) = ((T : Int), 0)) := by unfold Hid; rw [HX2.out]; simp [h]
        have hT2 : (T : Int) ≤ 9223372036854775807 := by omega
        rw [if_neg h, decide_eq_false h]
        clear h
        go_wp2_with fail
        go_ret2
        rw [HX3.out]
        exact ⟨rfl, rfl⟩
    · go_wp2_with fail
      refine (natural_any' 10 9223372036854775808 u ds _ HU.out (fun c hc => dig_hex c (HD.out c hc)) hdl2 (by decide) (by decide) (by decide) (by decide)).mono ?_; rintro e w' ⟨rfl, rfl⟩
      rw [hT.out]
      by_cases h : 9223372036854775808 < T
      · have HX3 : Hid (wholeS (c :: r) = (0, 5)) := by unfold Hid; rw [HX2.out]; simp [h]
        rw [if_pos h, decide_eq_true h]
        clear h
        go_wp2_with fail
        go_ret2
        rw [HX3.out]
        exact ⟨rfl, rfl⟩
      · have HX3 : Hid (wholeS (c :: r) = (-(T : Int), 0)) := by unfold Hid; rw [HX2.out]; simp [h]
        have hT2 : (T : Int) ≤ 9223372036854775808 := by omega
        obtain ⟨Z, hZ, hZ2⟩ : ∃ Z, IntKind.u64.wrap (-(T : Int)) = Z ∧ IntKind.i64.wrap Z = -(T : Int) := by
          refine ⟨_, rfl, ?_⟩
          rw [IntKind.wrap_u64, IntKind.wrap_i64]
          omega
        rw [if_neg h, decide_eq_false h]
        clear h
        go_wp2_with fail
        go_ret2
        rw [HX3.out]
        exact ⟨rfl, rfl⟩
end Go.Proofs.Ytiefheocomkfiaa
