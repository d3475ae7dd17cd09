/- The contract of zig.Take: which number bytes begin with. -/
import Derived.Test.YtdgeiaiflkpjmaaZig
namespace Go.Proofs.Ytdgeiaiflkpjmaa
open Go.RowKit

theorem shr8 (B R : Nat) (hB : B ≤ 255) (y : Int) (hy : y = (R : Int)) : Op.shift .shr .u8 (B : Int) .i64 y = pure (Value.int .u8 ((B / 2 ^ R : Nat) : Int)) := by
  subst hy
  by_cases h : R ≤ 8
  · have := shift_shr .u8 .i64 (B : Int) (R : Int) (by omega) (by simp [IntKind.bits]; omega)
    rw [this, Int.toNat_natCast, show ((B / 2 ^ R : Nat) : Int) = (B : Int) / 2 ^ R from by rw [Int.natCast_ediv, Int.natCast_pow]; rfl]
  · have e1 : B / 2 ^ R = 0 := by
      apply Nat.div_eq_of_lt
      have : 2 ^ 8 ≤ 2 ^ R := Nat.pow_le_pow_right (by decide) (by omega)
      omega
    have hm : min R IntKind.u8.bits = 8 := by simp [IntKind.bits]; omega
    rw [e1]
    simp [Op.shift, hm]
    rw [if_neg (by omega), Int.fdiv_eq_ediv_of_nonneg _ (by decide), show (B : Int) / 256 = 0 from by omega]

theorem room_iff (B R : Nat) (hB : B ≤ 255) (hR : 1 ≤ R) : (R < 7 ∧ B % 128 / 2 ^ R ≠ 0 ∨ R ≤ 7 ∧ 127 < B) ↔ B / 2 ^ R ≠ 0 := by
  have h : ∀ b : Fin 256, ∀ r : Fin 9, 1 ≤ r.1 → ((r.1 < 7 ∧ b.1 % 128 / 2 ^ r.1 ≠ 0 ∨ r.1 ≤ 7 ∧ 127 < b.1) ↔ b.1 / 2 ^ r.1 ≠ 0) := by decide +kernel
  by_cases h8 : R ≤ 8
  · exact h ⟨B, by omega⟩ ⟨R, by omega⟩ hR
  · have e1 : B / 2 ^ R = 0 := by
      apply Nat.div_eq_of_lt
      have : 2 ^ 8 ≤ 2 ^ R := Nat.pow_le_pow_right (by decide) (by omega)
      omega
    rw [e1]
    constructor
    · rintro (h | h) <;> omega
    · intro h; exact absurd rfl h

set_option maxRecDepth 100000 in
set_option maxHeartbeats 1000000 in
theorem take_any (A : Option Addr) (xs : List UInt8) (c : Nat) (bits : Nat) (w : World) (hr : Rd bv w A xs) (hc : xs.length ≤ c) (hm : c ≤ maxLen) (hl : (xs.length : Int) ≤ 1000000) (hb1 : 1 ≤ bits) (hb2 : bits ≤ 64) :
    Calls Try.prog 10 #[.slice A xs.length c, .int .i64 bits] w fun e w' => ∃ v n er : Nat, e = .returned (.tuple #[.int .u64 v, .int .i64 n, .int .i64 er]) ∧ w = w' ∧ Hid ((v, n, er) = takeVarS bits xs) := by
  have c1 : decide ((bits : Int) < 1) = false := decide_eq_false (by omega)
  have c2 : decide (64 < (bits : Int)) = false := decide_eq_false (by omega)
  go_enter Try.func10, Try.ntmps10
  go_wp2_with fail
  go_loop [4, 19] (fun v i => ∃ (k a : Nat), i = .int .i64 k ∧ v = .int .u64 a ∧ k ≤ xs.length ∧ 7 * k < bits ∧ Hid (a < 2 ^ (7 * k)) ∧ Hid (tv bits (xs.drop k) k a = takeVarS bits xs)) (fun _ i => xs.length - (intOf i).toNat)
  case atStart => exact ⟨0, 0, rfl, rfl, Nat.zero_le _, by omega, by unfold Hid; decide, rfl⟩
  case round =>
    obtain ⟨k, a, rfl, rfl, hk, hk7, HA, HT⟩ := hrel
    by_cases hlt : k < xs.length
    · obtain ⟨b, off, rfl, hb, hcell⟩ := hr.at_ (k := k) hlt
      unfold bv at hcell
      have hx : xs[k].toNat ≤ 255 := by have := xs[k].toNat_lt; omega
      generalize hB : xs[k].toNat = B at *
      have HB := Lib.hid hB
      clear hB
      have hdrop := Lib.hid (List.drop_eq_getElem_cons hlt)
      have hsh := shr8 B (bits - 7 * k) hx ((bits : Int) - 7 * (k : Int)) (by omega)
      have HR := Lib.hid (room_iff B (bits - 7 * k) hx (by omega))
      have a1 := and127 B hx
      have a2 := and128 B hx
      have hbnd : Hid (B / 2 ^ (bits - 7 * k) = 0 → a + B % 128 * 2 ^ (7 * k) < 2 ^ 64) := fun h0 => by
        refine Nat.lt_of_lt_of_le (group_bound bits (7 * k) a _ HA.out (low_lt _ _ fun h7 => ?_) (by omega)) (Nat.pow_le_pow_right (by decide) hb2)
        by_cases h : B % 128 / 2 ^ (bits - 7 * k) = 0
        · exact h
        · exact absurd h0 (HR.out.1 (.inl ⟨h7, h⟩))
      generalize hT : B / 2 ^ (bits - 7 * k) = T at *
      clear hT
      by_cases h0 : T = 0
      · subst h0
        have hbnd2 : Hid (a + B % 128 * 2 ^ (7 * k) < 2 ^ 64) := hbnd.out rfl
        clear hbnd
        by_cases h128 : B < 128
        · have g1 : decide (B < 128) = true := decide_eq_true h128
          go_wp2_with fail
          go_ret3
          refine ⟨a + B % 128 * 2 ^ (7 * k), k + 1, 0, ret3_ints (or_group a B (7 * k) HA.out hbnd2.out) rfl rfl, rfl, ?_⟩
          unfold Hid
          rw [← HT.out, hdrop.out, tv, HB.out, if_neg (fun h => HR.out.1 h rfl), if_pos h128]
        · have g1 : decide (B < 128) = false := decide_eq_false h128
          go_wp2_with fail
          go_round
          case rel =>
            refine ⟨k + 1, a + B % 128 * 2 ^ (7 * k), by go_num, congrArg (Value.int IntKind.u64) (or_group a B (7 * k) HA.out hbnd2.out), by omega, ?_, ?_, ?_⟩
            · have : ¬ (bits - 7 * k ≤ 7) := fun h => HR.out.1 (.inr ⟨h, by omega⟩) rfl
              omega
            · unfold Hid
              refine Nat.lt_of_lt_of_le (group_bound (7 * k + 7) (7 * k) a _ HA.out ?_ (by omega)) (Nat.pow_le_pow_right (by decide) (by omega))
              rw [show 7 * k + 7 - 7 * k = 7 from by omega]
              omega
            · unfold Hid
              rw [← HT.out, hdrop.out, tv, HB.out, if_neg (fun h => HR.out.1 h rfl), if_neg h128]
          case measure => simp [intOf]; omega
      · have g0 : ((T : Int) != 0) = true := by rw [bne_iff_ne]; omega
        go_wp2_with fail
        go_ret3
        refine ⟨0, 0, 4, rfl, rfl, ?_⟩
        unfold Hid
        rw [← HT.out, hdrop.out, tv, HB.out, if_pos (HR.out.2 h0)]
    · obtain rfl : k = xs.length := by omega
      go_wp2_with fail
      go_ret3
      refine ⟨0, 0, 3, rfl, rfl, ?_⟩
      unfold Hid
      rw [← HT.out]
      simp [tv]

set_option maxHeartbeats 400000 in
theorem take_arg (A : Option Addr) (xs : List UInt8) (c : Nat) (bits : Int) (w : World) (hb : bits < 1 ∨ 64 < bits) :
    Calls Try.prog 10 #[.slice A xs.length c, .int .i64 bits] w fun e w' => e = .returned (.tuple #[.int .u64 0, .int .i64 0, .int .i64 1]) ∧ w = w' := by
  rcases hb with h | h
  · have c1 : decide ((bits : Int) < 1) = true := decide_eq_true h
    go_enter Try.func10, Try.ntmps10
    go_wp2_with fail
    go_ret3
    exact ⟨rfl, rfl⟩
  · have c1 : decide ((bits : Int) < 1) = false := decide_eq_false (by omega)
    have c2 : decide (64 < (bits : Int)) = true := decide_eq_true h
    go_enter Try.func10, Try.ntmps10
    go_wp2_with fail
    go_ret3
    exact ⟨rfl, rfl⟩
set_option maxHeartbeats 400000 in
theorem refTakeVar_arg (A : Option Addr) (xs : List UInt8) (c : Nat) (bits : Int) (w : World) (hb : bits < 1 ∨ 64 < bits) :
    Calls Try.prog 11 #[.slice A xs.length c, .int .i64 bits] w fun e w' => e = .returned (.tuple #[.int .u64 0, .int .i64 0, .int .i64 1]) ∧ w = w' := by
  rcases hb with h | h
  · have c1 : decide ((bits : Int) < 1) = true := decide_eq_true h
    go_enter Try.func11, Try.ntmps11
    go_wp2_with fail
    go_ret3
    exact ⟨rfl, rfl⟩
  · have c1 : decide ((bits : Int) < 1) = false := decide_eq_false (by omega)
    have c2 : decide (64 < (bits : Int)) = true := decide_eq_true h
    go_enter Try.func11, Try.ntmps11
    go_wp2_with fail
    go_ret3
    exact ⟨rfl, rfl⟩
end Go.Proofs.Ytdgeiaiflkpjmaa
