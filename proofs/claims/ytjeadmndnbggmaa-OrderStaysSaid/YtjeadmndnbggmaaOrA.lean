/- Small functions of order: groups of kinds, ranks, the language's own comparisons. -/
import Derived.Test.YtjeadmndnbggmaaOrQ
import Derived.Test.YtjeadmndnbggmaaOrT
import Derived.Deep.QuietTactic
import Derived.BigQuiet
set_option linter.unusedVariables false
set_option linter.unusedSimpArgs false
namespace Go.Proofs.Ytjeadmndnbggmaa
open Go.RowKit

theorem in_any (w : World) (g k : Nat) (b : Bool) (hg : g < 4294967296) (hk : k < 32) (hb : (bits BinOp.and IntKind.u32 ((g : Int) / 2 ^ k) 1 != 0) = b) : Calls Try.prog 10 #[.int .u32 (g : Int), .int .i64 (k : Int)] w fun e w' => e = .returned (.bool b) ∧ w' = w := by
  go_enter Try.func10, Try.ntmps10
  go_wp2_with fail
  go_ret
  exact ⟨rfl, rfl⟩
theorem in_num : ∀ k : Fin 32, (bits BinOp.and IntKind.u32 (((132444 : Nat) : Int) / 2 ^ k.1) 1 != 0) = (intK k.1 || decide (k.1 = 4)) := by decide +kernel
theorem in_str : ∀ k : Fin 32, (bits BinOp.and IntKind.u32 (((67584 : Nat) : Int) / 2 ^ k.1) 1 != 0) = strK k.1 := by decide +kernel
theorem in_lst : ∀ k : Fin 32, (bits BinOp.and IntKind.u32 (((57344 : Nat) : Int) / 2 ^ k.1) 1 != 0) = lstK k.1 := by decide +kernel
theorem in_stc : ∀ k : Fin 32, (bits BinOp.and IntKind.u32 (((4096 : Nat) : Int) / 2 ^ k.1) 1 != 0) = decide (k.1 = 12) := by decide +kernel
theorem in_all : ∀ k : Fin 32, (bits BinOp.and IntKind.u32 (((61440 : Nat) : Int) / 2 ^ k.1) 1 != 0) = (lstK k.1 || decide (k.1 = 12)) := by decide +kernel
theorem nani_any (w : World) (x : Int) : Calls Try.prog 28 #[.int .i64 x] w fun e w' => e = .returned (.bool false) ∧ w' = w := by
  have h : (x != x) = false := by simp
  go_enter Try.func28, Try.ntmps28
  go_wp2_with fail
  go_ret
  exact ⟨by simp, rfl⟩
theorem nanu_any (w : World) (x : Int) : Calls Try.prog 29 #[.int .u64 x] w fun e w' => e = .returned (.bool false) ∧ w' = w := by
  have h : (x != x) = false := by simp
  go_enter Try.func29, Try.ntmps29
  go_wp2_with fail
  go_ret
  exact ⟨by simp, rfl⟩
set_option maxRecDepth 100000 in
theorem cmpi_any (w : World) (x y : Int) : Calls Try.prog 15 #[.int .i64 x, .int .i64 y] w fun e w' => e = .returned (.int .i64 (cmpI x y)) ∧ w' = w := by
  obtain ⟨R, hR⟩ : ∃ R, cmpI x y = R := ⟨_, rfl⟩
  have HR := Lib.hid hR
  rw [hR]
  clear hR
  go_enter Try.func15, Try.ntmps15
  go_wp2_with fail
  refine (nani_any w x).mono ?_; rintro e w' ⟨rfl, hw⟩; obtain rfl := hw.symm
  go_wp2_with fail
  refine (nani_any w y).mono ?_; rintro e w' ⟨rfl, hw⟩; obtain rfl := hw.symm
  by_cases h1 : x < y
  · have d1 : decide (x < y) = true := decide_eq_true h1
    have HX : Hid (R = -1) := by unfold Hid; rw [← HR.out]; unfold cmpI; rw [if_pos h1]
    clear HR
    go_wp2_with fail
    go_ret
    exact ⟨by rw [HX.out]; rfl, rfl⟩
  · have d1 : decide (x < y) = false := decide_eq_false h1
    by_cases h2 : y < x
    · have d2 : decide (y < x) = true := decide_eq_true h2
      have HX : Hid (R = 1) := by unfold Hid; rw [← HR.out]; unfold cmpI; rw [if_neg h1, if_pos h2]
      clear HR
      go_wp2_with fail
      go_ret
      exact ⟨by rw [HX.out]; rfl, rfl⟩
    · have d2 : decide (y < x) = false := decide_eq_false h2
      have HX : Hid (R = 0) := by unfold Hid; rw [← HR.out]; unfold cmpI; rw [if_neg h1, if_neg h2]
      clear HR
      go_wp2_with fail
      go_ret
      exact ⟨by rw [HX.out]; rfl, rfl⟩
set_option maxRecDepth 100000 in
theorem cmpu_any (w : World) (x y : Int) : Calls Try.prog 16 #[.int .u64 x, .int .u64 y] w fun e w' => e = .returned (.int .i64 (cmpI x y)) ∧ w' = w := by
  obtain ⟨R, hR⟩ : ∃ R, cmpI x y = R := ⟨_, rfl⟩
  have HR := Lib.hid hR
  rw [hR]
  clear hR
  go_enter Try.func16, Try.ntmps16
  go_wp2_with fail
  refine (nanu_any w x).mono ?_; rintro e w' ⟨rfl, hw⟩; obtain rfl := hw.symm
  go_wp2_with fail
  refine (nanu_any w y).mono ?_; rintro e w' ⟨rfl, hw⟩; obtain rfl := hw.symm
  by_cases h1 : x < y
  · have d1 : decide (x < y) = true := decide_eq_true h1
    have HX : Hid (R = -1) := by unfold Hid; rw [← HR.out]; unfold cmpI; rw [if_pos h1]
    clear HR
    go_wp2_with fail
    go_ret
    exact ⟨by rw [HX.out]; rfl, rfl⟩
  · have d1 : decide (x < y) = false := decide_eq_false h1
    by_cases h2 : y < x
    · have d2 : decide (y < x) = true := decide_eq_true h2
      have HX : Hid (R = 1) := by unfold Hid; rw [← HR.out]; unfold cmpI; rw [if_neg h1, if_pos h2]
      clear HR
      go_wp2_with fail
      go_ret
      exact ⟨by rw [HX.out]; rfl, rfl⟩
    · have d2 : decide (y < x) = false := decide_eq_false h2
      have HX : Hid (R = 0) := by unfold Hid; rw [← HR.out]; unfold cmpI; rw [if_neg h1, if_neg h2]
      clear HR
      go_wp2_with fail
      go_ret
      exact ⟨by rw [HX.out]; rfl, rfl⟩
theorem xor_top {v : Nat} (h : v < 9223372036854775808) : v ^^^ 9223372036854775808 = v + 9223372036854775808 := by
  apply Nat.eq_of_testBit_eq
  intro i
  rw [show (9223372036854775808 : Nat) = 2 ^ 63 from rfl] at h ⊢
  rw [Nat.testBit_xor, Nat.testBit_two_pow]
  rcases Nat.lt_trichotomy i 63 with hi | hi | hi
  · rw [Nat.add_comm, Nat.testBit_two_pow_add_gt hi, decide_eq_false (by omega), Bool.xor_false]
  · subst hi
    rw [Nat.add_comm, Nat.testBit_two_pow_add_eq]; simp [Nat.testBit_lt_two_pow h]
  · have h1 : v.testBit i = false := Nat.testBit_lt_two_pow (Nat.lt_of_lt_of_le h (Nat.pow_le_pow_right (by decide) (by omega)))
    have h2 : (v + 2 ^ 63).testBit i = false := Nat.testBit_lt_two_pow (Nat.lt_of_lt_of_le (by omega : v + 2 ^ 63 < 2 ^ 64) (Nat.pow_le_pow_right (by decide) (by omega)))
    rw [h1, h2, decide_eq_false (by omega)]; rfl
theorem xor_top2 {v : Nat} (h : v < 9223372036854775808) : (v + 9223372036854775808) ^^^ 9223372036854775808 = v := by
  rw [← xor_top h, Nat.xor_assoc, Nat.xor_self, Nat.xor_zero]
theorem bits_xor (a b : Nat) (ha : a < 2 ^ 64) (hb : b < 2 ^ 64) : bits BinOp.xor IntKind.u64 (a : Int) (b : Int) = ((a ^^^ b : Nat) : Int) := by
  have hx : a ^^^ b < 2 ^ 64 := Nat.xor_lt_two_pow ha hb
  have e : (BitVec.ofInt 64 (a : Int) ^^^ BitVec.ofInt 64 (b : Int)).toNat = a ^^^ b := by
    rw [BitVec.ofInt_natCast, BitVec.ofInt_natCast, BitVec.toNat_xor, BitVec.toNat_ofNat, BitVec.toNat_ofNat, Nat.mod_eq_of_lt ha, Nat.mod_eq_of_lt hb]
  show IntKind.u64.wrap (((BitVec.ofInt 64 (a : Int) ^^^ BitVec.ofInt 64 (b : Int)).toNat : Nat) : Int) = _
  rw [e]
  unfold IntKind.wrap
  simp only [IntKind.bits, IntKind.signed, Bool.false_and, Bool.false_eq_true, if_false]
  omega
theorem rank_eq (x : Int) (hb : -9223372036854775808 ≤ x ∧ x ≤ 9223372036854775807) : bits BinOp.xor IntKind.u64 (IntKind.u64.wrap x) 9223372036854775808 = x + 9223372036854775808 := by
  by_cases h : 0 ≤ x
  · have e : IntKind.u64.wrap x = x := by unfold IntKind.wrap; simp [IntKind.bits, IntKind.signed]; omega
    obtain ⟨v, rfl⟩ : ∃ v : Nat, x = v := ⟨x.toNat, by omega⟩
    rw [e]
    have := bits_xor v 9223372036854775808 (by omega) (by decide)
    rw [xor_top (by omega)] at this
    exact this
  · obtain ⟨v, hv⟩ : ∃ v : Nat, x + 9223372036854775808 = v := ⟨(x + 9223372036854775808).toNat, by omega⟩
    have e : IntKind.u64.wrap x = ((v + 9223372036854775808 : Nat) : Int) := by unfold IntKind.wrap; simp [IntKind.bits, IntKind.signed]; omega
    rw [e, hv]
    have := bits_xor (v + 9223372036854775808) 9223372036854775808 (by omega) (by decide)
    rw [xor_top2 (by omega)] at this
    exact this
set_option maxRecDepth 100000 in
theorem rank_any (w : World) (x : ValS) (hb : -9223372036854775808 ≤ x.n ∧ x.n ≤ 9223372036854775807) (h4 : x.k ≠ 4) : Calls Try.prog 17 #[.agg (valA x)] w fun e w' => e = .returned (.int .u64 (x.n + 9223372036854775808)) ∧ Nx w w' := by
  obtain ⟨xk, xn, xs, xl, xd⟩ := x
  dsimp only at hb h4
  rw [valA_agg]
  obtain ⟨g1, hg1⟩ : ∃ g, w.heap.size = g := ⟨_, rfl⟩
  obtain ⟨w1, hw1⟩ : ∃ y, w.alloc (.cells #[.int .i64 (xk : Int), .int .i64 xn, .string ⟨xs.toArray⟩, xl, xd] 29) = y := ⟨_, rfl⟩
  have hb1 : Blk w1 g1 g1 #[.int .i64 (xk : Int), .int .i64 xn, .string ⟨xs.toArray⟩, xl, xd] 29 := by rw [← hw1, ← hg1]; exact Blk.new w _ _
  have HN1 : Hid (Nx w w1) := by rw [← hw1]; exact nx0 _ _
  have a0 : w1.cell? ⟨g1, 0, none⟩ = some (.int .i64 (xk : Int)) := hb1.cell 0
  have a1 : w1.cell? ⟨g1, 1, none⟩ = some (.int .i64 xn) := hb1.cell 1
  have q : ((xk : Int) == 4) = false := by rw [beq_eq_false_iff_ne]; omega
  have q2 : (xk == 4) = false := by rw [beq_eq_false_iff_ne]; omega
  clear hb1 h4
  go_enter Try.func17, Try.ntmps17
  go_wp2_with fail
  clear hw1
  go_ret
  rw [rank_eq xn hb]
  exact ⟨rfl, HN1.out⟩
set_option maxRecDepth 100000 in
/-- a binary64's rank: its bits -/
theorem rank4_any (w : World) (x : ValS) (h4 : x.k = 4) : Calls Try.prog 17 #[.agg (valA x)] w fun e w' => e = .returned (.int .u64 (x.n % 18446744073709551616)) ∧ Nx w w' := by
  obtain ⟨xk, xn, xs, xl, xd⟩ := x
  dsimp only at h4
  subst h4
  rw [valA_agg, show ((4 : Nat) : Int) = 4 from rfl]
  obtain ⟨g1, hg1⟩ : ∃ g, w.heap.size = g := ⟨_, rfl⟩
  obtain ⟨w1, hw1⟩ : ∃ y, w.alloc (.cells #[.int .i64 4, .int .i64 xn, .string ⟨xs.toArray⟩, xl, xd] 29) = y := ⟨_, rfl⟩
  have hb1 : Blk w1 g1 g1 #[.int .i64 4, .int .i64 xn, .string ⟨xs.toArray⟩, xl, xd] 29 := by rw [← hw1, ← hg1]; exact Blk.new w _ _
  have HN1 : Hid (Nx w w1) := by rw [← hw1]; exact nx0 _ _
  have a0 : w1.cell? ⟨g1, 0, none⟩ = some (.int .i64 4) := hb1.cell 0
  have a1 : w1.cell? ⟨g1, 1, none⟩ = some (.int .i64 xn) := hb1.cell 1
  have HE : Hid (IntKind.u64.wrap xn = xn % 18446744073709551616) := by unfold Hid IntKind.wrap; simp [IntKind.bits, IntKind.signed]
  clear hb1
  go_enter Try.func17, Try.ntmps17
  go_wp2_with fail
  clear hw1
  go_ret
  rw [HE.out]
  exact ⟨rfl, HN1.out⟩
end Go.Proofs.Ytjeadmndnbggmaa
