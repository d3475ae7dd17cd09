/- The comparison that field.Order sorts by. -/
import Derived.Test.YtpfecpcgdfbekaaFdP
import Derived.Test.YtpfecpcgdfbekaaOth0
import Derived.Deep.QuietTactic
import Derived.BigQuiet
set_option linter.unusedVariables false
set_option linter.unusedSimpArgs false
namespace Go.Proofs.Ytpfecpcgdfbekaa
open Go.RowKit

def iv (n : Int) : Value := .int .i64 n
def cmpZ (x y : Int) : Int := if x < y then -1 else if y < x then 1 else 0
theorem nan_any (w : World) (x : Int) : Calls Try.prog 18 #[.int .i64 x] w fun e w' => e = .returned (.bool false) ∧ w' = w := by
  have h : (x != x) = false := by simp
  go_enter Try.func18, Try.ntmps18
  go_wp2_with fail
  go_ret
  exact ⟨by simp, rfl⟩
set_option maxRecDepth 100000 in
theorem cmp_any (w : World) (x y : Int) : Calls Try.prog 16 #[.int .i64 x, .int .i64 y] w fun e w' => e = .returned (.int .i64 (cmpZ x y)) ∧ w' = w := by
  obtain ⟨R, hR⟩ : ∃ R, cmpZ x y = R := ⟨_, rfl⟩
  have HR := Lib.hid hR
  rw [hR]
  clear hR
  go_enter Try.func16, Try.ntmps16
  go_wp2_with fail
  refine (nan_any w x).mono ?_; rintro e w' ⟨rfl, hw⟩; obtain rfl := hw.symm
  go_wp2_with fail
  refine (nan_any w y).mono ?_; rintro e w' ⟨rfl, hw⟩; obtain rfl := hw.symm
  by_cases h1 : x < y
  · have d1 : decide (x < y) = true := decide_eq_true h1
    have HX : Hid (R = -1) := by unfold Hid; rw [← HR.out]; unfold cmpZ; rw [if_pos h1]
    clear HR
    go_wp2_with fail
    go_ret
    exact ⟨by rw [HX.out]; rfl, rfl⟩
  · have d1 : decide (x < y) = false := decide_eq_false h1
    by_cases h2 : y < x
    · have d2 : decide (y < x) = true := decide_eq_true h2
      have HX : Hid (R = 1) := by unfold Hid; rw [← HR.out]; unfold cmpZ; rw [if_neg h1, if_pos h2]
      clear HR
      go_wp2_with fail
      go_ret
      exact ⟨by rw [HX.out]; rfl, rfl⟩
    · have d2 : decide (y < x) = false := decide_eq_false h2
      have HX : Hid (R = 0) := by unfold Hid; rw [← HR.out]; unfold cmpZ; rw [if_neg h1, if_neg h2]
      clear HR
      go_wp2_with fail
      go_ret
      exact ⟨by rw [HX.out]; rfl, rfl⟩
set_option maxRecDepth 100000 in
/-- what the literal of Order answers: two places' numbers held against each other -/
theorem less_any (w : World) (gb : Nat) (A : Option Addr) (n c : Nat) (vs : List Int) (hn : vs.length = n) (hb : w.cell? ⟨gb, 0, none⟩ = some (.slice A n c)) (hr : Rd iv w A vs) (hn9 : n ≤ 100000) (i j : Nat) (hi : i < n) (hj : j < n) :
    Calls Try.prog 15 #[.int .i64 (i : Int), .int .i64 (j : Int), .pointer (some ⟨gb, 0, none⟩)] w fun e w' => e = .returned (.int .i64 (cmpZ (vs.getD i 0) (vs.getD j 0))) ∧ ∃ q, w' = w.drewN q := by
  obtain ⟨X, hX⟩ : ∃ X, vs.getD i 0 = X := ⟨_, rfl⟩
  obtain ⟨Y, hY⟩ : ∃ Y, vs.getD j 0 = Y := ⟨_, rfl⟩
  rw [hX, hY]
  obtain ⟨g, off, rfl, hg, hc⟩ := hr (by omega)
  have ci : w.cell? ⟨g, off + i, none⟩ = some (.int .i64 X) := by rw [hc i (by omega), ← hX]; simp [iv, List.getD, show i < vs.length by omega]
  have cj : w.cell? ⟨g, off + j, none⟩ = some (.int .i64 Y) := by rw [hc j (by omega), ← hY]; simp [iv, List.getD, show j < vs.length by omega]
  have i1 : (i : Int) < (n : Int) := by omega
  have j1 : (j : Int) < (n : Int) := by omega
  have i0 : (0 : Int) ≤ (i : Int) := by omega
  have j0 : (0 : Int) ≤ (j : Int) := by omega
  clear hc hX hY hr hn
  go_enter Try.func15, Try.ntmps15
  go_wp2_with fail
  go_quiet (exact Calls.quiet_of_same (cmp_any _ X Y))
  go_wp2_with fail
  go_ret
  exact ⟨rfl, _, rfl⟩
end Go.Proofs.Ytpfecpcgdfbekaa
