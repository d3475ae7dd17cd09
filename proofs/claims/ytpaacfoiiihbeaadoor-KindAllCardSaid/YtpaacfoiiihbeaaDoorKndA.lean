/- The contracts of the document's reading of kinds: its small functions. -/
import Derived.Test.YtpaacfoiiihbeaaDoorKinK
import Derived.Deep.CutBlock
import Derived.Deep.DeepCutAuto
set_option linter.unusedVariables false
set_option linter.unusedSimpArgs false
namespace Go.Proofs.YtpaacfoiiihbeaaDoor
open Go.RowKit

def isLtS (c : UInt8) : Bool := isLetS c || decide (c.toNat = 95)
theorem isNm_iff (c : UInt8) : isNmS c = (isLtS c || isDig c || decide (c.toNat = 46)) := by
  unfold isNmS isLtS
  cases isLetS c <;> cases isDig c <;> simp
theorem far_step (b : Bool) (c : UInt8) (r : List UInt8) (h : isNmS c = true) : farF b (c :: r) = ((!b || isLtS c) && farF (decide (c = 46)) r) := by
  cases b
  · simp [farF]
  · have h46 : decide (c = 46) = decide (c.toNat = 46) := by
      rw [decide_eq_decide, ← UInt8.toNat_inj]; rfl
    rw [isNm_iff] at h
    have e : farF true (c :: r) = ((!isDig c && decide (c ≠ 46)) && farF false r) := rfl
    rw [e, h46]
    have h2 : decide (c ≠ 46) = !decide (c.toNat = 46) := by rw [← h46]; simp
    rw [h2]
    by_cases hl : isLtS c = true
    · have hd : isDig c = false := by
        rw [Bool.eq_false_iff]; intro hd
        simp [isDig] at hd; simp [isLtS, isLetS] at hl; omega
      have h3 : decide (c.toNat = 46) = false := decide_eq_false (by simp [isLtS, isLetS] at hl; omega)
      rw [hl, hd, h3]; rfl
    · have hl' : isLtS c = false := by simpa using hl
      rw [hl'] at h ⊢
      cases hd : isDig c
      · rw [hd] at h
        simp at h
        simp [h]
      · simp

set_option maxRecDepth 100000 in
set_option maxHeartbeats 800000 in
theorem refLetter_any (c : UInt8) (w : World) :
    Calls Tryd.prog 24 #[.int .u8 (c.toNat : Int)] w fun e w' => e = .returned (.bool (isLtS c)) ∧ w' = w := by
  go_enter Tryd.func24, Tryd.ntmps24
  go_wp2_with fail
  all_goals
    go_ret
    refine ⟨congrArg (fun b => Ending.returned (Value.bool b)) ?_, rfl⟩
    rw [Bool.eq_iff_iff]
    simp [isLtS, isLetS]
    omega

set_option maxRecDepth 100000 in
set_option maxHeartbeats 800000 in
theorem refDigit_any (c : UInt8) (w : World) :
    Calls Tryd.prog 25 #[.int .u8 (c.toNat : Int)] w fun e w' => e = .returned (.bool (isDig c)) ∧ w' = w := by
  go_enter Tryd.func25, Tryd.ntmps25
  go_wp2_with fail
  all_goals
    go_ret
    refine ⟨congrArg (fun b => Ending.returned (Value.bool b)) ?_, rfl⟩
    rw [Bool.eq_iff_iff]
    simp [isDig]
    omega

set_option maxRecDepth 100000 in
set_option maxHeartbeats 6400000 in
theorem refBase_any (s : ByteArray) (l : List UInt8) (w : World) (hl : Tx s l) :
    Calls Tryd.prog 27 #[.string s] w fun e w' => e = .returned (.int .i64 (kindW l : Nat)) ∧ w' = w := by
  rcases kindW_is l with h0 | ⟨h1, h2⟩
  · have hne : ∀ k, isKw k → (s.toList == wordK k) = false := by
      intro k hk
      rw [beq_eq_false_iff_ne, hl.toL]
      intro e
      rw [e, kindW_word k hk] at h0
      subst h0
      simp [isKw] at hk
    have t2 := hne 2 (by simp [isKw])
    have t3 := hne 3 (by simp [isKw])
    have t4 := hne 4 (by simp [isKw])
    have t6 := hne 6 (by simp [isKw])
    have t8 := hne 8 (by simp [isKw])
    have t10 := hne 10 (by simp [isKw])
    have t11 := hne 11 (by simp [isKw])
    have t13 := hne 13 (by simp [isKw])
    have t14 := hne 14 (by simp [isKw])
    have t15 := hne 15 (by simp [isKw])
    have t16 := hne 16 (by simp [isKw])
    simp only [wordK, reduceIte, Nat.reduceEqDiff] at t2 t3 t4 t6 t8 t10 t11 t13 t14 t15 t16
    rw [h0]
    clear hne hl h0
    go_enter Tryd.func27, Tryd.ntmps27
    go_wp2_with fail
    go_ret
    exact ⟨rfl, rfl⟩
  · obtain rfl := hl.eq
    clear hl
    generalize hK : kindW l = k at *
    subst h2
    rcases h1 with rfl | rfl | rfl | rfl | rfl | rfl | rfl | rfl | rfl | rfl | rfl
    all_goals
      clear hK
      simp only [wordK, reduceIte, Nat.reduceEqDiff]
      go_enter Tryd.func27, Tryd.ntmps27
      go_wp2_with fail
      go_ret
      exact ⟨rfl, rfl⟩
end Go.Proofs.YtpaacfoiiihbeaaDoor
