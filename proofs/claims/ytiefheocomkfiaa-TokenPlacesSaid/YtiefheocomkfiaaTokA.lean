/- The contracts of token's small functions. -/
import Derived.Test.YtiefheocomkfiaaProg
import Derived.Test.YtiefheocomkfiaaShelf
import Derived.Test.YtiefheocomkfiaaTokP
import Derived.Test.YtiefheocomkfiaaDecA
import Derived.Test.YtiefheocomkfiaaBlk
set_option linter.unusedVariables false
set_option linter.unusedSimpArgs false
namespace Go.Proofs.Ytiefheocomkfiaa
open Go.RowKit

set_option maxRecDepth 100000 in
set_option maxHeartbeats 800000 in
theorem isWhite_any (c : UInt8) (w : World) :
    Calls Try.prog 26 #[.int .u8 (c.toNat : Int)] w fun e w' => e = .returned (.bool (isWhS c)) ∧ w' = w := by
  go_enter Try.func26, Try.ntmps26
  go_wp2_with fail
  all_goals
    go_ret
    refine ⟨congrArg (fun b => Ending.returned (Value.bool b)) ?_, rfl⟩
    rw [Bool.eq_iff_iff]
    simp [isWhS]
    omega

set_option maxRecDepth 100000 in
set_option maxHeartbeats 800000 in
theorem isLetter_any (c : UInt8) (w : World) :
    Calls Try.prog 14 #[.int .u8 (c.toNat : Int)] w fun e w' => e = .returned (.bool (isLetS c)) ∧ w' = w := by
  go_enter Try.func14, Try.ntmps14
  go_wp2_with fail
  all_goals
    go_ret
    refine ⟨congrArg (fun b => Ending.returned (Value.bool b)) ?_, rfl⟩
    rw [Bool.eq_iff_iff]
    simp [isLetS]
    omega

set_option maxRecDepth 100000 in
set_option maxHeartbeats 800000 in
theorem isDigit_any (c : UInt8) (w : World) :
    Calls Try.prog 16 #[.int .u8 (c.toNat : Int)] w fun e w' => e = .returned (.bool (isDig c)) ∧ w' = w := by
  go_enter Try.func16, Try.ntmps16
  go_wp2_with fail
  all_goals
    go_ret
    refine ⟨congrArg (fun b => Ending.returned (Value.bool b)) ?_, rfl⟩
    rw [Bool.eq_iff_iff]
    simp [isDig]
    omega

set_option maxRecDepth 100000 in
set_option maxHeartbeats 1600000 in
theorem isOfName_any (c : UInt8) (w : World) :
    Calls Try.prog 21 #[.int .u8 (c.toNat : Int)] w fun e w' => e = .returned (.bool (isNmS c)) ∧ w' = w := by
  go_enter Try.func21, Try.ntmps21
  go_wp2_with fail
  refine (isLetter_any c w).mono ?_; rintro e w' ⟨rfl, rfl⟩
  obtain ⟨L, HL⟩ : ∃ L, Hid (isLetS c = L) := ⟨_, rfl⟩
  rw [HL.out]
  cases L
  · go_wp2_with fail
    refine (isDigit_any c _).mono ?_; rintro e w' ⟨rfl, rfl⟩
    obtain ⟨D, HD⟩ : ∃ D, Hid (isDig c = D) := ⟨_, rfl⟩
    rw [HD.out]
    cases D
    · go_wp2_with fail
      all_goals
        go_ret
        refine ⟨congrArg (fun b => Ending.returned (Value.bool b)) ?_, rfl⟩
        rw [Bool.eq_iff_iff]
        simp [isNmS, HL.out, HD.out]
        omega
    · go_wp2_with fail
      go_ret
      refine ⟨congrArg (fun b => Ending.returned (Value.bool b)) ?_, rfl⟩
      simp [isNmS, HL.out, HD.out]
  · go_wp2_with fail
    go_ret
    refine ⟨congrArg (fun b => Ending.returned (Value.bool b)) ?_, rfl⟩
    simp [isNmS, HL.out]

set_option maxRecDepth 100000 in
set_option maxHeartbeats 1600000 in
theorem isHexDigit_any (c : UInt8) (w : World) :
    Calls Try.prog 40 #[.int .u8 (c.toNat : Int)] w fun e w' => e = .returned (.bool (isHexS c)) ∧ w' = w := by
  go_enter Try.func40, Try.ntmps40
  go_wp2_with fail
  refine (isDigit_any c w).mono ?_; rintro e w' ⟨rfl, rfl⟩
  obtain ⟨D, HD⟩ : ∃ D, Hid (isDig c = D) := ⟨_, rfl⟩
  rw [HD.out]
  cases D
  · go_wp2_with fail
    all_goals
      go_ret
      refine ⟨congrArg (fun b => Ending.returned (Value.bool b)) ?_, rfl⟩
      rw [Bool.eq_iff_iff]
      simp [isHexS, HD.out]
      omega
  · go_wp2_with fail
    go_ret
    refine ⟨congrArg (fun b => Ending.returned (Value.bool b)) ?_, rfl⟩
    simp [isHexS, HD.out]

/-- a function of the program that tells of a byte whether it is such -/
structure Such (F : Nat) (p : UInt8 → Bool) : Prop where
  enter : ∀ args w, (callFunc F args).run Try.prog w = .ok (.enter F args) w
  calls : ∀ (c : UInt8) (w : World), Calls Try.prog F #[.int .u8 (c.toNat : Int)] w fun e w' => e = .returned (.bool (p c)) ∧ w' = w

set_option maxRecDepth 100000 in
set_option maxHeartbeats 1600000 in
theorem span_any (F : Nat) (p : UInt8 → Bool) (hF : Such F p) (s : ByteArray) (l : List UInt8) (w : World) (hl : Tx s l) (hs : (l.length : Int) ≤ 140737488355328) :
    Calls Try.prog 25 #[.string s, .func (.func F) #[] #[]] w fun e w' => e = .returned (.int .i64 (spanN p l : Nat)) ∧ w' = w := by
  have HL := Lib.hid hl
  have hz : (s.size : Int) ≤ 140737488355328 := by rw [hl.size]; exact hs
  have hz2 : s.size = l.length := hl.size
  have eF := hF.enter
  clear hl
  go_enter Try.func25, Try.ntmps25
  go_wp2_with fail
  go_loopw [5] (fun v wr => ∃ (n : Nat), v = .int .i64 n ∧ n ≤ l.length ∧ Hid (∀ c ∈ l.take n, p c = true) ∧ wr = w) (fun v _ => (140737488355328 - intOf v).toNat)
  case atStart => exact ⟨0, rfl, Nat.zero_le _, by unfold Hid; simp, rfl⟩
  case round =>
    obtain ⟨n, rfl, hn, HA, rfl⟩ := hrel
    by_cases hlt : n < l.length
    · obtain ⟨hp, e0⟩ := HL.out.idx n hlt
      obtain ⟨c, hc⟩ : ∃ c, l[n] = c := ⟨_, rfl⟩
      rw [hc] at e0
      have g1 : decide ((n : Int) < (s.size : Int)) = true := decide_eq_true (by omega)
      have HTK : Hid (l.take (n + 1) = l.take n ++ [c]) := by unfold Hid; rw [← hc]; exact (List.take_append_getElem hlt).symm
      have HDR : Hid (l.drop n = c :: l.drop (n + 1)) := by unfold Hid; rw [← hc]; exact List.drop_eq_getElem_cons hlt
      obtain ⟨P, HP⟩ : ∃ P, Hid (p c = P) := ⟨_, rfl⟩
      clear hc
      go_wp2_with fail
      refine (hF.calls c _).mono ?_; rintro e w' ⟨rfl, rfl⟩
      rw [HP.out]
      cases P
      · go_wp2_with fail
        go_ret
        rw [spanN_is p l n (by omega) HA.out (.inr ⟨c, _, HDR.out, HP.out⟩)]
        exact ⟨rfl, rfl⟩
      · go_wp2_with fail
        go_roundw
        case rel =>
          refine ⟨n + 1, by go_num, hlt, ?_, by first | rfl | trivial⟩
          unfold Hid
          intro d hd
          rw [HTK.out] at hd
          rcases List.mem_append.1 hd with h | h
          · exact HA.out d h
          · rw [List.mem_singleton.1 h]; exact HP.out
        case measure => simp [intOf]; omega
    · have g1 : decide ((n : Int) < (s.size : Int)) = false := decide_eq_false (by omega)
      have HDR : Hid (l.drop n = []) := by unfold Hid; rw [List.drop_eq_nil_iff]; omega
      go_wp2_with fail
      go_ret
      rw [spanN_is p l n (by omega) HA.out (.inl HDR.out)]
      exact ⟨rfl, rfl⟩
theorem such_white : Such 26 isWhS := ⟨enters_of Try.func26 (by kernel_rfl) rfl, isWhite_any⟩
theorem such_digit : Such 16 isDig := ⟨enters_of Try.func16 (by kernel_rfl) rfl, isDigit_any⟩
theorem such_name : Such 21 isNmS := ⟨enters_of Try.func21 (by kernel_rfl) rfl, isOfName_any⟩
theorem such_hex : Such 40 isHexS := ⟨enters_of Try.func40 (by kernel_rfl) rfl, isHexDigit_any⟩
end Go.Proofs.Ytiefheocomkfiaa
