/- The contracts of the document's answer for dec: a rounded number as bits. -/
import Derived.Test.YtddolmkmijkpiaaDoorRefN
import Derived.Test.YtddolmkmijkpiaaDoorDecP
namespace Go.Proofs.YtddolmkmijkpiaaDoor
open Go.RowKit

def packV (N : Nat) : Nat := if N < LIM then N else 0
theorem or52 (a b : Nat) (ha : a < 4503599627370496) (hb : b < 2048) : bits .or .u64 (((b * 4503599627370496 : Nat) : Int)) (a : Int) = ((b * 4503599627370496 + a : Nat) : Int) := by
  have h1 : b * 4503599627370496 < 18446744073709551616 := by omega
  rw [bits_or_u64_nat _ a h1 (by omega)]
  have := Nat.two_pow_add_eq_or_of_lt (i := 52) (b := a) (by omega) b
  rw [Nat.mul_comm b, show (4503599627370496 : Nat) = 2 ^ 52 from rfl, ← this]

set_option maxRecDepth 100000 in
set_option maxHeartbeats 1600000 in
theorem refPacked_any (q E : Nat) (e : Int) (w : World) (hE : (E : Int) = e + 1074) (hE2 : E ≤ 5000) (hq : q ≤ 9007199254740992) (hlo : E = 0 ∨ 4503599627370496 ≤ q) :
    Calls Tryd.prog 57 #[.int .u64 q, .int .i64 e] w fun r w' => r = .returned (.tuple #[.int .u64 (packV (E * 4503599627370496 + q) : Nat), .bool (decide (E * 4503599627370496 + q < LIM))]) ∧ w = w' := by
  have hE3 : -1074 ≤ e := by omega
  have hE4 : e ≤ 4000 := by omega
  have HE := Lib.hid hE
  have hq0 : (q : Int) ≤ 9007199254740992 := by omega
  have HQ := Lib.hid hq
  clear hE
  have e64 : ∀ x : Int, IntKind.u64.wrap x = x % 18446744073709551616 := fun x => by simp [IntKind.wrap, IntKind.bits, IntKind.signed]
  have E64 := Lib.hid e64
  clear e64
  by_cases h53 : q = 9007199254740992
  · have b1 : ((q : Int) == 9007199254740992) = true := by rw [beq_iff_eq]; omega
    have b2 : decide ((q : Int) / 2 < 4503599627370496) = false := decide_eq_false (by omega)
    have H53 := Lib.hid h53
    clear h53 hq
    by_cases h971 : 971 < e + 1
    · have b3 : decide (971 < e + 1) = true := decide_eq_true h971
      have HF : Hid (decide (E * 4503599627370496 + q < LIM) = false ∧ packV (E * 4503599627370496 + q) = 0) := by
        have h := H53.out
        have hn : ¬ E * 4503599627370496 + q < LIM := by unfold LIM; have := HE.out; omega
        exact ⟨decide_eq_false hn, by unfold packV; rw [if_neg hn]⟩
      go_enter Tryd.func57, Tryd.ntmps57
      go_wp2_with fail
      go_ret2
      refine ⟨?_, rfl⟩
      rw [HF.out.1, HF.out.2]; rfl
    · have b3 : decide (971 < e + 1) = false := decide_eq_false h971
      have HF : Hid (decide (E * 4503599627370496 + q < LIM) = true ∧ packV (E * 4503599627370496 + q) = E * 4503599627370496 + q) := by
        have h := H53.out
        have hn : E * 4503599627370496 + q < LIM := by unfold LIM; have := HE.out; omega
        exact ⟨decide_eq_true hn, by unfold packV; rw [if_pos hn]⟩
      have HR : Hid (bits .or .u64 ((e + 1 + 1075) * 4503599627370496) (IntKind.u64.wrap ((q : Int) / 2 - 4503599627370496)) = ((E * 4503599627370496 + q : Nat) : Int)) := by
        unfold Hid
        have h := H53.out
        have h1 := HE.out
        have e1 : (e + 1 + 1075) * 4503599627370496 = (((E + 2) * 4503599627370496 : Nat) : Int) := by omega
        have e2 : IntKind.u64.wrap ((q : Int) / 2 - 4503599627370496) = ((0 : Nat) : Int) := by rw [E64.out]; omega
        rw [e1, e2, or52 0 (E + 2) (by omega) (by omega)]
        omega
      go_enter Tryd.func57, Tryd.ntmps57
      go_wp2_with fail
      go_ret2
      refine ⟨?_, rfl⟩
      rw [HF.out.1, HF.out.2, ← HR.out]; rfl
  · have b1 : ((q : Int) == 9007199254740992) = false := by rw [beq_eq_false_iff_ne]; omega
    have hq1 : q < 9007199254740992 := by omega
    have HQ1 := Lib.hid hq1
    clear h53 hq hq1
    by_cases h52 : q < 4503599627370496
    · have b2 : decide ((q : Int) < 4503599627370496) = true := decide_eq_true (by omega)
      have HF : Hid (decide (E * 4503599627370496 + q < LIM) = true ∧ packV (E * 4503599627370496 + q) = q) := by
        have h0 : E = 0 := by omega
        have hn : E * 4503599627370496 + q < LIM := by unfold LIM; omega
        exact ⟨decide_eq_true hn, by unfold packV; rw [if_pos hn, h0, Nat.zero_mul, Nat.zero_add]⟩
      clear h52 hlo
      go_enter Tryd.func57, Tryd.ntmps57
      go_wp2_with fail
      go_ret2
      refine ⟨?_, rfl⟩
      rw [HF.out.1, HF.out.2]; rfl
    · have b2 : decide ((q : Int) < 4503599627370496) = false := decide_eq_false (by omega)
      have H52 := Lib.hid h52
      clear h52 hlo
      by_cases h971 : 971 < e
      · have b3 : decide (971 < e) = true := decide_eq_true h971
        have HF : Hid (decide (E * 4503599627370496 + q < LIM) = false ∧ packV (E * 4503599627370496 + q) = 0) := by
          have h := H52.out
          have hn : ¬ E * 4503599627370496 + q < LIM := by unfold LIM; have := HE.out; omega
          exact ⟨decide_eq_false hn, by unfold packV; rw [if_neg hn]⟩
        go_enter Tryd.func57, Tryd.ntmps57
        go_wp2_with fail
        go_ret2
        refine ⟨?_, rfl⟩
        rw [HF.out.1, HF.out.2]; rfl
      · have b3 : decide (971 < e) = false := decide_eq_false h971
        have HF : Hid (decide (E * 4503599627370496 + q < LIM) = true ∧ packV (E * 4503599627370496 + q) = E * 4503599627370496 + q) := by
          have h := HQ1.out
          have hn : E * 4503599627370496 + q < LIM := by unfold LIM; have := HE.out; omega
          exact ⟨decide_eq_true hn, by unfold packV; rw [if_pos hn]⟩
        have HR : Hid (bits .or .u64 ((e + 1075) * 4503599627370496) (IntKind.u64.wrap ((q : Int) - 4503599627370496)) = ((E * 4503599627370496 + q : Nat) : Int)) := by
          unfold Hid
          have h := HQ1.out
          have h0 := H52.out
          have h1 := HE.out
          have e1 : (e + 1075) * 4503599627370496 = (((E + 1) * 4503599627370496 : Nat) : Int) := by omega
          have e2 : IntKind.u64.wrap ((q : Int) - 4503599627370496) = ((q - 4503599627370496 : Nat) : Int) := by rw [E64.out]; omega
          rw [e1, e2, or52 (q - 4503599627370496) (E + 1) (by omega) (by omega)]
          omega
        go_enter Tryd.func57, Tryd.ntmps57
        go_wp2_with fail
        go_ret2
        refine ⟨?_, rfl⟩
        rw [HF.out.1, HF.out.2, ← HR.out]; rfl
end Go.Proofs.YtddolmkmijkpiaaDoor
