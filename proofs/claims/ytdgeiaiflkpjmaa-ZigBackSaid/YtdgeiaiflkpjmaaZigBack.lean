/- ZigBack: for all four numbers the law returns true and leaves memory as it was. No condition. -/
import Derived.Test.YtdgeiaiflkpjmaaZigBegun
import Derived.Deep.QuietTactic
import Derived.BigQuiet
namespace Go.Proofs.Ytdgeiaiflkpjmaa
open Go.RowKit

theorem zigI_b (v m : Int) (h1 : -m ≤ v) (h2 : v < m) : 0 ≤ zigI v ∧ zigI v < 2 * m := by unfold zigI; split <;> omega
theorem zagI_b (n m : Int) (h1 : 0 ≤ n) (h2 : n < 2 * m) : -m ≤ zagI n ∧ zagI n < m := by unfold zagI; split <;> omega

set_option maxHeartbeats 1600000 in
theorem ZigBack_walk (a b c d : Int) (w : World) (ha1 : -2147483648 ≤ a) (ha2 : a ≤ 2147483647) (hb1 : 0 ≤ b) (hb2 : b ≤ 4294967295) (hc1 : -9223372036854775808 ≤ c) (hc2 : c ≤ 9223372036854775807) (hd1 : 0 ≤ d) (hd2 : d ≤ 18446744073709551615) :
    Calls Try.prog 4 #[.int .i32 a, .int .u32 b, .int .i64 c, .int .u64 d] w fun e w' => e = .returned (.bool true) ∧ Below w.heap.size w w' := by
  have A := zigI_b a 2147483648 (by omega) (by omega)
  have B := zagI_b b 2147483648 (by omega) (by omega)
  have C := zigI_b c 9223372036854775808 (by omega) (by omega)
  have D := zagI_b d 9223372036854775808 (by omega) (by omega)
  have e1 : (zagI (zigI a) == a) = true := by rw [zag_zig]; simp
  have e2 : (zigI (zagI b) == b) = true := by rw [zig_zag _ hb1]; simp
  have e3 : (zagI (zigI c) == c) = true := by rw [zag_zig]; simp
  have e4 : (zigI (zagI d) == d) = true := by rw [zig_zag _ hd1]; simp
  have e5 : (zigI a == zigI a) = true := by simp
  have hs : -1000 ≤ a → a ≤ 1000 → decide (zigI a ≤ 2001) = true := fun h1 h2 => by
    have := zigI_b a 1001 (by omega) (by omega)
    exact decide_eq_true (by omega)
  go_enter Try.func4, Try.ntmps4
  go_wp2_with fail
  refine (zbegun_any _).mono ?_; rintro e w0 ⟨rfl, hb0⟩
  by_cases g1 : a < -1000
  · have f1 : decide (a < -1000) = true := decide_eq_true g1
    clear hs
    go_wp2_with fail
    refine (zig32_any a _ ha1 ha2).mono ?_; rintro e w' ⟨rfl, rfl⟩
    go_wp2_with fail
    refine (zag32_any (zigI a) _ A.1 (by omega)).mono ?_; rintro e w' ⟨rfl, rfl⟩
    go_wp2_with fail
    refine (zag32_any b _ hb1 hb2).mono ?_; rintro e w' ⟨rfl, rfl⟩
    go_wp2_with fail
    refine (zig32_any (zagI b) _ B.1 (by omega)).mono ?_; rintro e w' ⟨rfl, rfl⟩
    go_wp2_with fail
    refine (zig64_any c _ hc1 hc2).mono ?_; rintro e w' ⟨rfl, rfl⟩
    go_wp2_with fail
    refine (zag64_any (zigI c) _ C.1 (by omega)).mono ?_; rintro e w' ⟨rfl, rfl⟩
    go_wp2_with fail
    refine (zag64_any d _ hd1 hd2).mono ?_; rintro e w' ⟨rfl, rfl⟩
    go_wp2_with fail
    refine (zig64_any (zagI d) _ D.1 (by omega)).mono ?_; rintro e w' ⟨rfl, rfl⟩
    go_wp2_with fail
    refine (zig64_any a _ (by omega) (by omega)).mono ?_; rintro e w' ⟨rfl, rfl⟩
    go_wp2_with fail
    refine (zig32_any a _ ha1 ha2).mono ?_; rintro e w' ⟨rfl, rfl⟩
    go_wp2_with fail
    go_ret
    exact ⟨rfl, hb0⟩
  · have f1 : decide (a < -1000) = false := decide_eq_false g1
    by_cases g2 : 1000 < a
    · have f2 : decide (1000 < a) = true := decide_eq_true g2
      clear hs
      go_wp2_with fail
      refine (zig32_any a _ ha1 ha2).mono ?_; rintro e w' ⟨rfl, rfl⟩
      go_wp2_with fail
      refine (zag32_any (zigI a) _ A.1 (by omega)).mono ?_; rintro e w' ⟨rfl, rfl⟩
      go_wp2_with fail
      refine (zag32_any b _ hb1 hb2).mono ?_; rintro e w' ⟨rfl, rfl⟩
      go_wp2_with fail
      refine (zig32_any (zagI b) _ B.1 (by omega)).mono ?_; rintro e w' ⟨rfl, rfl⟩
      go_wp2_with fail
      refine (zig64_any c _ hc1 hc2).mono ?_; rintro e w' ⟨rfl, rfl⟩
      go_wp2_with fail
      refine (zag64_any (zigI c) _ C.1 (by omega)).mono ?_; rintro e w' ⟨rfl, rfl⟩
      go_wp2_with fail
      refine (zag64_any d _ hd1 hd2).mono ?_; rintro e w' ⟨rfl, rfl⟩
      go_wp2_with fail
      refine (zig64_any (zagI d) _ D.1 (by omega)).mono ?_; rintro e w' ⟨rfl, rfl⟩
      go_wp2_with fail
      refine (zig64_any a _ (by omega) (by omega)).mono ?_; rintro e w' ⟨rfl, rfl⟩
      go_wp2_with fail
      refine (zig32_any a _ ha1 ha2).mono ?_; rintro e w' ⟨rfl, rfl⟩
      go_wp2_with fail
      go_ret
      exact ⟨rfl, hb0⟩
    · have f2 : decide (1000 < a) = false := decide_eq_false g2
      have f3 := hs (by omega) (by omega)
      clear hs
      go_wp2_with fail
      refine (zig32_any a _ ha1 ha2).mono ?_; rintro e w' ⟨rfl, rfl⟩
      go_wp2_with fail
      refine (zig32_any a _ ha1 ha2).mono ?_; rintro e w' ⟨rfl, rfl⟩
      go_wp2_with fail
      refine (zag32_any (zigI a) _ A.1 (by omega)).mono ?_; rintro e w' ⟨rfl, rfl⟩
      go_wp2_with fail
      refine (zag32_any b _ hb1 hb2).mono ?_; rintro e w' ⟨rfl, rfl⟩
      go_wp2_with fail
      refine (zig32_any (zagI b) _ B.1 (by omega)).mono ?_; rintro e w' ⟨rfl, rfl⟩
      go_wp2_with fail
      refine (zig64_any c _ hc1 hc2).mono ?_; rintro e w' ⟨rfl, rfl⟩
      go_wp2_with fail
      refine (zag64_any (zigI c) _ C.1 (by omega)).mono ?_; rintro e w' ⟨rfl, rfl⟩
      go_wp2_with fail
      refine (zag64_any d _ hd1 hd2).mono ?_; rintro e w' ⟨rfl, rfl⟩
      go_wp2_with fail
      refine (zig64_any (zagI d) _ D.1 (by omega)).mono ?_; rintro e w' ⟨rfl, rfl⟩
      go_wp2_with fail
      refine (zig64_any a _ (by omega) (by omega)).mono ?_; rintro e w' ⟨rfl, rfl⟩
      go_wp2_with fail
      refine (zig32_any a _ ha1 ha2).mono ?_; rintro e w' ⟨rfl, rfl⟩
      go_wp2_with fail
      go_ret
      exact ⟨rfl, hb0⟩
end Go.Proofs.Ytdgeiaiflkpjmaa
