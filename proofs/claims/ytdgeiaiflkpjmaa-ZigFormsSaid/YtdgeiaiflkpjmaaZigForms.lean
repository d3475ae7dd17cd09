/- ZigForms: the law returns true and leaves memory as it was. No condition. -/
import Derived.Test.YtdgeiaiflkpjmaaZigBegun
namespace Go.Proofs.Ytdgeiaiflkpjmaa
open Go.RowKit

theorem take_is (A : Option Addr) (xs : List UInt8) (c bits v n er : Nat) (w : World) (hr : Rd bv w A xs) (hc : xs.length ≤ c) (hm : c ≤ maxLen) (hl : (xs.length : Int) ≤ 1000000) (hb1 : 1 ≤ bits) (hb2 : bits ≤ 64) (h : takeVarS bits xs = (v, n, er)) :
    Calls Try.prog 10 #[.slice A xs.length c, .int .i64 bits] w fun e w' => e = .returned (.tuple #[.int .u64 v, .int .i64 n, .int .i64 er]) ∧ w = w' := by
  refine (take_any A xs c bits w hr hc hm hl hb1 hb2).mono ?_
  rintro e w' ⟨v', n', er', rfl, rfl, H⟩
  have := H.out
  rw [h] at this
  obtain ⟨rfl, rfl, rfl⟩ : v' = v ∧ n' = n ∧ er' = er := by simpa using this
  exact ⟨rfl, rfl⟩

set_option maxHeartbeats 1600000 in
theorem ZigForms_walk (w : World) :
    Calls Try.prog 6 #[] w fun e w' => e = .returned (.bool true) ∧ Below w.heap.size w w' := by
  go_enter Try.func6, Try.ntmps6
  go_wp2_with fail
  refine (zbegun_any _).mono ?_; rintro e w0 ⟨rfl, hb0⟩
  go_wp2_with fail
  refine (take_is _ [255, 255, 255, 255, 16] 5 32 0 0 4 _ (Rd.lits [255, 255, 255, 255, 16] (by simp)) (by decide) (by decide) (by decide) (by decide) (by decide) (by decide)).mono ?_; rintro e w' ⟨rfl, rfl⟩
  go_wp2_with fail
  refine (take_is _ [255, 255, 255, 255, 15] 5 32 4294967295 5 0 _ (Rd.lits [255, 255, 255, 255, 15] (by simp)) (by decide) (by decide) (by decide) (by decide) (by decide) (by decide)).mono ?_; rintro e w' ⟨rfl, rfl⟩
  go_wp2_with fail
  refine (take_is _ [128, 128, 128, 128, 128] 5 32 0 0 4 _ (Rd.lits [128, 128, 128, 128, 128] (by simp)) (by decide) (by decide) (by decide) (by decide) (by decide) (by decide)).mono ?_; rintro e w' ⟨rfl, rfl⟩
  go_wp2_with fail
  refine (take_is _ [128, 128, 0] 3 32 0 3 0 _ (Rd.lits [128, 128, 0] (by simp)) (by decide) (by decide) (by decide) (by decide) (by decide) (by decide)).mono ?_; rintro e w' ⟨rfl, rfl⟩
  go_wp2_with fail
  refine (take_is _ [128] 1 7 0 0 4 _ (Rd.lits [128] (by simp)) (by decide) (by decide) (by decide) (by decide) (by decide) (by decide)).mono ?_; rintro e w' ⟨rfl, rfl⟩
  go_wp2_with fail
  refine (take_is none [] 0 64 0 0 3 _ Rd.nil (by decide) (by decide) (by decide) (by decide) (by decide) (by decide)).mono ?_; rintro e w' ⟨rfl, rfl⟩
  go_wp2_with fail
  refine (take_arg _ [0] 1 0 _ (by decide)).mono ?_; rintro e w' ⟨rfl, rfl⟩
  go_wp2_with fail
  refine (take_arg _ [0] 1 65 _ (by decide)).mono ?_; rintro e w' ⟨rfl, rfl⟩
  go_wp2_with fail
  refine (take_is _ [2] 1 1 0 0 4 _ (Rd.lits [2] (by simp)) (by decide) (by decide) (by decide) (by decide) (by decide) (by decide)).mono ?_; rintro e w' ⟨rfl, rfl⟩
  go_wp2_with fail
  refine (zig32_any (-2147483648) _ (by decide) (by decide)).mono ?_; rintro e w' ⟨rfl, rfl⟩
  rw [show zigI (-2147483648) = 4294967295 from by decide]
  go_wp2_with fail
  refine (zig64_any (-9223372036854775808) _ (by decide) (by decide)).mono ?_; rintro e w' ⟨rfl, rfl⟩
  rw [show zigI (-9223372036854775808) = 18446744073709551615 from by decide]
  go_wp2_with fail
  go_ret
  exact ⟨rfl, nx (nx (nx (nx (nx (nx (nx (nx (nx hb0 (nx0 _ _)) (nx0 _ _)) (nx0 _ _)) (nx0 _ _)) (nx0 _ _)) (nx0 _ _)) (nx0 _ _)) (nx0 _ _)) (Below.refl _ _)⟩
end Go.Proofs.Ytdgeiaiflkpjmaa
