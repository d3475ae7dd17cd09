/- The contract of the document's answer for dec: the binary64 nearest to an integer. -/
import Derived.Test.YtddolmkmijkpiaaDoorRefRound
namespace Go.Proofs.YtddolmkmijkpiaaDoor
open Go.RowKit

/-- the binary64 nearest to a natural number, in steps of the least one -/
def nearI (n : Nat) : Nat := near (n * 2 ^ tz) 1
def intS (v : Int) : Nat := (if v < 0 then 9223372036854775808 else 0) + packV (nearI v.natAbs)
theorem intS_nat (n : Nat) : intS (n : Int) = packV (nearI n) := by
  unfold intS; rw [if_neg (by omega), Int.natAbs_natCast, Nat.zero_add]
theorem packV_lt (N : Nat) : packV N < 9223372036854775808 := by
  unfold packV LIM; split <;> omega
theorem or63 (a : Nat) (ha : a < 9223372036854775808) : bits .or .u64 (9223372036854775808 : Int) (a : Int) = ((9223372036854775808 + a : Nat) : Int) := by
  have h1 : (9223372036854775808 : Int) = ((9223372036854775808 : Nat) : Int) := rfl
  rw [h1, bits_or_u64_nat _ a (by omega) (by omega)]
  have := Nat.two_pow_add_eq_or_of_lt (i := 63) (b := a) ha 1
  rw [Nat.mul_one] at this
  rw [show (9223372036854775808 : Nat) = 2 ^ 63 from rfl, ← this]
theorem or0 (a : Nat) (ha : a < 9223372036854775808) : bits .or .u64 (0 : Int) (a : Int) = (a : Int) := by
  have h1 : (0 : Int) = ((0 : Nat) : Int) := rfl
  rw [h1, bits_or_u64_nat _ a (by omega) (by omega), Nat.zero_or]
theorem one_num (w : World) (e : TypeId) : Num (w.alloc (.cells #[.int .u32 1] e)) (.slice (some ⟨w.heap.size, 0, none⟩) 1 1) 1 100 := by
  have h := Rd.litsU (w := w) (e := e) [1] rfl
  exact ⟨_, 1, [1], rfl, h, Nat.le_refl _, by decide, by decide, rfl⟩

theorem refRound_one (v u : Value) (x : Nat) (w : World) (hx : IsNum w v x) (hxK : x < 4294967296 ^ 100) (hy : Num w u 1 100) :
    Calls Tryd.prog 30 #[v, u] w fun r w' => r = .returned (.tuple #[.int .u64 (packV (nearI x) : Nat), .bool (decide (nearI x < LIM))]) ∧ Below w.heap.size w w' :=
  refRound_any v u x 1 w hx hxK hy (by decide)

set_option maxRecDepth 100000 in
set_option maxHeartbeats 1600000 in
theorem refInt_any (v : Int) (w : World) (h1 : -9223372036854775808 ≤ v) (h2 : v ≤ 9223372036854775807) :
    Calls Tryd.prog 18 #[.int .i64 v] w fun e w' => e = .returned (.int .u64 (intS v : Nat)) ∧ Below w.heap.size w w' := by
  by_cases hneg : v < 0
  · obtain ⟨n, hn, hn2, hn3⟩ : ∃ n : Nat, -(v + 1) + 1 = (n : Int) ∧ (n : Int) ≤ 9223372036854775808 ∧ v.natAbs = n := ⟨v.natAbs, by omega, by omega, rfl⟩
    obtain ⟨N, HN⟩ : ∃ N, Hid (nearI n = N) := ⟨_, rfl⟩
    obtain ⟨P, HP⟩ : ∃ P, Hid (packV N = P) := ⟨_, rfl⟩
    have hPl : P < 9223372036854775808 := by rw [← HP.out]; exact packV_lt _
    have HF : Hid (intS v = 9223372036854775808 + P) := by
      unfold Hid intS; rw [if_pos hneg, hn3, HN.out, HP.out]
    have HO := Lib.hid (or63 P hPl)
    have hlim : n < 4294967296 ^ 100 := Nat.lt_of_lt_of_le (show n < 4294967296 ^ 2 by omega) (Nat.pow_le_pow_right (by decide) (by decide))
    have HL := Lib.hid hlim
    clear hn3 hlim
    go_enter Tryd.func18, Tryd.ntmps18
    go_wp2_with fail
    refine (refOf_n n _ (by omega)).mono ?_; rintro e w1 ⟨v1, rfl, hv1, hb1⟩
    go_wp2_with fail
    refine (refRound_one v1 _ n _ (hv1.below (nx0 w1 _)) HL.out (one_num w1 _)).mono ?_; rintro e w2 ⟨rfl, hb2⟩
    rw [HN.out, HP.out]
    have hb := nx (nxa hb1 (.cells #[.int .u32 1] 57)) hb2
    go_wp2_with fail
    go_ret
    refine ⟨?_, hb⟩
    rw [HF.out, ← HO.out]
    rfl
  · obtain ⟨n, rfl⟩ := Int.eq_ofNat_of_zero_le (a := v) (by omega)
    rw [intS_nat]
    obtain ⟨G, HG⟩ : ∃ G : Nat → Nat, Hid (G = nearI) := ⟨_, rfl⟩
    have hG : nearI n = G n := by rw [HG.out]
    rw [hG]
    obtain ⟨P, HP⟩ : ∃ P, Hid (packV (G n) = P) := ⟨_, rfl⟩
    have hPl : P < 9223372036854775808 := by rw [← HP.out]; exact packV_lt _
    have HO := Lib.hid (or0 P hPl)
    have hlim : n < 4294967296 ^ 100 := Nat.lt_of_lt_of_le (show n < 4294967296 ^ 2 by omega) (Nat.pow_le_pow_right (by decide) (by decide))
    have HL := Lib.hid hlim
    rw [HP.out]
    clear hlim hneg hG
    go_enter Tryd.func18, Tryd.ntmps18
    go_wp2_with fail
    refine (refOf_n n _ (by omega)).mono ?_; rintro e w1 ⟨v1, rfl, hv1, hb1⟩
    go_wp2_with fail
    refine (refRound_one v1 _ n _ (hv1.below (nx0 w1 _)) HL.out (one_num w1 _)).mono ?_; rintro e w2 ⟨rfl, hb2⟩
    rw [show nearI n = G n from by rw [HG.out], HP.out]
    have hb := nx (nxa hb1 (.cells #[.int .u32 1] 57)) hb2
    go_wp2_with fail
    go_ret
    refine ⟨?_, hb⟩
    exact congrArg (fun z => Ending.returned (Value.int .u64 z)) HO.out
end Go.Proofs.YtddolmkmijkpiaaDoor
