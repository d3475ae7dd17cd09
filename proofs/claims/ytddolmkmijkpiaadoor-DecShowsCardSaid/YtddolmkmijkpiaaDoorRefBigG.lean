/- The contracts of the document's answers for big: powers of ten. -/
import Derived.Test.YtddolmkmijkpiaaDoorRefBigD
namespace Go.Proofs.YtddolmkmijkpiaaDoor
open Go.RowKit

set_option maxRecDepth 100000 in
set_option maxHeartbeats 800000 in
theorem refTen_any (n : Nat) (w : World) (hn : n ≤ 20000) :
    Calls Tryd.prog 29 #[.int .i64 n] w fun e w' => ∃ v', e = .returned v' ∧ Own uv 57 w' w.heap.size v' (limbs (10 ^ n)) ∧ Below w.heap.size w w' := by
  have h10 : Hid (limbs 10 = [10]) := rfl
  have h1 : Hid (limbs 1 = [1]) := rfl
  go_enter Tryd.func29, Tryd.ntmps29
  go_wp2_with fail
  go_loopw [3, 4] (fun x i wr => ∃ k : Nat, i = .int .i64 k ∧ k ≤ n ∧ Own uv 57 wr w.heap.size x (limbs (10 ^ k)) ∧ Below w.heap.size w wr) (fun _ i _ => n - (intOf i).toNat)
  case atStart =>
    refine ⟨0, rfl, Nat.zero_le _, ?_, nx0 w _⟩
    rw [Nat.pow_zero, h1.out]
    exact Own.litU [1] rfl (by decide)
  case round =>
    obtain ⟨k, rfl, hk, hown, hbel⟩ := hrel
    by_cases hlt : k < n
    · have hlen : (limbs (10 ^ k)).length ≤ k + 1 := limbs_len _ _ (Nat.lt_of_le_of_lt (Nat.pow_le_pow_left (show 10 ≤ 4294967296 by decide) k) (Nat.pow_lt_pow_right (by decide) (Nat.lt_succ_self k)))
      obtain ⟨A1, c1, xs, rfl, HX, hx1, hx2, hc1, hm1, hr1, -⟩ := hown.name (limbs (10 ^ k)).length rfl
      have hxl : xs.length ≤ 20001 := by omega
      clear hlen hx1 hx2 hown
      have hsz := hbel.size
      go_wp2_with fail
      refine (refMul_any A1 xs c1 (some ⟨wr.heap.size, 0, none⟩) [10] 1 _ (hr1.alloc _) hc1 (by omega) (Rd.litsU [10] rfl) (by decide) (by decide)).mono ?_; rintro e w2 ⟨v2, rfl, hown2, hb2⟩
      go_wp2_with fail
      go_roundw
      case rel =>
        refine ⟨k + 1, by go_num, by omega, (hown2.less (by simp; omega)).cast ?_, nx (nxa hbel _) hb2⟩
        rw [HX.out, val_limbs, Nat.pow_succ]; rfl
      case measure => simp [intOf]; omega
    · obtain rfl : k = n := by omega
      have hlt' : ¬ (k : Int) < k := by omega
      go_wp2_with fail
      go_ret
      exact ⟨_, rfl, hown, hbel⟩

end Go.Proofs.YtddolmkmijkpiaaDoor
