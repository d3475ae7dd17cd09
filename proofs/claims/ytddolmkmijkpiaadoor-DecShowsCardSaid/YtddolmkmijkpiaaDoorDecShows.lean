/- DecShows: for every number the law returns true and leaves memory as it was. No condition. -/
import Derived.Test.YtddolmkmijkpiaaDoorDecG
import Derived.Test.YtddolmkmijkpiaaDoorRefS
namespace Go.Proofs.YtddolmkmijkpiaaDoor
open Go.RowKit

set_option maxRecDepth 100000 in
set_option maxHeartbeats 1600000 in
theorem DecShows_walk (a n : Int) (w : World) (ht : Tab w) (ha1 : 0 ≤ a) (ha2 : a ≤ 18446744073709551615) (hn1 : -9223372036854775808 ≤ n) (hn2 : n ≤ 9223372036854775807) :
    Calls Tryd.prog 4 #[.int .u64 a, .int .i64 n] w fun e w' => e = .returned (.bool true) ∧ Below w.heap.size w w' := by
  obtain ⟨B, rfl⟩ := Int.eq_ofNat_of_zero_le ha1
  have HB : Hid (B < 18446744073709551616) := by unfold Hid; omega
  obtain ⟨I, HI⟩ : ∃ I, Hid (intS n = I) := ⟨_, rfl⟩
  have HN : Hid (-9223372036854775808 ≤ n ∧ n ≤ 9223372036854775807) := ⟨hn1, hn2⟩
  have HT := Lib.hid ht
  clear hn1 hn2 ht
  go_enter Tryd.func4, Tryd.ntmps4
  go_wp2_with fail
  refine (dbegun_any _ HT.out).mono ?_; rintro e w0 ⟨rfl, hb⟩
  go_wp2_with fail
  refine (show_any B _ HB.out (HT.out.nx hb)).mono ?_; rintro e w1 ⟨t1, l1, rfl, ht1, hs1, hw1⟩
  go_wp2_with fail
  refine (refShow_any B _ HB.out).mono ?_; rintro e w2 ⟨t2, l2, rfl, ht2, hs2, hw2⟩
  obtain rfl : t2 = t1 := by rw [ht2.out.eq, ht1.out.eq, showR_one hs1.out hs2.out]
  go_wp2_with fail
  refine (int_any n _ HN.out.1 HN.out.2).mono ?_; rintro e w3 ⟨rfl, hw3⟩
  rw [HI.out]
  go_wp2_with fail
  refine (refInt_any n _ HN.out.1 HN.out.2).mono ?_; rintro e w4 ⟨rfl, hw4⟩
  rw [HI.out]
  go_wp2_with fail
  go_ret
  exact ⟨rfl, Nx.trans (Nx.trans (Nx.trans (Nx.trans hb hw1) hw2) hw3) hw4⟩
end Go.Proofs.YtddolmkmijkpiaaDoor
