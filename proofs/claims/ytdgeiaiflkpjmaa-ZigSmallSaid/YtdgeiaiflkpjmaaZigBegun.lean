/- The laws' own first question: does zig do anything? It does. -/
import Derived.Test.YtdgeiaiflkpjmaaZigTake
namespace Go.Proofs.Ytdgeiaiflkpjmaa
open Go.RowKit

set_option maxHeartbeats 800000 in
theorem zbegun_any (w : World) : Calls Try.prog 8 #[] w fun e w' => e = .returned (.bool true) ∧ Below w.heap.size w w' := by
  go_enter Try.func8, Try.ntmps8
  go_wp2_with fail
  refine (take_any _ [128, 1] 2 32 _ (Rd.lits [128, 1] (by simp)) (by decide) (by decide) (by decide) (by decide) (by decide)).mono ?_; rintro e w' ⟨v, n, er, rfl, rfl, HE⟩
  obtain ⟨rfl, rfl, rfl⟩ : v = 128 ∧ n = 2 ∧ er = 0 := by
    have h1 : (v, n, er) = (128, 2, 0) := by rw [HE.out]; decide
    simpa using h1
  clear HE
  go_wp2_with fail
  refine (zig32_any (-1) _ (by decide) (by decide)).mono ?_; rintro e w' ⟨rfl, rfl⟩
  rw [show zigI (-1) = 1 from by decide]
  go_wp2_with fail
  refine (zag32_any 2 _ (by decide) (by decide)).mono ?_; rintro e w' ⟨rfl, rfl⟩
  rw [show zagI 2 = 1 from by decide]
  go_wp2_with fail
  refine (zig64_any (-2) _ (by decide) (by decide)).mono ?_; rintro e w' ⟨rfl, rfl⟩
  rw [show zigI (-2) = 3 from by decide]
  go_wp2_with fail
  refine (zag64_any 3 _ (by decide) (by decide)).mono ?_; rintro e w' ⟨rfl, rfl⟩
  rw [show zagI 3 = -2 from by decide]
  go_wp2_with fail
  refine (put_any none [] 0 128 _ Rd.nil (by decide) (by decide) (by decide) (by decide)).mono ?_; rintro e w1 ⟨v1, rfl, hown1, hbel1⟩
  obtain ⟨A1, c1, rfl, hc1, hm1, hr1⟩ := (hown1.cast (show _ = [128, 1] from by decide)).sl
  clear hown1
  have hstr := fun c => conv_str (P := Try.prog) w1 24 9 5 Try.underlying24 Try.underlying5 Try.underlying9 hr1 c
  simp only [List.length_cons, List.length_nil] at hstr
  go_wp2_with fail
  go_ret
  exact ⟨rfl, nx (nx0 w _) hbel1⟩
end Go.Proofs.Ytdgeiaiflkpjmaa
