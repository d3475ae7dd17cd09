/- DecParses: for every text the law returns true and leaves memory as it was. No condition. -/
import Derived.Test.YtddolmkmijkpiaaDoorDecG
import Derived.Test.YtddolmkmijkpiaaDoorRefP
namespace Go.Proofs.YtddolmkmijkpiaaDoor
open Go.RowKit

set_option maxRecDepth 100000 in
set_option maxHeartbeats 1600000 in
theorem DecParses_walk (s : ByteArray) (w : World) (ht : Tab w) (hs0 : s.size ≤ maxLen) :
    Calls Tryd.prog 3 #[.string s] w fun e w' => e = .returned (.bool true) ∧ Below w.heap.size w w' := by
  have hs : s.size ≤ 9223372036854775807 := by unfold maxLen at hs0; omega
  clear hs0
  by_cases h80 : 80 < s.size
  · have b1 : decide ((80 : Int) < (s.size : Int)) = true := decide_eq_true (by omega)
    go_enter Tryd.func3, Tryd.ntmps3
    go_wp2_with fail
    refine (dbegun_any _ ht).mono ?_; rintro e w0 ⟨rfl, hb⟩
    go_wp2_with fail
    go_ret
    exact ⟨rfl, hb⟩
  · have b1 : decide ((80 : Int) < (s.size : Int)) = false := decide_eq_false (by omega)
    obtain ⟨l, hl⟩ : ∃ l, Hid (Tx s l) := ⟨s.data.toList, rfl⟩
    have hll : (l.length : Int) ≤ 80 := by rw [← hl.out.size]; omega
    obtain ⟨P, HP⟩ : ∃ P, Hid (parseS l = P) := ⟨_, rfl⟩
    obtain ⟨b, e⟩ := P
    clear h80
    go_enter Tryd.func3, Tryd.ntmps3
    go_wp2_with fail
    refine (dbegun_any _ ht).mono ?_; rintro e w0 ⟨rfl, hb⟩
    go_wp2_with fail
    refine (parse_any s l _ hl.out (by omega)).mono ?_; rintro e w1 ⟨rfl, hw1⟩
    rw [HP.out]
    go_wp2_with fail
    refine (refParse_any s l _ hl.out (by omega)).mono ?_; rintro e w2 ⟨rfl, hw2⟩
    rw [HP.out]
    go_wp2_with fail
    go_ret
    exact ⟨rfl, Nx.trans (Nx.trans hb hw1) hw2⟩
end Go.Proofs.YtddolmkmijkpiaaDoor
