/- The laws' own first question: does dec do anything yet? -/
import Derived.Test.YtddolmkmijkpiaaDoorDecY
import Derived.Test.YtddolmkmijkpiaaDoorDecS
namespace Go.Proofs.YtddolmkmijkpiaaDoor
open Go.RowKit

theorem ge10_one {x y : Nat} {T S : Int} (h1 : GE10 x y T) (h2 : ¬ GE10 x y (T + 1)) (k1 : GE10 x y S) (k2 : ¬ GE10 x y (S + 1)) : T = S := by
  rcases Int.lt_trichotomy T S with h | h | h
  · exact absurd (ge10_mono k1 (show T + 1 ≤ S by omega)) h2
  · exact h
  · exact absurd (ge10_mono h1 (show S + 1 ≤ T by omega)) k2
theorem showR_one {B : Nat} {l m : List UInt8} (h : ShowR B l) (k : ShowR B m) : l = m := by
  unfold ShowR at h k
  split at h
  · rename_i h1
    rw [if_pos h1] at k
    rw [h, k]
  · rename_i h1
    rw [if_neg h1] at k
    split at h
    · rename_i h2
      rw [if_pos h2] at k
      rw [h, k]
    · rename_i h2
      rw [if_neg h2] at k
      obtain ⟨T, a1, a2, a3⟩ := h
      obtain ⟨S, b1, b2, b3⟩ := k
      obtain rfl := ge10_one a1 a2 b1 b2
      rw [a3, b3]
theorem showR_of (B : Nat) (T : Int) (D : Nat) (l : List UInt8) (h1 : B % 9223372036854775808 < LIM) (h2 : B % 9223372036854775808 ≠ 0)
    (h3 : GE10 (exX (B % 9223372036854775808)) (exY (B % 9223372036854775808)) T) (h4 : ¬ GE10 (exX (B % 9223372036854775808)) (exY (B % 9223372036854775808)) (T + 1))
    (h5 : digN (exX (B % 9223372036854775808)) (exY (B % 9223372036854775808)) T = D) (h6 : sgS B ++ showD T D = l) : ShowR B l := by
  unfold ShowR
  rw [if_neg (by omega), if_neg h2]
  exact ⟨T, h3, h4, by rw [h5, h6]⟩
theorem decF_small (f n : Nat) (h : n < 10 ^ (f + 1)) : decF f n = decS n := by
  induction f generalizing n with
  | zero => rw [decS_small n (by simpa using h)]; rfl
  | succ f ih =>
    unfold decF
    by_cases h1 : n < 10
    · rw [if_pos h1, decS_small n h1]
    · rw [if_neg h1, decS_step n (by omega), ih (n / 10) (by rw [Nat.pow_succ] at h; omega)]
theorem show1 : ShowR 4607182418800017408 [49, 46, 48, 101, 48] := by
  refine showR_of _ 0 10000000000000000 _ (by decide +kernel) (by decide) (by unfold GE10; decide +kernel) (by unfold GE10; decide +kernel) (by decide +kernel) ?_
  unfold showD
  rw [← decF_small 20 10000000000000000 (by decide)]
  decide +kernel
theorem parse01 : parseS [48, 46, 49] = (4591870180066957722, 0) := by decide +kernel
theorem parseDot : parseS [46] = (0, 2) := by decide +kernel
theorem int1 : intS 1 = 4607182418800017408 := by decide +kernel

set_option maxRecDepth 100000 in
set_option maxHeartbeats 1600000 in
theorem dbegun_any (w : World) (ht : Tab w) : Calls Tryd.prog 12 #[] w fun e w' => e = .returned (.bool true) ∧ Nx w w' := by
  have p1 := Lib.hid parse01
  have p2 := Lib.hid parseDot
  have i1 := Lib.hid int1
  go_enter Tryd.func12, Tryd.ntmps12
  go_wp2_with fail
  refine (parse_any ⟨#[48, 46, 49]⟩ [48, 46, 49] _ rfl (by decide)).mono ?_; rintro e w1 ⟨rfl, hw1⟩
  rw [p1.out]
  go_wp2_with fail
  refine (parse_any ⟨#[46]⟩ [46] _ rfl (by decide)).mono ?_; rintro e w2 ⟨rfl, hw2⟩
  rw [p2.out]
  have hN2 := Nx.trans hw1 hw2
  go_wp2_with fail
  refine (show_any 4607182418800017408 _ (by decide) (ht.nx hN2)).mono ?_; rintro e w3 ⟨t, l, rfl, hT, hS, hw3⟩
  have hl := showR_one hS.out show1
  subst hl
  have hz := hT.out.toL
  have hN3 := Nx.trans hN2 hw3
  go_wp2_with fail
  refine (int_any 1 _ (by decide) (by decide)).mono ?_; rintro e w4 ⟨rfl, hw4⟩
  rw [i1.out]
  go_wp2_with fail
  go_ret
  exact ⟨rfl, Nx.trans hN3 hw4⟩
end Go.Proofs.YtddolmkmijkpiaaDoor
