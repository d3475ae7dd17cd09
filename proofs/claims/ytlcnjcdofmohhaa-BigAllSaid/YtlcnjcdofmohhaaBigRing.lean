/- BigRing: for all slices the law returns true and leaves memory as it was. No condition. -/
import Derived.Test.YtlcnjcdofmohhaaBigTens
namespace Go.Proofs.Ytlcnjcdofmohhaa
open Go.RowKit

theorem b8 {n K : Nat} (k : Nat) (h : n < 4294967296 ^ k) (hk : k ≤ K) : n < 4294967296 ^ K := Nat.lt_of_lt_of_le h (Nat.pow_le_pow_right (by decide) hk)
theorem bmul {m n : Nat} (j k : Nat) (h : m < 4294967296 ^ j) (g : n < 4294967296 ^ k) : m * n < 4294967296 ^ (j + k) := by
  rw [Nat.pow_add]
  exact Nat.mul_lt_mul'' h g
theorem badd {m n : Nat} (j : Nat) (h : m < 4294967296 ^ j) (g : n < 4294967296 ^ j) : m + n < 4294967296 ^ (j + 1) := by
  rw [Nat.pow_succ]; omega

set_option maxRecDepth 100000 in
set_option maxHeartbeats 3200000 in
theorem BigRing_walk (A : Option Addr) (xs : List UInt32) (c : Nat) (B : Option Addr) (ys : List UInt32) (d : Nat) (C : Option Addr) (zs : List UInt32) (e : Nat) (w : World)
    (hr : Rd uv w A xs) (hc : xs.length ≤ c) (hm : c ≤ maxLen) (hs : Rd uv w B ys) (hd : ys.length ≤ d) (hm2 : d ≤ maxLen) (ht : Rd uv w C zs) (he : zs.length ≤ e) (hm3 : e ≤ maxLen) :
    Calls Try.prog 5 #[.slice A xs.length c, .slice B ys.length d, .slice C zs.length e] w fun e w' => e = .returned (.bool true) ∧ Below w.heap.size w w' := by
  by_cases hlong : 8 < xs.length ∨ 8 < ys.length ∨ 8 < zs.length
  · go_enter Try.func5, Try.ntmps5
    go_wp2_with fail
    refine (bbegun_any _).mono ?_; rintro e w0 ⟨rfl, hb⟩
    by_cases h1 : 8 < xs.length
    · have g1 : decide (8 < (xs.length : Int)) = true := decide_eq_true (by omega)
      go_wp2_with fail
      go_ret
      exact ⟨rfl, hb⟩
    · have g1 : decide (8 < (xs.length : Int)) = false := decide_eq_false (by omega)
      by_cases h2 : 8 < ys.length
      · have g2 : decide (8 < (ys.length : Int)) = true := decide_eq_true (by omega)
        go_wp2_with fail
        go_ret
        exact ⟨rfl, hb⟩
      · have g2 : decide (8 < (ys.length : Int)) = false := decide_eq_false (by omega)
        have g3 : decide (8 < (zs.length : Int)) = true := decide_eq_true (by omega)
        go_wp2_with fail
        go_ret
        exact ⟨rfl, hb⟩
  · have g1 : decide (8 < (xs.length : Int)) = false := decide_eq_false (by omega)
    have g2 : decide (8 < (ys.length : Int)) = false := decide_eq_false (by omega)
    have g3 : decide (8 < (zs.length : Int)) = false := decide_eq_false (by omega)
    have hX : Num w (.slice A xs.length c) (val xs) 30 := Num.of hr hc hm (by omega)
    have hY : Num w (.slice B ys.length d) (val ys) 30 := Num.of hs hd hm2 (by omega)
    have hZ : Num w (.slice C zs.length e) (val zs) 30 := Num.of ht he hm3 (by omega)
    have lx : val xs < 4294967296 ^ 8 := b8 _ (val_lt xs) (by omega)
    have ly : val ys < 4294967296 ^ 8 := b8 _ (val_lt ys) (by omega)
    have lz : val zs < 4294967296 ^ 8 := b8 _ (val_lt zs) (by omega)
    obtain ⟨X, HX⟩ : ∃ X, Hid (val xs = X) := ⟨_, rfl⟩
    obtain ⟨Y, HY⟩ : ∃ Y, Hid (val ys = Y) := ⟨_, rfl⟩
    obtain ⟨Z, HZ⟩ : ∃ Z, Hid (val zs = Z) := ⟨_, rfl⟩
    rw [HX.out] at hX lx
    rw [HY.out] at hY ly
    rw [HZ.out] at hZ lz
    have LX := Lib.hid lx
    have LY := Lib.hid ly
    have LZ := Lib.hid lz
    obtain ⟨vx, hvx⟩ : ∃ v, v = Value.slice A xs.length c := ⟨_, rfl⟩
    obtain ⟨vy, hvy⟩ : ∃ v, v = Value.slice B ys.length d := ⟨_, rfl⟩
    obtain ⟨vz, hvz⟩ : ∃ v, v = Value.slice C zs.length e := ⟨_, rfl⟩
    have HVX := Lib.hid hvx
    have HVY := Lib.hid hvy
    have HVZ := Lib.hid hvz
    clear hlong lx ly lz hvx hvy hvz
    go_enter Try.func5, Try.ntmps5
    go_wp2_with fail
    refine (bbegun_any _).mono ?_; rintro e w0 ⟨rfl, hb⟩
    go_upto_region 5 with (fail)
    have hX := hX.below hb
    have hY := hY.below hb
    have hZ := hZ.below hb
    have k1 : (30 : Nat) ≤ 30 := Nat.le_refl _
    go_wp2_with fail
    refine (add_n _ _ Y Z 30 _ hY hZ (by decide)).mono ?_; rintro e w1 ⟨v1, rfl, hn1, hb1⟩
    have hb := nx hb hb1
    have hX := hX.below hb1
    have hY := hY.below hb1
    have hZ := hZ.below hb1
    have L1 := Lib.hid (badd 8 LY.out LZ.out)
    go_wp2_with fail
    refine (mul_n _ v1 X (Y + Z) 30 _ hX (hn1.num (b8 9 L1.out (by decide))) (by decide)).mono ?_; rintro e w2 ⟨v2, rfl, hn2, hb2⟩
    have hb := nx hb hb2
    have hX := hX.below hb2
    have hY := hY.below hb2
    have hZ := hZ.below hb2
    have L2 := Lib.hid (bmul 8 9 LX.out L1.out)
    go_wp2_with fail
    refine (mul_n _ _ X Y 30 _ hX hY (by decide)).mono ?_; rintro e w3 ⟨v3, rfl, hn3, hb3⟩
    have hb := nx hb hb3
    have hn2 := hn2.below hb3
    have hX := hX.below hb3
    have hY := hY.below hb3
    have hZ := hZ.below hb3
    have L3 := Lib.hid (bmul 8 8 LX.out LY.out)
    go_wp2_with fail
    refine (mul_n _ _ X Z 30 _ hX hZ (by decide)).mono ?_; rintro e w4 ⟨v4, rfl, hn4, hb4⟩
    have hb := nx hb hb4
    have hn2 := hn2.below hb4
    have hn3 := hn3.below hb4
    have hX := hX.below hb4
    have hY := hY.below hb4
    have hZ := hZ.below hb4
    have L4 := Lib.hid (bmul 8 8 LX.out LZ.out)
    go_wp2_with fail
    refine (add_n v3 v4 (X * Y) (X * Z) 30 _ (hn3.num (b8 16 L3.out (by decide))) (hn4.num (b8 16 L4.out (by decide))) (by decide)).mono ?_; rintro e w5 ⟨v5, rfl, hn5, hb5⟩
    have hb := nx hb hb5
    have hn2 := hn2.below hb5
    have hX := hX.below hb5
    have hY := hY.below hb5
    have hZ := hZ.below hb5
    have hn5 := hn5.cast (Nat.mul_add X Y Z).symm
    go_wp2_with fail
    refine (add_n _ _ X Y 30 _ hX hY (by decide)).mono ?_; rintro e w6 ⟨v6, rfl, hn6, hb6⟩
    have hb := nx hb hb6
    have hn2 := hn2.below hb6
    have hn5 := hn5.below hb6
    have hX := hX.below hb6
    have hY := hY.below hb6
    have hZ := hZ.below hb6
    have L6 := Lib.hid (badd 8 LX.out LY.out)
    go_wp2_with fail
    refine (sub_n v6 _ (X + Y) Y 30 _ (hn6.num (b8 9 L6.out (by decide))) hY (by decide)).mono ?_; rintro e w7 ⟨v7, is, rfl, hsub, hb7⟩
    unfold SubN at hsub
    rw [if_neg (by omega), Nat.add_sub_cancel] at hsub
    obtain ⟨hn7, rfl⟩ := hsub
    have hb := nx hb hb7
    have hn2 := hn2.below hb7
    have hn5 := hn5.below hb7
    have hX := hX.below hb7
    have hY := hY.below hb7
    have hZ := hZ.below hb7
    go_wp2_with fail
    refine (cmp_n v2 v5 _ _ 30 _ (hn2.num (b8 17 L2.out (by decide))) (hn5.num (b8 17 L2.out (by decide))) (by decide)).mono ?_; rintro e w8 ⟨rfl, hb8⟩
    rw [cmpI_same]
    have hb := nx hb hb8
    have hn7 := hn7.below hb8
    have hX := hX.below hb8
    have hY := hY.below hb8
    have hZ := hZ.below hb8
    go_wp2_with fail
    refine (cmp_n v7 _ X X 30 _ (hn7.num (b8 8 LX.out (by decide))) hX (by decide)).mono ?_; rintro e w9 ⟨rfl, hb9⟩
    rw [cmpI_same]
    have hb := nx hb hb9
    have hX := hX.below hb9
    have hY := hY.below hb9
    have hZ := hZ.below hb9
    go_wp2_with fail
    refine (mul_n _ _ X Y 30 _ hX hY (by decide)).mono ?_; rintro e w10 ⟨v10, rfl, hn10, hb10⟩
    have hb := nx hb hb10
    have hX := hX.below hb10
    have hY := hY.below hb10
    have hZ := hZ.below hb10
    go_wp2_with fail
    refine (mul_n _ _ Y X 30 _ hY hX (by decide)).mono ?_; rintro e w11 ⟨v11, rfl, hn11, hb11⟩
    have hb := nx hb hb11
    have hn10 := hn10.below hb11
    have hX := hX.below hb11
    have hY := hY.below hb11
    have hZ := hZ.below hb11
    have hn11 := hn11.cast (Nat.mul_comm Y X)
    go_wp2_with fail
    refine (cmp_n v10 v11 _ _ 30 _ (hn10.num (b8 16 L3.out (by decide))) (hn11.num (b8 16 L3.out (by decide))) (by decide)).mono ?_; rintro e w12 ⟨rfl, hb12⟩
    rw [cmpI_same]
    have hb := nx hb hb12
    have hX := hX.below hb12
    have hY := hY.below hb12
    have hZ := hZ.below hb12
    go_wp2_with fail
    refine (mul_n _ _ X Y 30 _ hX hY (by decide)).mono ?_; rintro e w13 ⟨v13, rfl, hn13, hb13⟩
    have hb := nx hb hb13
    have hX := hX.below hb13
    have hY := hY.below hb13
    have hZ := hZ.below hb13
    go_wp2_with fail
    refine (mul_n v13 _ (X * Y) Z 30 _ (hn13.num (b8 16 L3.out (by decide))) hZ (by decide)).mono ?_; rintro e w14 ⟨v14, rfl, hn14, hb14⟩
    have hb := nx hb hb14
    have hX := hX.below hb14
    have hY := hY.below hb14
    have hZ := hZ.below hb14
    have L14 := Lib.hid (bmul 16 8 L3.out LZ.out)
    go_wp2_with fail
    refine (mul_n _ _ Y Z 30 _ hY hZ (by decide)).mono ?_; rintro e w15 ⟨v15, rfl, hn15, hb15⟩
    have hb := nx hb hb15
    have hn14 := hn14.below hb15
    have hX := hX.below hb15
    have L15 := Lib.hid (bmul 8 8 LY.out LZ.out)
    go_wp2_with fail
    refine (mul_n _ v15 X (Y * Z) 30 _ hX (hn15.num (b8 16 L15.out (by decide))) (by decide)).mono ?_; rintro e w16 ⟨v16, rfl, hn16, hb16⟩
    have hb := nx hb hb16
    have hn14 := hn14.below hb16
    have hn16 := hn16.cast (Nat.mul_assoc X Y Z).symm
    go_wp2_with fail
    refine (cmp_n v14 v16 _ _ 30 _ (hn14.num (b8 24 L14.out (by decide))) (hn16.num (b8 24 L14.out (by decide))) (by decide)).mono ?_; rintro e w17 ⟨rfl, hb17⟩
    rw [cmpI_same]
    have hb := nx hb hb17
    go_wp2_with fail
    go_ret
    exact ⟨rfl, hb⟩
end Go.Proofs.Ytlcnjcdofmohhaa
