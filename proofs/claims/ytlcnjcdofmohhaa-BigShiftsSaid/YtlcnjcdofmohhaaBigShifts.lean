/- BigShifts: for all slices and bytes the law returns true and leaves memory as it was. No condition. -/
import Derived.Test.YtlcnjcdofmohhaaBigRing
namespace Go.Proofs.Ytlcnjcdofmohhaa
open Go.RowKit

theorem blen_spec (n : Nat) : n < 2 ^ blen n ∧ (blen n = 0 ∨ 2 ^ (blen n - 1) ≤ n) := by
  unfold blen
  by_cases h : n = 0
  · rw [if_pos h]; exact ⟨by omega, .inl rfl⟩
  · rw [if_neg h]
    exact ⟨(Nat.log2_lt h).1 (Nat.lt_succ_self _), .inr (Nat.log2_self_le h)⟩
theorem blen_is (n k : Nat) (h1 : n < 2 ^ k) (h2 : k = 0 ∨ 2 ^ (k - 1) ≤ n) : blen n = k := (bits_unique n k h1 h2).symm
theorem blen_up (X k : Nat) (h : X ≠ 0) : blen (X * 2 ^ k) = blen X + k := by
  have h1 := (blen_spec X).1
  have h2 : 2 ^ (blen X - 1) ≤ X := by
    rcases (blen_spec X).2 with h' | h'
    · rw [h'] at h1; omega
    · exact h'
  have hb : 1 ≤ blen X := by unfold blen; rw [if_neg h]; omega
  refine blen_is _ _ ?_ (.inr ?_)
  · rw [Nat.pow_add]; exact Nat.mul_lt_mul_of_pos_right h1 (Nat.pow_pos (by decide))
  · rw [show blen X + k - 1 = blen X - 1 + k from by omega, Nat.pow_add]; exact Nat.mul_le_mul_right _ h2
theorem blen_down (X k : Nat) : blen (X / 2 ^ k) = blen X - k := by
  have h1 := (blen_spec X).1
  have hp : 0 < 2 ^ k := Nat.pow_pos (by decide)
  rcases Nat.lt_or_ge k (blen X) with hk | hk
  · have h2 : 2 ^ (blen X - 1) ≤ X := by
      rcases (blen_spec X).2 with h' | h'
      · omega
      · exact h'
    refine blen_is _ _ ?_ (.inr ?_)
    · rw [Nat.div_lt_iff_lt_mul hp, ← Nat.pow_add, Nat.sub_add_cancel (by omega)]; exact h1
    · rw [Nat.le_div_iff_mul_le hp, ← Nat.pow_add, show blen X - k - 1 + k = blen X - 1 from by omega]; exact h2
  · have : X / 2 ^ k = 0 := Nat.div_eq_of_lt (Nat.lt_of_lt_of_le h1 (Nat.pow_le_pow_right (by decide) hk))
    rw [this, Nat.sub_eq_zero_of_le hk]; rfl
theorem shV_up (X k : Nat) : shV X (k : Int) = X * 2 ^ k := by unfold shV; rw [if_pos (by omega)]; rfl
theorem shV_down (X k : Nat) : shV X (-(k : Int)) = X / 2 ^ k := by
  unfold shV
  rcases Nat.eq_zero_or_pos k with h | h
  · subst h; simp
  · rw [if_neg (by omega)]; congr 2; omega

set_option maxRecDepth 100000 in
set_option maxHeartbeats 3200000 in
theorem BigShifts_walk (A : Option Addr) (xs : List UInt32) (c : Nat) (n : Int) (w : World)
    (hr : Rd uv w A xs) (hc : xs.length ≤ c) (hm : c ≤ maxLen) (hn1 : 0 ≤ n) (hn2 : n ≤ 255) :
    Calls Try.prog 8 #[.slice A xs.length c, .int .u8 n] w fun e w' => e = .returned (.bool true) ∧ Below w.heap.size w w' := by
  by_cases h8 : 8 < xs.length
  · have g1 : decide (8 < (xs.length : Int)) = true := decide_eq_true (by omega)
    go_enter Try.func8, Try.ntmps8
    go_wp2_with fail
    refine (bbegun_any _).mono ?_; rintro e w0 ⟨rfl, hb⟩
    go_wp2_with fail
    go_ret
    exact ⟨rfl, hb⟩
  · have g1 : decide (8 < (xs.length : Int)) = false := decide_eq_false (by omega)
    obtain ⟨u, rfl⟩ := Int.eq_ofNat_of_zero_le hn1
    obtain ⟨k, hk, hk2⟩ : ∃ k : Nat, (u : Int) % 100 = (k : Int) ∧ k ≤ 99 := ⟨u % 100, by omega, by omega⟩
    have hX : Num w (.slice A xs.length c) (val xs) 30 := Num.of hr hc hm (by omega)
    have LX := Lib.hid (b8 (K := 8) _ (val_lt xs) (by omega))
    obtain ⟨X, HX⟩ : ∃ X, Hid (val xs = X) := ⟨_, rfl⟩
    rw [HX.out] at hX LX
    have l2 : ∀ j, j ≤ 100 → 2 ^ j < 4294967296 ^ 4 := fun j hj => Nat.lt_of_le_of_lt (Nat.pow_le_pow_right (by decide) hj) (by decide)
    have L2 := Lib.hid l2
    have LU : Hid (X * 2 ^ k < 4294967296 ^ 12) := bmul 8 4 LX.out (l2 k (by omega))
    have LD : Hid (X / 2 ^ k < 4294967296 ^ 8) := Nat.lt_of_le_of_lt (Nat.div_le_self _ _) LX.out
    have hback : X * 2 ^ k / 2 ^ k = X := Nat.mul_div_cancel _ (Nat.pow_pos (by decide))
    have HBACK := Lib.hid hback
    have hblx : blen X ≤ 256 := by
      have h := LX.out
      have h1 := (blen_spec X).2
      rcases h1 with h1 | h1
      · omega
      · rcases Nat.lt_or_ge 256 (blen X) with h2 | h2
        · have h3 : 2 ^ 256 ≤ 2 ^ (blen X - 1) := Nat.pow_le_pow_right (by decide) (by omega)
          have h4 : (4294967296 : Nat) ^ 8 = 2 ^ 256 := by rw [show (4294967296 : Nat) = 2 ^ 32 from rfl, ← Nat.pow_mul]
          omega
        · exact h2
    have hbd : blen (X / 2 ^ k) = blen X - k := blen_down X k
    have hbu : X = 0 ∨ blen (X * 2 ^ k) = blen X + k := by
      by_cases h : X = 0
      · exact .inl h
      · exact .inr (blen_up X k h)
    obtain ⟨bl, HBL⟩ : ∃ bl, Hid (blen X = bl) := ⟨_, rfl⟩
    rw [HBL.out] at hbd hbu hblx
    have HBD := Lib.hid hbd
    have HBU := Lib.hid hbu
    clear hbd hbu l2 hback hr hc hm h8
    go_enter Try.func8, Try.ntmps8
    go_wp2_with fail
    refine (bbegun_any _).mono ?_; rintro e w0 ⟨rfl, hb⟩
    go_wp2_with fail
    refine (of_any 1 _ (by decide)).mono ?_; rintro e w1 ⟨v1, rfl, hv1, hb1⟩
    have hb := nx hb hb1
    go_wp2_with fail
    go_loopw [6, 7] (fun t i wr => ∃ j : Nat, i = .int .i64 j ∧ j ≤ k ∧ IsNum wr t (2 ^ j) ∧ Below w.heap.size w wr) (fun _ i _ => k - (intOf i).toNat)
    case atStart => exact ⟨0, rfl, Nat.zero_le _, hv1, hb⟩
    case round =>
      obtain ⟨j, rfl, hj, ht, hb⟩ := hrel
      by_cases hlt : j < k
      · have b1 : decide (j < k) = true := decide_eq_true hlt
        go_wp2_with fail
        refine (add_n _ _ (2 ^ j) (2 ^ j) 30 _ (ht.num (b8 4 (L2.out j (by omega)) (by decide))) (ht.num (b8 4 (L2.out j (by omega)) (by decide))) (by decide)).mono ?_; rintro e w2 ⟨v2, rfl, hv2, hb2⟩
        have hv2 := hv2.cast (show 2 ^ j + 2 ^ j = 2 ^ (j + 1) from by rw [Nat.pow_succ]; omega)
        go_wp2_with fail
        go_roundw
        case rel => exact ⟨j + 1, by go_num, by omega, hv2, nx hb hb2⟩
        case measure => simp [intOf]; omega
      · obtain rfl : j = k := by omega
        have b1 : decide (j < j) = false := decide_eq_false (by omega)
        have hX := hX.below hb
        have ht := ht.num (b8 (K := 30) 4 (L2.out j (by omega)) (by decide))
        go_wp2_with fail
        refine (shl_n _ X 30 (j : Int) _ hX (by decide) (by omega) (by omega)).mono ?_; rintro e w3 ⟨v3, rfl, hv3, hb3⟩
        rw [shV_up] at hv3
        have hb := nx hb hb3
        have hX := hX.below hb3
        have ht := ht.below hb3
        go_wp2_with fail
        refine (shl_n _ X 30 (-(j : Int)) _ hX (by decide) (by omega) (by omega)).mono ?_; rintro e w4 ⟨v4, rfl, hv4, hb4⟩
        rw [shV_down] at hv4
        have hb := nx hb hb4
        have hX := hX.below hb4
        have ht := ht.below hb4
        have hv3 := hv3.below hb4
        go_wp2_with fail
        refine (div_n _ _ X (2 ^ j) 30 _ hX ht (by decide)).mono ?_; rintro e w5 ⟨q, r, ok, rfl, hdiv, hb5⟩
        have hb := nx hb hb5
        have hX := hX.below hb5
        have ht := ht.below hb5
        have hv3 := hv3.below hb5
        have hv4 := hv4.below hb5
        unfold DivN at hdiv
        rw [if_neg (Nat.pos_iff_ne_zero.1 (Nat.pow_pos (by decide)))] at hdiv
        obtain ⟨hq, -, rfl⟩ := hdiv
        go_wp2_with fail
        refine (bits_n _ X 30 _ hX (by decide)).mono ?_; rintro e w' ⟨rfl, rfl⟩
        rw [HBL.out]
        go_wp2_with fail
        refine (mul_n _ _ X (2 ^ j) 30 _ hX ht (by decide)).mono ?_; rintro e w6 ⟨v6, rfl, hv6, hb6⟩
        have hb := nx hb hb6
        have hX := hX.below hb6
        have hv3 := hv3.below hb6
        have hv4 := hv4.below hb6
        have hq := hq.below hb6
        go_wp2_with fail
        refine (cmp_n v3 v6 _ _ 30 _ (hv3.num (b8 12 LU.out (by decide))) (hv6.num (b8 12 LU.out (by decide))) (by decide)).mono ?_; rintro e w7 ⟨rfl, hb7⟩
        rw [cmpI_same]
        have hb := nx hb hb7
        have hX := hX.below hb7
        have hv3 := hv3.below hb7
        have hv4 := hv4.below hb7
        have hq := hq.below hb7
        go_wp2_with fail
        refine (cmp_n v4 q _ _ 30 _ (hv4.num (b8 8 LD.out (by decide))) (hq.num (b8 8 LD.out (by decide))) (by decide)).mono ?_; rintro e w8 ⟨rfl, hb8⟩
        rw [cmpI_same]
        have hb := nx hb hb8
        have hX := hX.below hb8
        have hv3 := hv3.below hb8
        have hv4 := hv4.below hb8
        have hv3n := hv3.num (b8 (K := 30) 12 LU.out (by decide))
        have hv4n := hv4.num (b8 (K := 30) 8 LD.out (by decide))
        go_wp2_with fail
        refine (shl_n _ _ 30 (-(j : Int)) _ hv3n (by decide) (by omega) (by omega)).mono ?_; rintro e w9 ⟨v9, rfl, hv9, hb9⟩
        rw [shV_down, HBACK.out] at hv9
        have hb := nx hb hb9
        have hX := hX.below hb9
        have hv3n := hv3n.below hb9
        have hv4n := hv4n.below hb9
        go_wp2_with fail
        refine (cmp_n v9 _ X X 30 _ (hv9.num (b8 8 LX.out (by decide))) hX (by decide)).mono ?_; rintro e w10 ⟨rfl, hb10⟩
        rw [cmpI_same]
        have hb := nx hb hb10
        have hv3n := hv3n.below hb10
        have hv4n := hv4n.below hb10
        obtain ⟨bd, HBD2⟩ : ∃ bd, Hid (bl - j = bd) := ⟨_, rfl⟩
        have hmx : (if (bl : Int) - (j : Int) < 0 then (0 : Int) else (bl : Int) - (j : Int)) = (bd : Int) := by
          have := HBD2.out
          by_cases h : (bl : Int) - (j : Int) < 0
          · rw [if_pos h]; omega
          · rw [if_neg h]; omega
        by_cases hx0 : X = 0
        · have hbl0 : bl = 0 := by rw [← HBL.out, hx0]; rfl
          have hbu0 : blen (X * 2 ^ j) = 0 := by rw [hx0, Nat.zero_mul]; rfl
          have hbe : ((bl : Int) == 0) = true := by rw [hbl0]; rfl
          have HB0 := Lib.hid hbu0
          clear hx0 hbl0 hbu0
          go_wp2_with fail
          refine (bits_n v3 _ 30 _ hv3n (by decide)).mono ?_; rintro e w' ⟨rfl, rfl⟩
          rw [HB0.out]
          go_wp2_with fail
          refine (bits_n v4 _ 30 _ hv4n (by decide)).mono ?_; rintro e w' ⟨rfl, rfl⟩
          rw [HBD.out, HBD2.out]
          go_wp2_with fail
          go_ret
          exact ⟨rfl, hb⟩
        · have hbu1 : blen (X * 2 ^ j) = bl + j := by
            rcases HBU.out with h | h
            · exact absurd h hx0
            · exact h
          have hbl1 : bl ≠ 0 := by rw [← HBL.out]; unfold blen; rw [if_neg hx0]; omega
          have hbe : ((bl : Int) == 0) = false := by rw [beq_eq_false_iff_ne]; omega
          have HB0 := Lib.hid hbu1
          clear hx0 hbl1 hbu1
          go_wp2_with fail
          refine (bits_n v3 _ 30 _ hv3n (by decide)).mono ?_; rintro e w' ⟨rfl, rfl⟩
          rw [HB0.out]
          go_wp2_with fail
          refine (bits_n v4 _ 30 _ hv4n (by decide)).mono ?_; rintro e w' ⟨rfl, rfl⟩
          rw [HBD.out, HBD2.out]
          go_wp2_with fail
          go_ret
          exact ⟨rfl, hb⟩
end Go.Proofs.Ytlcnjcdofmohhaa
