/- BigAll: for all slices and numbers the law returns true and leaves memory as it was. No condition. -/
import Derived.Test.YtlcnjcdofmohhaaBigDivides
import Derived.Test.YtlcnjcdofmohhaaRefBigF
namespace Go.Proofs.Ytlcnjcdofmohhaa
open Go.RowKit

theorem Own.num {e : TypeId} {w : World} {B : Nat} {v : Value} {n : Nat} (h : Own uv e w B v (limbs n)) : IsNum w v n := by
  obtain ⟨A, c, rfl, h1, h2, h3⟩ := h.sl
  exact ⟨A, c, limbs n, rfl, h3, h1, h2, rfl⟩

theorem refAdd_n (v u : Value) (a b K : Nat) (w : World) (h : Num w v a K) (g : Num w u b K) (hK : (K : Int) ≤ 5000) :
    Calls Try.prog 17 #[v, u] w fun e w' => ∃ v', e = .returned v' ∧ IsNum w' v' (a + b) ∧ Below w.heap.size w w' := by
  obtain ⟨A, c, xs, rfl, h2, h3, h4, h5, rfl⟩ := h
  obtain ⟨B, d, ys, rfl, g2, g3, g4, g5, rfl⟩ := g
  exact (refAdd_any A xs c B ys d w h2 h3 (by omega) g2 g3 (by omega)).mono fun _ _ ⟨v, h1, h2, h3⟩ => ⟨v, h1, h2.num, h3⟩
theorem refMul_n (v u : Value) (a b K : Nat) (w : World) (h : Num w v a K) (g : Num w u b K) (hK : (K : Int) ≤ 5000) :
    Calls Try.prog 19 #[v, u] w fun e w' => ∃ v', e = .returned v' ∧ IsNum w' v' (a * b) ∧ Below w.heap.size w w' := by
  obtain ⟨A, c, xs, rfl, h2, h3, h4, h5, rfl⟩ := h
  obtain ⟨B, d, ys, rfl, g2, g3, g4, g5, rfl⟩ := g
  exact (refMul_any A xs c B ys d w h2 h3 (by omega) g2 g3 (by omega)).mono fun _ _ ⟨v, h1, h2, h3⟩ => ⟨v, h1, h2.num, h3⟩
theorem refSub_n (v u : Value) (a b K : Nat) (w : World) (h : Num w v a K) (g : Num w u b K) (hK : (K : Int) ≤ 5000) :
    Calls Try.prog 13 #[v, u] w fun e w' => ∃ v' is, e = .returned (.tuple #[v', .bool is]) ∧ SubN w' a b v' is ∧ Below w.heap.size w w' := by
  obtain ⟨A, c, xs, rfl, h2, h3, h4, h5, rfl⟩ := h
  obtain ⟨B, d, ys, rfl, g2, g3, g4, g5, rfl⟩ := g
  refine (refSub_any A xs c B ys d w h2 h3 (by omega) g2 g3 (by omega)).mono fun _ _ ⟨v, is, h1, h2, h3⟩ => ⟨v, is, h1, ?_, h3⟩
  unfold SubIs at h2
  unfold SubN
  split
  · rename_i hlt; rwa [if_pos hlt] at h2
  · rename_i hlt; rw [if_neg hlt] at h2; exact ⟨h2.1.num, h2.2⟩
theorem refDiv_n (v u : Value) (a b K : Nat) (w : World) (h : Num w v a K) (g : Num w u b K) (hK : (K : Int) ≤ 5000) :
    Calls Try.prog 15 #[v, u] w fun e w' => ∃ q r ok, e = .returned (.tuple #[q, r, .bool ok]) ∧ DivN w' a b q r ok ∧ Below w.heap.size w w' := by
  obtain ⟨A, c, xs, rfl, h2, h3, h4, h5, rfl⟩ := h
  obtain ⟨B, d, ys, rfl, g2, g3, g4, g5, rfl⟩ := g
  refine (refDiv_any A xs c B ys d w h2 h3 h4 (by omega) g2 g3 g4 (by omega)).mono fun _ _ ⟨q, r, ok, h1, h2, h3⟩ => ⟨q, r, ok, h1, ?_, h3⟩
  unfold DivIs at h2
  unfold DivN
  split
  · rename_i hy; rwa [if_pos hy] at h2
  · rename_i hy; rw [if_neg hy] at h2; exact ⟨h2.1.num, h2.2.1.num, h2.2.2⟩
theorem refCmp_n (v u : Value) (a b K : Nat) (w : World) (h : Num w v a K) (g : Num w u b K) (hK : (K : Int) ≤ 5000) :
    Calls Try.prog 21 #[v, u] w fun e w' => e = .returned (.int .i64 (cmpI a b)) ∧ w = w' := by
  obtain ⟨A, c, xs, rfl, h2, h3, h4, h5, rfl⟩ := h
  obtain ⟨B, d, ys, rfl, g2, g3, g4, g5, rfl⟩ := g
  exact refCmp_any A xs c B ys d w h2 h3 (by omega) g2 g3 (by omega)
theorem refShl_n (v : Value) (a K : Nat) (n : Int) (w : World) (h : Num w v a K) (hK : (K : Int) ≤ 5000) (hn1 : -100000 ≤ n) (hn2 : n ≤ 100000) :
    Calls Try.prog 23 #[v, .int .i64 n] w fun e w' => ∃ v', e = .returned v' ∧ IsNum w' v' (shV a n) ∧ Below w.heap.size w w' := by
  obtain ⟨A, c, xs, rfl, h2, h3, h4, h5, rfl⟩ := h
  refine (refShl_any A xs c n w h2 h3 h4 (by omega) hn1 hn2).mono fun _ _ ⟨v, h1, h2, h3⟩ => ⟨v, h1, ?_, h3⟩
  rw [shF_shV] at h2
  exact h2.num
theorem refBits_n (v : Value) (a K : Nat) (w : World) (h : Num w v a K) (hK : (K : Int) ≤ 5000) :
    Calls Try.prog 25 #[v] w fun e w' => e = .returned (.int .i64 (blen a : Nat)) ∧ Below w.heap.size w w' := by
  obtain ⟨A, c, xs, rfl, h2, h3, h4, h5, rfl⟩ := h
  exact refBits_any A xs c w h2 h3 h4 (by omega)
theorem refLow_n (v : Value) (a K : Nat) (w : World) (h : Num w v a K) (hK : (K : Int) ≤ 5000) :
    Calls Try.prog 27 #[v] w fun e w' => e = .returned (.int .u64 (a % 18446744073709551616 : Nat)) ∧ w = w' := by
  obtain ⟨A, c, xs, rfl, h2, h3, h4, h5, rfl⟩ := h
  exact refLow_any A xs c w h2 h3 (by omega)
theorem refOf_n (n : Nat) (w : World) (hn : (n : Int) ≤ 18446744073709551615) :
    Calls Try.prog 29 #[.int .u64 n] w fun e w' => ∃ v', e = .returned v' ∧ IsNum w' v' n ∧ Below w.heap.size w w' :=
  (refOf_any n w hn).mono fun _ _ ⟨v, h1, h2, h3⟩ => ⟨v, h1, h2.num, h3⟩
theorem same_n (v u : Value) (n K : Nat) (w : World) (h : IsNum w v n) (g : IsNum w u n) (hn : n < 4294967296 ^ K) (hK : (K : Int) ≤ 5000) :
    Calls Try.prog 11 #[v, u] w fun e w' => e = .returned (.bool true) ∧ Below w.heap.size w w' := by
  obtain ⟨A, c, xs, rfl, h2, h3, h4, h5⟩ := h
  obtain ⟨B, d, ys, rfl, g2, g3, g4, g5⟩ := g
  have hl := limbs_len n K hn
  have e : xs = ys := h5.out.trans g5.out.symm
  subst e
  rw [← h5.out] at hl
  exact (refSame_any A xs c B d w h2 h3 (by omega) g2 g3).mono fun _ _ ⟨h1, n, h2⟩ => ⟨h1, h2 ▸ Nx.drewN w n⟩
theorem pow32 (k j : Nat) (h : j < 32 * k) : 2 ^ j < 4294967296 ^ k := by
  rw [show (4294967296 : Nat) = 2 ^ 32 from rfl, ← Nat.pow_mul]; exact Nat.pow_lt_pow_right (by decide) h

set_option maxRecDepth 100000 in
set_option maxHeartbeats 6400000 in
theorem BigAll_walk (A : Option Addr) (xs : List UInt32) (c : Nat) (B : Option Addr) (ys : List UInt32) (d : Nat) (n v : Int) (w : World)
    (hr : Rd uv w A xs) (hc : xs.length ≤ c) (hm : c ≤ maxLen) (hs : Rd uv w B ys) (hd : ys.length ≤ d) (hm2 : d ≤ maxLen) (hn1 : -9223372036854775808 ≤ n) (hn2 : n ≤ 9223372036854775807) (hv1 : 0 ≤ v) (hv2 : v ≤ 18446744073709551615) :
    Calls Try.prog 3 #[.slice A xs.length c, .slice B ys.length d, .int .i64 n, .int .u64 v] w fun e w' => e = .returned (.bool true) ∧ Below w.heap.size w w' := by
  by_cases hlong : xs.length ≤ 12 ∧ ys.length ≤ 12
  · have hlt : (decide (xs.length ≤ 12) && decide (ys.length ≤ 12)) = true := by simp [hlong.1, hlong.2]
    have HLT := Lib.hid hlt
    clear hlt
    by_cases hn : -500 ≤ n ∧ n ≤ 500
    · obtain ⟨h12, h12'⟩ := hlong
      obtain ⟨hna, hnb⟩ := hn
      obtain ⟨v, rfl⟩ := Int.eq_ofNat_of_zero_le hv1
      have hX : Num w (.slice A xs.length c) (val xs) 30 := Num.of hr hc hm (by omega)
      have hY : Num w (.slice B ys.length d) (val ys) 30 := Num.of hs hd hm2 (by omega)
      have LX := Lib.hid (b8 (K := 12) _ (val_lt xs) h12)
      have LY := Lib.hid (b8 (K := 12) _ (val_lt ys) h12')
      obtain ⟨X, HX⟩ : ∃ X, Hid (val xs = X) := ⟨_, rfl⟩
      obtain ⟨Y, HY⟩ : ∃ Y, Hid (val ys = Y) := ⟨_, rfl⟩
      rw [HX.out] at hX LX
      rw [HY.out] at hY LY
      have LR : Hid ((if Y = 0 then 0 else X % Y) < 4294967296 ^ 12) := by
        unfold Hid
        split
        · exact Nat.pow_pos (by decide)
        · exact Nat.lt_of_le_of_lt (Nat.mod_le _ _) LX.out
      have LV : Hid (v < 4294967296 ^ 2) := by unfold Hid; omega
      have LS : Hid (shV X n < 4294967296 ^ 28) := by
        unfold Hid shV
        split
        · exact bmul 12 16 LX.out (pow32 16 n.toNat (by omega))
        · exact Nat.lt_of_le_of_lt (Nat.div_le_self _ _) (b8 12 LX.out (by decide))
      obtain ⟨yb, HYB⟩ : ∃ b, Hid (decide (Y ≠ 0) = b) := ⟨_, rfl⟩
      have g1 : decide (n < -500) = false := decide_eq_false (by omega)
      have g2 : decide (500 < n) = false := decide_eq_false (by omega)
      clear h12 h12' hc hd hm hm2 hr hs hn1 hn2 hv1
      go_enter Try.func3, Try.ntmps3
      go_wp2_with fail
      refine (bbegun_any _).mono ?_; rintro e w0 ⟨rfl, hb⟩
      have hX := hX.below hb
      have hY := hY.below hb
      go_wp2_with fail
      refine (light_any w0.heap.size A xs.length c B ys.length d _ (two_cells w0 _ _ _).1 (two_cells w0 _ _ _).2).mono ?_; rintro e w' ⟨rfl, rfl⟩
      rw [HLT.out]
      have hX := hX.below (nx0 w0 (.cells #[.slice A xs.length c, .slice B ys.length d] 22))
      have hY := hY.below (nx0 w0 (.cells #[.slice A xs.length c, .slice B ys.length d] 22))
      have hb := nxa hb (.cells #[.slice A xs.length c, .slice B ys.length d] 22)
      go_wp2_with fail
      refine (sub_n _ _ X Y 30 _ hX hY (by decide)).mono ?_; rintro e w1 ⟨dv, is, rfl, hsub, hb1⟩
      have hb := nx hb hb1
      have hX := hX.below hb1
      have hY := hY.below hb1
      unfold SubN at hsub
      have hd : IsNum w1 dv (X - Y) ∧ is = decide (Y ≤ X) := by
        by_cases h : X < Y
        · rw [if_pos h] at hsub; obtain ⟨rfl, rfl⟩ := hsub; exact ⟨(IsNum.zero _).cast (by omega), (decide_eq_false (by omega)).symm⟩
        · rw [if_neg h] at hsub; obtain ⟨hsub, rfl⟩ := hsub; exact ⟨hsub, (decide_eq_true (by omega)).symm⟩
      obtain ⟨hd, rfl⟩ := hd
      clear hsub
      go_wp2_with fail
      refine (refSub_n _ _ X Y 30 _ hX hY (by decide)).mono ?_; rintro e w2 ⟨df, is, rfl, hsub, hb2⟩
      have hb := nx hb hb2
      have hX := hX.below hb2
      have hY := hY.below hb2
      have hd := hd.below hb2
      unfold SubN at hsub
      have hf : IsNum w2 df (X - Y) ∧ is = decide (Y ≤ X) := by
        by_cases h : X < Y
        · rw [if_pos h] at hsub; obtain ⟨rfl, rfl⟩ := hsub; exact ⟨(IsNum.zero _).cast (by omega), (decide_eq_false (by omega)).symm⟩
        · rw [if_neg h] at hsub; obtain ⟨hsub, rfl⟩ := hsub; exact ⟨hsub, (decide_eq_true (by omega)).symm⟩
      obtain ⟨hf, rfl⟩ := hf
      clear hsub
      obtain ⟨bs, HBS⟩ : ∃ bs, Hid (decide (Y ≤ X) = bs) := ⟨_, rfl⟩
      rw [HBS.out]
      go_wp2_with fail
      refine (div_n _ _ X Y 30 _ hX hY (by decide)).mono ?_; rintro e w3 ⟨q, r, ok, rfl, hdiv, hb3⟩
      have hb := nx hb hb3
      have hX := hX.below hb3
      have hY := hY.below hb3
      have hd := hd.below hb3
      have hf := hf.below hb3
      unfold DivN at hdiv
      have hq : IsNum w3 q (X / Y) ∧ IsNum w3 r (if Y = 0 then 0 else X % Y) ∧ ok = yb := by
        by_cases h : Y = 0
        · rw [if_pos h] at hdiv ⊢; obtain ⟨rfl, rfl, rfl⟩ := hdiv; exact ⟨(IsNum.zero _).cast (by rw [h, Nat.div_zero]), IsNum.zero _, by rw [← HYB.out]; exact (decide_eq_false (by simpa using h)).symm⟩
        · rw [if_neg h] at hdiv ⊢; obtain ⟨h1, h2, rfl⟩ := hdiv; exact ⟨h1, h2, by rw [← HYB.out]; exact (decide_eq_true h).symm⟩
      obtain ⟨hq, hr, rfl⟩ := hq
      clear hdiv
      go_wp2_with fail
      refine (refDiv_n _ _ X Y 30 _ hX hY (by decide)).mono ?_; rintro e w4 ⟨s, t, on, rfl, hdiv, hb4⟩
      have hb := nx hb hb4
      have hX := hX.below hb4
      have hY := hY.below hb4
      have hd := hd.below hb4
      have hf := hf.below hb4
      have hq := hq.below hb4
      have hr := hr.below hb4
      unfold DivN at hdiv
      have hs : IsNum w4 s (X / Y) ∧ IsNum w4 t (if Y = 0 then 0 else X % Y) ∧ on = ok := by
        by_cases h : Y = 0
        · rw [if_pos h] at hdiv ⊢; obtain ⟨rfl, rfl, rfl⟩ := hdiv; exact ⟨(IsNum.zero _).cast (by rw [h, Nat.div_zero]), IsNum.zero _, by rw [← HYB.out]; exact (decide_eq_false (by simpa using h)).symm⟩
        · rw [if_neg h] at hdiv ⊢; obtain ⟨h1, h2, rfl⟩ := hdiv; exact ⟨h1, h2, by rw [← HYB.out]; exact (decide_eq_true h).symm⟩
      obtain ⟨hs, ht, rfl⟩ := hs
      clear hdiv
      go_wp2_with fail
      refine (add_n _ _ X Y 30 _ hX hY (by decide)).mono ?_; rintro e w5 ⟨v1, rfl, hv1, hb5⟩
      have hb := nx hb hb5
      have hX := hX.below hb5
      have hY := hY.below hb5
      have hd := hd.below hb5
      have hf := hf.below hb5
      have hq := hq.below hb5
      have hr := hr.below hb5
      have hs := hs.below hb5
      have ht := ht.below hb5
      go_wp2_with fail
      refine (refAdd_n _ _ X Y 30 _ hX hY (by decide)).mono ?_; rintro e w6 ⟨v2, rfl, hv2, hb6⟩
      have hb := nx hb hb6
      have hX := hX.below hb6
      have hY := hY.below hb6
      have hd := hd.below hb6
      have hf := hf.below hb6
      have hq := hq.below hb6
      have hr := hr.below hb6
      have hs := hs.below hb6
      have ht := ht.below hb6
      have hv1 := hv1.below hb6
      go_wp2_with fail
      refine (same_n v1 v2 _ 30 _ hv1 hv2 (b8 13 (badd 12 LX.out LY.out) (by decide)) (by decide)).mono ?_; rintro e w7 ⟨rfl, hb7⟩
      have hb := nx hb hb7
      have hX := hX.below hb7
      have hY := hY.below hb7
      have hd := hd.below hb7
      have hf := hf.below hb7
      have hq := hq.below hb7
      have hr := hr.below hb7
      have hs := hs.below hb7
      have ht := ht.below hb7
      go_wp2_with fail
      refine (mul_n _ _ X Y 30 _ hX hY (by decide)).mono ?_; rintro e w8 ⟨v1, rfl, hv1, hb8⟩
      have hb := nx hb hb8
      have hX := hX.below hb8
      have hY := hY.below hb8
      have hd := hd.below hb8
      have hf := hf.below hb8
      have hq := hq.below hb8
      have hr := hr.below hb8
      have hs := hs.below hb8
      have ht := ht.below hb8
      go_wp2_with fail
      refine (refMul_n _ _ X Y 30 _ hX hY (by decide)).mono ?_; rintro e w9 ⟨v2, rfl, hv2, hb9⟩
      have hb := nx hb hb9
      have hX := hX.below hb9
      have hY := hY.below hb9
      have hd := hd.below hb9
      have hf := hf.below hb9
      have hq := hq.below hb9
      have hr := hr.below hb9
      have hs := hs.below hb9
      have ht := ht.below hb9
      have hv1 := hv1.below hb9
      go_wp2_with fail
      refine (same_n v1 v2 _ 30 _ hv1 hv2 (b8 24 (bmul 12 12 LX.out LY.out) (by decide)) (by decide)).mono ?_; rintro e w10 ⟨rfl, hb10⟩
      have hb := nx hb hb10
      have hX := hX.below hb10
      have hY := hY.below hb10
      have hd := hd.below hb10
      have hf := hf.below hb10
      have hq := hq.below hb10
      have hr := hr.below hb10
      have hs := hs.below hb10
      have ht := ht.below hb10
      go_wp2_with fail
      refine (same_n _ _ _ 30 _ hd hf (b8 12 (Nat.lt_of_le_of_lt (Nat.sub_le _ _) LX.out) (by decide)) (by decide)).mono ?_; rintro e w11 ⟨rfl, hb11⟩
      have hb := nx hb hb11
      have hX := hX.below hb11
      have hY := hY.below hb11
      have hq := hq.below hb11
      have hr := hr.below hb11
      have hs := hs.below hb11
      have ht := ht.below hb11
      go_wp2_with fail
      refine (same_n _ _ _ 30 _ hq hs (b8 12 (Nat.lt_of_le_of_lt (Nat.div_le_self _ _) LX.out) (by decide)) (by decide)).mono ?_; rintro e w12 ⟨rfl, hb12⟩
      have hb := nx hb hb12
      have hX := hX.below hb12
      have hY := hY.below hb12
      have hr := hr.below hb12
      have ht := ht.below hb12
      go_wp2_with fail
      refine (same_n _ _ _ 30 _ hr ht (b8 12 LR.out (by decide)) (by decide)).mono ?_; rintro e w13 ⟨rfl, hb13⟩
      have hb := nx hb hb13
      have hX := hX.below hb13
      have hY := hY.below hb13
      go_wp2_with fail
      refine (cmp_n _ _ X Y 30 _ hX hY (by decide)).mono ?_; rintro e w14 ⟨rfl, hb14⟩
      have hb := nx hb hb14
      have hX := hX.below hb14
      have hY := hY.below hb14
      go_wp2_with fail
      refine (refCmp_n _ _ X Y 30 _ hX hY (by decide)).mono ?_; rintro e w' ⟨rfl, rfl⟩
      go_wp2_with fail
      refine (shl_n _ X 30 n _ hX (by decide) (by omega) (by omega)).mono ?_; rintro e w15 ⟨v1, rfl, hv1, hb15⟩
      have hb := nx hb hb15
      have hX := hX.below hb15
      have hY := hY.below hb15
      go_wp2_with fail
      refine (refShl_n _ X 30 n _ hX (by decide) (by omega) (by omega)).mono ?_; rintro e w16 ⟨v2, rfl, hv2, hb16⟩
      have hb := nx hb hb16
      have hX := hX.below hb16
      have hY := hY.below hb16
      have hv1 := hv1.below hb16
      go_wp2_with fail
      refine (same_n v1 v2 _ 30 _ hv1 hv2 (b8 28 LS.out (by decide)) (by decide)).mono ?_; rintro e w17 ⟨rfl, hb17⟩
      have hb := nx hb hb17
      have hX := hX.below hb17
      have hY := hY.below hb17
      go_wp2_with fail
      refine (bits_n _ X 30 _ hX (by decide)).mono ?_; rintro e w' ⟨rfl, rfl⟩
      go_wp2_with fail
      refine (refBits_n _ X 30 _ hX (by decide)).mono ?_; rintro e w18 ⟨rfl, hb18⟩
      have hb := nx hb hb18
      have hX := hX.below hb18
      have hY := hY.below hb18
      go_wp2_with fail
      refine (low_n _ X 30 _ hX (by decide)).mono ?_; rintro e w' ⟨rfl, rfl⟩
      go_wp2_with fail
      refine (refLow_n _ X 30 _ hX (by decide)).mono ?_; rintro e w' ⟨rfl, rfl⟩
      go_wp2_with fail
      refine (of_any v _ (by omega)).mono ?_; rintro e w19 ⟨v1, rfl, hv1, hb19⟩
      have hb := nx hb hb19
      have hX := hX.below hb19
      have hY := hY.below hb19
      go_wp2_with fail
      refine (refOf_n v _ (by omega)).mono ?_; rintro e w20 ⟨v2, rfl, hv2, hb20⟩
      have hb := nx hb hb20
      have hX := hX.below hb20
      have hY := hY.below hb20
      have hv1 := hv1.below hb20
      go_wp2_with fail
      refine (same_n v1 v2 _ 30 _ hv1 hv2 (b8 2 LV.out (by decide)) (by decide)).mono ?_; rintro e w21 ⟨rfl, hb21⟩
      have hb := nx hb hb21
      have hX := hX.below hb21
      have hY := hY.below hb21
      go_wp2_with fail
      go_ret
      exact ⟨rfl, hb⟩
    · go_enter Try.func3, Try.ntmps3
      go_wp2_with fail
      refine (bbegun_any _).mono ?_; rintro e w0 ⟨rfl, hb⟩
      go_wp2_with fail
      refine (light_any w0.heap.size A xs.length c B ys.length d _ (two_cells w0 _ _ _).1 (two_cells w0 _ _ _).2).mono ?_; rintro e w' ⟨rfl, rfl⟩
      rw [HLT.out]
      by_cases h1 : n < -500
      · have g1 : decide (n < -500) = true := decide_eq_true h1
        go_wp2_with fail
        go_ret
        exact ⟨rfl, nxa hb _⟩
      · have g1 : decide (n < -500) = false := decide_eq_false h1
        have g2 : decide (500 < n) = true := decide_eq_true (by omega)
        go_wp2_with fail
        go_ret
        exact ⟨rfl, nxa hb _⟩
  · have hlt : (decide (xs.length ≤ 12) && decide (ys.length ≤ 12)) = false := by
      by_cases h : xs.length ≤ 12
      · have : ¬ ys.length ≤ 12 := fun h' => hlong ⟨h, h'⟩
        simp [this]
      · simp [h]
    have HLT := Lib.hid hlt
    clear hlt hlong
    go_enter Try.func3, Try.ntmps3
    go_wp2_with fail
    refine (bbegun_any _).mono ?_; rintro e w0 ⟨rfl, hb⟩
    go_wp2_with fail
    refine (light_any w0.heap.size A xs.length c B ys.length d _ (two_cells w0 _ _ _).1 (two_cells w0 _ _ _).2).mono ?_; rintro e w' ⟨rfl, rfl⟩
    rw [HLT.out]
    go_wp2_with fail
    go_ret
    exact ⟨rfl, nxa hb _⟩
end Go.Proofs.Ytlcnjcdofmohhaa
