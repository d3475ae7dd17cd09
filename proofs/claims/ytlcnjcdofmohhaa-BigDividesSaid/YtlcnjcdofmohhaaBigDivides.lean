/- BigDivides: for all slices the law returns true and leaves memory as it was. No condition. -/
import Derived.Test.YtlcnjcdofmohhaaBigRing
namespace Go.Proofs.Ytlcnjcdofmohhaa
open Go.RowKit

theorem two_cells (w : World) (e : TypeId) (a b : Value) : (w.alloc (.cells #[a, b] e)).cell? ⟨w.heap.size, 0, none⟩ = some a ∧ (w.alloc (.cells #[a, b] e)).cell? ⟨w.heap.size, 1, none⟩ = some b := by
  constructor
  · rw [World.cell?_alloc_at _ _ _ _ rfl]; rfl
  · rw [World.cell?_alloc_at _ _ _ _ rfl]; rfl

set_option maxRecDepth 100000 in
set_option maxHeartbeats 3200000 in
theorem BigDivides_walk (A : Option Addr) (xs : List UInt32) (c : Nat) (B : Option Addr) (ys : List UInt32) (d : Nat) (w : World)
    (hr : Rd uv w A xs) (hc : xs.length ≤ c) (hm : c ≤ maxLen) (hs : Rd uv w B ys) (hd : ys.length ≤ d) (hm2 : d ≤ maxLen) :
    Calls Try.prog 4 #[.slice A xs.length c, .slice B ys.length d] w fun e w' => e = .returned (.bool true) ∧ Below w.heap.size w w' := by
  by_cases hlong : xs.length ≤ 12 ∧ ys.length ≤ 12
  · obtain ⟨h12, h12'⟩ := hlong
    have hlt : (decide (xs.length ≤ 12) && decide (ys.length ≤ 12)) = true := by simp [h12, h12']
    have HLT := Lib.hid hlt
    have hX : Num w (.slice A xs.length c) (val xs) 30 := Num.of hr hc hm (by omega)
    have hY : Num w (.slice B ys.length d) (val ys) 30 := Num.of hs hd hm2 (by omega)
    have LX := Lib.hid (b8 (K := 12) _ (val_lt xs) h12)
    have LY := Lib.hid (b8 (K := 12) _ (val_lt ys) h12')
    obtain ⟨X, HX⟩ : ∃ X, Hid (val xs = X) := ⟨_, rfl⟩
    obtain ⟨Y, HY⟩ : ∃ Y, Hid (val ys = Y) := ⟨_, rfl⟩
    rw [HX.out] at hX LX
    rw [HY.out] at hY LY
    clear hlt h12 h12' hc hd hm hm2 hr hs
    go_enter Try.func4, Try.ntmps4
    go_wp2_with fail
    refine (bbegun_any _).mono ?_; rintro e w0 ⟨rfl, hb⟩
    have hX := hX.below hb
    have hY := hY.below hb
    go_wp2_with fail
    refine (light_any w0.heap.size A xs.length c B ys.length d _ (two_cells w0 _ _ _).1 (two_cells w0 _ _ _).2).mono ?_; rintro e w' ⟨rfl, rfl⟩
    rw [HLT.out]
    have hX := hX.below (nx0 w0 (.cells #[.slice A xs.length c, .slice B ys.length d] 22))
    have hY := hY.below (nx0 w0 (.cells #[.slice A xs.length c, .slice B ys.length d] 22))
    have hb := nxa hb (.cells #[.slice A xs.length c, .slice B ys.length d] 22)
    go_wp2_with fail
    refine (div_n _ _ X Y 30 _ hX hY (by decide)).mono ?_; rintro e w1 ⟨q, r, ok, rfl, hdiv, hb1⟩
    have hb := nx hb hb1
    have hX := hX.below hb1
    have hY := hY.below hb1
    unfold DivN at hdiv
    by_cases hy0 : Y = 0
    · rw [if_pos hy0] at hdiv
      obtain ⟨rfl, rfl, rfl⟩ := hdiv
      subst hy0
      go_wp2_with fail
      refine (bits_n _ 0 30 _ hY (by decide)).mono ?_; rintro e w' ⟨rfl, rfl⟩
      rw [show blen 0 = 0 from rfl]
      go_wp2_with fail
      go_ret
      exact ⟨rfl, hb⟩
    · rw [if_neg hy0] at hdiv
      obtain ⟨hq, hrr, rfl⟩ := hdiv
      obtain ⟨bl, HBL⟩ : ∃ bl, Hid (blen Y = bl) := ⟨_, rfl⟩
      have hbl : ((bl : Int) == 0) = false := by
        rw [beq_eq_false_iff_ne, ← HBL.out]; unfold blen; rw [if_neg hy0]; omega
      have hlr : cmpI (X % Y) Y = -1 := by unfold cmpI; rw [if_pos (Nat.mod_lt _ (Nat.pos_of_ne_zero hy0))]
      have hqr : X / Y * Y + X % Y = X := by rw [Nat.mul_comm]; exact Nat.div_add_mod X Y
      have lq : X / Y < 4294967296 ^ 12 := Nat.lt_of_le_of_lt (Nat.div_le_self _ _) LX.out
      have lr : X % Y < 4294967296 ^ 12 := Nat.lt_of_le_of_lt (Nat.mod_le _ _) LX.out
      have lqy : X / Y * Y < 4294967296 ^ 24 := bmul 12 12 lq LY.out
      obtain ⟨Qn, HQ⟩ : ∃ Qn, Hid (X / Y = Qn) := ⟨_, rfl⟩
      obtain ⟨Rn, HRn⟩ : ∃ Rn, Hid (X % Y = Rn) := ⟨_, rfl⟩
      rw [HQ.out] at hq lq lqy hqr
      rw [HRn.out] at hrr lr hlr hqr
      have LQ := Lib.hid lq
      have LR := Lib.hid lr
      have LQY := Lib.hid lqy
      have HLR := Lib.hid hlr
      have HQR := Lib.hid hqr
      have hqn := hq.num (b8 (K := 30) 12 LQ.out (by decide))
      obtain ⟨A1, c1, qs, rfl, hr1, hc1, hm1, HQS⟩ := hq
      clear lq lr lqy hlr hqr hy0
      go_wp2_with fail
      refine (bits_n _ Y 30 _ hY (by decide)).mono ?_; rintro e w' ⟨rfl, rfl⟩
      rw [HBL.out]
      go_wp2_with fail
      refine (cmp_n r _ Rn Y 30 _ (hrr.num (b8 (K := 30) 12 LR.out (by decide))) hY (by decide)).mono ?_; rintro e w2 ⟨rfl, hb2⟩
      rw [HLR.out]
      have hb := nx hb hb2
      have hX := hX.below hb2
      have hY := hY.below hb2
      have hqn := hqn.below hb2
      have hrr := hrr.below hb2
      go_wp2_with fail
      refine (mul_n _ _ Qn Y 30 _ hqn hY (by decide)).mono ?_; rintro e w3 ⟨v3, rfl, hn3, hb3⟩
      have hb := nx hb hb3
      have hX := hX.below hb3
      have hrr := hrr.below hb3
      go_wp2_with fail
      refine (add_n v3 r (Qn * Y) Rn 30 _ (hn3.num (b8 24 LQY.out (by decide))) (hrr.num (b8 12 LR.out (by decide))) (by decide)).mono ?_; rintro e w4 ⟨v4, rfl, hn4, hb4⟩
      have hb := nx hb hb4
      have hX := hX.below hb4
      rw [HQR.out] at hn4
      go_wp2_with fail
      refine (cmp_n v4 _ X X 30 _ (hn4.num (b8 12 LX.out (by decide))) hX (by decide)).mono ?_; rintro e w5 ⟨rfl, hb5⟩
      rw [cmpI_same]
      have hb := nx hb hb5
      have hr5 := (((hr1.below hb2).below hb3).below hb4).below hb5
      by_cases h0 : qs.length = 0
      · have g0 : ((qs.length : Int) == 0) = true := by rw [h0]; rfl
        clear h0
        go_wp2_with fail
        go_ret
        exact ⟨rfl, hb⟩
      · obtain ⟨m, hmq⟩ : ∃ m, qs.length = m + 1 := ⟨qs.length - 1, by omega⟩
        have g0 : ((qs.length : Int) == 0) = false := by rw [beq_eq_false_iff_ne]; omega
        obtain ⟨tp, HTP⟩ : ∃ tp, Hid (ent qs m = tp) := ⟨_, rfl⟩
        have htp : ((tp : Int) != 0) = true := by
          have : tp ≠ 0 := by rw [← HTP.out, HQS.out]; exact limbs_top _ _ (by rw [← HQS.out]; exact hmq)
          simp; omega
        obtain ⟨b', off', rfl, hb', hcx⟩ := rd_cell hr5 (i := m) (by omega) HTP
        have i1 : ((qs.length : Int) - 1) = (m : Int) := by omega
        have i2 : m < qs.length := by omega
        have ltp : (tp : Int) ≤ 4294967295 := by rw [← HTP.out]; exact ent_le _ _
        have hql : (qs.length : Int) ≤ 100 := by
          have : qs.length ≤ 12 := by rw [HQS.out]; exact limbs_len _ _ LQ.out
          omega
        clear hmq h0
        go_wp2_with fail
        go_ret
        exact ⟨rfl, hb⟩
  · have hlt : (decide (xs.length ≤ 12) && decide (ys.length ≤ 12)) = false := by
      by_cases h : xs.length ≤ 12
      · have : ¬ ys.length ≤ 12 := fun h' => hlong ⟨h, h'⟩
        simp [this]
      · simp [h]
    have HLT := Lib.hid hlt
    clear hlt hlong
    go_enter Try.func4, Try.ntmps4
    go_wp2_with fail
    refine (bbegun_any _).mono ?_; rintro e w0 ⟨rfl, hb⟩
    go_wp2_with fail
    refine (light_any w0.heap.size A xs.length c B ys.length d _ (two_cells w0 _ _ _).1 (two_cells w0 _ _ _).2).mono ?_; rintro e w' ⟨rfl, rfl⟩
    rw [HLT.out]
    go_wp2_with fail
    go_ret
    exact ⟨rfl, nxa hb _⟩
end Go.Proofs.Ytlcnjcdofmohhaa
