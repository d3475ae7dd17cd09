/- The contracts of dec: the nearest binary64 to a fraction, to an integer; the number that bits are. -/
import Derived.Test.YtpaacfoiiihbeaaGreatDecN
namespace Go.Proofs.YtpaacfoiiihbeaaGreat
open Go.RowKit

theorem ge2_mono {x y : Nat} {p q : Int} (h : GE2 x y q) (hpq : p ≤ q) : GE2 x y p := by
  obtain ⟨b, a, a', h1, h2, h3⟩ : ∃ b a a' : Nat, (a : Int) - b = p ∧ (a' : Int) - b = q ∧ a ≤ a' := ⟨p.natAbs + q.natAbs, (p + (p.natAbs + q.natAbs)).toNat, (q + (p.natAbs + q.natAbs)).toNat, by omega, by omega, by omega⟩
  rw [ge2_iff x y p a b h1]
  rw [ge2_iff x y q a' b h2] at h
  exact Nat.le_trans (Nat.mul_le_mul_left _ (Nat.pow_le_pow_right (by decide) h3)) h
theorem lev_ge2 (x y : Nat) (L P : Int) (E : Nat) (hy : 0 < y) (h1 : GE2 x y L) (h2 : ¬ GE2 x y (L + 1)) (hP : P = max (L - 52) (-1074)) (hE : (E : Int) = P + 1074) : lev (x * 2 ^ tz) y = E := by
  have ht := tz_eq
  refine lev_is _ _ _ hy ?_ ?_
  · rw [← Nat.not_le, ← ge2_iff x y (P + 53) (E + 53) tz (by omega)]
    exact fun h => h2 (ge2_mono h (by omega))
  · rcases Nat.eq_zero_or_pos E with h | h
    · exact .inl h
    · right
      rw [← ge2_iff x y L (E + 52) tz (by omega)]
      exact h1
theorem near_level (x y : Nat) (P : Int) (E : Nat) (hE : (E : Int) = P + 1074) (h : lev (x * 2 ^ tz) y = E) : near (x * 2 ^ tz) y = E * 4503599627370496 + rnd (x * 2 ^ (-P).toNat) (y * 2 ^ P.toNat) := by
  obtain ⟨c, h1, h2, h3⟩ := at_level x y P E (by rw [tz_eq]; omega)
  rw [show (max (-P) 0).toNat = (-P).toNat from by omega] at h2
  rw [show (max P 0).toNat = P.toNat from by omega] at h3
  have h4 : rnd (x * 2 ^ tz) (y * 2 ^ E) = rnd (x * 2 ^ (-P).toNat) (y * 2 ^ P.toNat) := by rw [h3, h2]; exact rnd_mul _ _ _ h1
  unfold near
  rw [h, h4]

set_option maxRecDepth 100000 in
set_option maxHeartbeats 1600000 in
theorem nearest_any (r : Value) (x y j : Nat) (w : World) (h : Ra w r x y j) (hj : j ≤ 2200) (hy0 : y ≠ 0) :
    Calls Tryz.prog 101 #[r] w fun e w' => e = .returned (.int .u64 (near (x * 2 ^ tz) y : Nat)) ∧ Nx w w' := by
  have HX := Lib.hid h
  obtain ⟨v, u, rfl, hv, hu, hx, hy⟩ := h
  obtain ⟨Av, lv, cv, rfl⟩ := hv.sl
  obtain ⟨Au, lu, cu, rfl⟩ := hu.sl
  obtain ⟨bx, HBX⟩ : ∃ b, Hid (blen x = b) := ⟨_, rfl⟩
  have hN : Nx w (w.alloc (Obj.cells #[.slice Av lv cv, .slice Au lu cu] 140)) := nx0 _ _
  obtain ⟨g, hg⟩ : ∃ g, w.heap.size = g := ⟨_, rfl⟩
  have hB1 : Blk (w.alloc (Obj.cells #[.slice Av lv cv, .slice Au lu cu] 140)) g g #[.slice Av lv cv, .slice Au lu cu] 140 := by rw [← hg]; exact Blk.new w _ _
  by_cases hx0 : x = 0
  · have hb0 : bx = 0 := by rw [← HBX.out, hx0]; rfl
    subst hb0
    have hz : near (x * 2 ^ tz) y = 0 := by rw [hx0, Nat.zero_mul]; exact near_zero y (Nat.pos_of_ne_zero hy0)
    rw [hz]
    clear hz
    go_enter Tryz.func101, Tryz.ntmps101
    go_wp2_with fail
    refine (bits_n _ x KB _ ((hv.below hN).few hx (by omega)) KB_le).mono ?_; rintro e w' ⟨rfl, rfl⟩
    rw [HBX.out]
    go_wp2_with fail
    go_ret
    exact ⟨rfl, hN⟩
  · have hb0 : ((bx : Int) == 0) = false := by
      rw [beq_eq_false_iff_ne]
      have := (blen_pos x hx0).1
      rw [HBX.out] at this
      omega
    go_enter Tryz.func101, Tryz.ntmps101
    go_wp2_with fail
    refine (bits_n _ x KB _ ((hv.below hN).few hx (by omega)) KB_le).mono ?_; rintro e w' ⟨rfl, rfl⟩
    rw [HBX.out]
    go_wp2_with fail
    refine (log2_any _ x y j _ (HX.out.below hN) (by omega) hx0 hy0).mono ?_; rintro e w1 ⟨L, rfl, HL, hL1, hL2, hw1⟩
    have hN1 := Nx.trans hN hw1
    have hB2 := hB1.below hw1
    have c0 : w1.cell? ⟨g, 0, none⟩ = some (.slice Av lv cv) := hB2.cell 0
    have c1 : w1.cell? ⟨g, 1, none⟩ = some (.slice Au lu cu) := hB2.cell 1
    have key : ∀ (P : Int) (E : Nat), P = max (L - 52) (-1074) → (E : Int) = P + 1074 → ∃ R : Nat, Hid (rnd (x * 2 ^ (-P).toNat) (y * 2 ^ (- -P).toNat) = R) ∧ Hid (near (x * 2 ^ tz) y = E * 4503599627370496 + R) ∧ (R : Int) ≤ 9007199254740992 ∧ Hid (y * 2 ^ (- -P).toNat ≠ 0) := by
      intro P E hP hE
      have hlev := lev_ge2 x y L P E (Nat.pos_of_ne_zero hy0) HL.out.1 HL.out.2 hP hE
      have hnear := near_level x y P E hE hlev
      have hr := (near_rnd (x * 2 ^ tz) y (Nat.pos_of_ne_zero hy0)).1
      have hr2 : rnd (x * 2 ^ (-P).toNat) (y * 2 ^ P.toNat) ≤ 9007199254740992 := by
        have h1 : near (x * 2 ^ tz) y = lev (x * 2 ^ tz) y * 4503599627370496 + rnd (x * 2 ^ tz) (y * 2 ^ lev (x * 2 ^ tz) y) := rfl
        rw [hlev] at h1 hr
        omega
      refine ⟨rnd (x * 2 ^ (-P).toNat) (y * 2 ^ P.toNat), by rw [Int.neg_neg]; rfl, hnear, by omega, ?_⟩
      have := Nat.mul_pos (Nat.pos_of_ne_zero hy0) (Nat.pow_pos (n := (- -P).toNat) (show 0 < 2 by decide))
      exact Nat.pos_iff_ne_zero.1 this
    by_cases hc : -1074 ≤ L - 52
    · obtain ⟨P, rfl⟩ : ∃ P, L = P + 52 := ⟨L - 52, by omega⟩
      have hP1 : -1074 ≤ P := by omega
      have hP2 : P ≤ 2200 := by omega
      obtain ⟨E, hE⟩ : ∃ E : Nat, (E : Int) = P + 1074 := ⟨(P + 1074).toNat, by omega⟩
      obtain ⟨R, HR, HNEAR, hr3, HY2⟩ := key P E (by omega) hE
      have HE := Lib.hid hE
      clear hE key hc
      go_wp2_with fail
      refine (timesTwo_any _ x y j (-P) _ (HX.out.below hN1) (by omega) (by omega) (by omega)).mono ?_; rintro e w2 ⟨r2, rfl, hR2, hw2⟩
      obtain ⟨v2, u2, rfl, hv2, hu2, hx2, hy2⟩ := hR2
      have HR2 := Lib.hid (show Ra w2 (.agg #[v2, u2]) _ _ _ from ⟨v2, u2, rfl, hv2, hu2, hx2, hy2⟩)
      clear hv2 hu2 hx2 hy2
      go_wp2_with fail
      refine (rounded_any _ _ _ _ _ HR2.out (by omega) HY2.out (by rw [HR.out]; omega)).mono ?_; rintro e w3 ⟨rfl, hw3⟩
      rw [HR.out]
      go_wp2_with fail
      go_ret
      refine ⟨?_, Nx.trans (Nx.trans hN1 hw2) hw3⟩
      rw [HNEAR.out, show ((E * 4503599627370496 + R : Nat) : Int) = (P + 1074) * 4503599627370496 + (R : Int) from by have := HE.out; omega]
      rfl
    · obtain ⟨R, HR, HNEAR, hr3, HY2⟩ := key (-1074) 0 (by omega) rfl
      have hc1 : L - 52 < -1074 := by omega
      clear key
      go_wp2_with fail
      refine (timesTwo_any _ x y j 1074 _ (HX.out.below hN1) (by omega) (by omega) (by omega)).mono ?_; rintro e w2 ⟨r2, rfl, hR2, hw2⟩
      obtain ⟨v2, u2, rfl, hv2, hu2, hx2, hy2⟩ := hR2
      have HR2 := Lib.hid (show Ra w2 (.agg #[v2, u2]) _ _ _ from ⟨v2, u2, rfl, hv2, hu2, hx2, hy2⟩)
      clear hv2 hu2 hx2 hy2
      go_wp2_with fail
      have e1 : (- -1074 : Int) = 1074 := rfl
      refine (rounded_any _ _ _ _ _ HR2.out (by omega) HY2.out (by have := HR.out; rw [e1] at this; rw [this]; omega)).mono ?_; rintro e w3 ⟨rfl, hw3⟩
      have hR := HR.out
      rw [e1] at hR
      rw [hR]
      go_wp2_with fail
      go_ret
      refine ⟨?_, Nx.trans (Nx.trans hN1 hw2) hw3⟩
      rw [HNEAR.out, Nat.zero_mul, Nat.zero_add]
      rfl
end Go.Proofs.YtpaacfoiiihbeaaGreat
