/- The contracts of dec's numbers over one another: less than one, the logarithm of 2, the nearest number. -/
import Derived.Test.YtpaacfoiiihbeaaGreatDecR
import Derived.Test.YtpaacfoiiihbeaaGreatDecP
namespace Go.Proofs.YtpaacfoiiihbeaaGreat
open Go.RowKit

set_option maxRecDepth 100000 in
set_option maxHeartbeats 1600000 in
theorem below1_any (r : Value) (x y j : Nat) (w : World) (h : Ra w r x y j) (hj : j ≤ 150000) :
    Calls Tryz.prog 125 #[r] w fun e w' => e = .returned (.bool (decide (x < y))) ∧ Nx w w' := by
  obtain ⟨v, u, rfl, hv, hu, hx, hy⟩ := h
  obtain ⟨Av, lv, cv, rfl⟩ := hv.sl
  obtain ⟨Au, lu, cu, rfl⟩ := hu.sl
  obtain ⟨C, HC⟩ : ∃ C, Hid (cmpI x y = C) := ⟨_, rfl⟩
  have hres : decide (C < 0) = decide (x < y) := by
    rw [← HC.out]; unfold cmpI
    by_cases h1 : x < y
    · rw [if_pos h1]; simp [h1]
    · rw [if_neg h1]; split <;> simp [h1]
  have HR := Lib.hid hres
  obtain ⟨b, hb⟩ : ∃ b, decide (C < 0) = b := ⟨_, rfl⟩
  rw [← HR.out, hb]
  clear hres
  go_enter Tryz.func125, Tryz.ntmps125
  go_wp2_with fail
  have hn0 := nx0 w (Obj.cells #[Value.slice Av lv cv, Value.slice Au lu cu] 140)
  refine (cmp_n _ _ x y KB _ ((hv.below hn0).few hx hj) ((hu.below hn0).few hy hj) KB_le).mono ?_; rintro e w1 ⟨rfl, hw1⟩
  rw [HC.out]
  go_wp2_with fail
  go_ret
  exact ⟨rfl, nx hn0 hw1⟩

/-- two to the p is not above x over y -/
def GE2 (x y : Nat) (p : Int) : Prop := y * 2 ^ p.toNat ≤ x * 2 ^ (-p).toNat
theorem blen_pos (x : Nat) (h : x ≠ 0) : 1 ≤ blen x ∧ 2 ^ (blen x - 1) ≤ x ∧ x < 2 ^ blen x := by
  unfold blen
  rw [if_neg h]
  exact ⟨by omega, by simpa using Nat.log2_self_le h, (Nat.log2_lt h).1 (by omega)⟩
theorem blen_lt (x j : Nat) (h : x < 2 ^ j) : blen x ≤ j := by
  unfold blen
  split
  · omega
  · rename_i h0
    have := (Nat.log2_lt h0).2 h
    omega
/-- a power more on both sides -/
theorem ge2_iff (x y : Nat) (p : Int) (a b : Nat) (h : (a : Int) - b = p) : GE2 x y p ↔ y * 2 ^ a ≤ x * 2 ^ b := by
  unfold GE2
  rcases Int.le_total 0 p with h0 | h0
  · obtain ⟨n, rfl⟩ := Int.eq_ofNat_of_zero_le h0
    obtain rfl : a = b + n := by omega
    rw [show ((n : Int)).toNat = n from by omega, show (-(n : Int)).toNat = 0 from by omega, Nat.pow_zero, Nat.mul_one, Nat.pow_add, Nat.mul_comm (2 ^ b), ← Nat.mul_assoc]
    exact (Nat.mul_le_mul_right_iff (Nat.pow_pos (by decide))).symm
  · obtain ⟨n, hn⟩ := Int.eq_ofNat_of_zero_le (a := -p) (by omega)
    obtain rfl : b = a + n := by omega
    rw [show p.toNat = 0 from by omega, show (-p).toNat = n from by omega, Nat.pow_zero, Nat.mul_one, Nat.pow_add, Nat.mul_comm (2 ^ a) (2 ^ n), ← Nat.mul_assoc]
    exact (Nat.mul_le_mul_right_iff (Nat.pow_pos (by decide))).symm
theorem ge2_len (x y : Nat) (hx : x ≠ 0) (hy : y ≠ 0) : GE2 x y ((blen x : Int) - blen y - 1) ∧ ¬ GE2 x y ((blen x : Int) - blen y + 1) := by
  obtain ⟨a1, a2, a3⟩ := blen_pos x hx
  obtain ⟨b1, b2, b3⟩ := blen_pos y hy
  constructor
  · rw [ge2_iff x y _ (blen x - 1) (blen y) (by omega)]
    calc y * 2 ^ (blen x - 1) ≤ 2 ^ blen y * 2 ^ (blen x - 1) := Nat.mul_le_mul_right _ (by omega)
      _ = 2 ^ (blen x - 1) * 2 ^ blen y := Nat.mul_comm _ _
      _ ≤ x * 2 ^ blen y := Nat.mul_le_mul_right _ a2
  · rw [ge2_iff x y _ (blen x) (blen y - 1) (by omega), Nat.not_le]
    calc x * 2 ^ (blen y - 1) < 2 ^ blen x * 2 ^ (blen y - 1) := Nat.mul_lt_mul_of_pos_right a3 (Nat.pow_pos (by decide))
      _ = 2 ^ (blen y - 1) * 2 ^ blen x := Nat.mul_comm _ _
      _ ≤ y * 2 ^ blen x := Nat.mul_le_mul_right _ b2

set_option maxRecDepth 100000 in
set_option maxHeartbeats 1600000 in
theorem log2_any (r : Value) (x y j : Nat) (w : World) (h : Ra w r x y j) (hj : j ≤ 20000) (hx0 : x ≠ 0) (hy0 : y ≠ 0) :
    Calls Tryz.prog 117 #[r] w fun e w' => ∃ L : Int, e = .returned (.int .i64 L) ∧ Hid (GE2 x y L ∧ ¬ GE2 x y (L + 1)) ∧ -(j : Int) - 1 ≤ L ∧ L ≤ j ∧ Nx w w' := by
  have HX := Lib.hid h
  obtain ⟨v, u, rfl, hv, hu, hx, hy⟩ := h
  obtain ⟨Av, lv, cv, rfl⟩ := hv.sl
  obtain ⟨Au, lu, cu, rfl⟩ := hu.sl
  obtain ⟨bx, HBX⟩ : ∃ b, Hid (blen x = b) := ⟨_, rfl⟩
  obtain ⟨bYl, HBY⟩ : ∃ b, Hid (blen y = b) := ⟨_, rfl⟩
  have hbx : bx ≤ j := by rw [← HBX.out]; exact blen_lt _ _ hx
  have hby : bYl ≤ j := by rw [← HBY.out]; exact blen_lt _ _ hy
  have hlen := ge2_len x y hx0 hy0
  rw [HBX.out, HBY.out] at hlen
  have HLEN := Lib.hid hlen
  clear hlen
  obtain ⟨n, hn⟩ : ∃ n : Int, (bx : Int) - (bYl : Int) = n := ⟨_, rfl⟩
  obtain ⟨m, hm⟩ : ∃ m : Int, -n = m := ⟨_, rfl⟩
  have hwr : IntKind.i64.wrap m = m := wrap64 _ (by omega) (by omega)
  have hwn : IntKind.i64.wrap n = n := wrap64 _ (by omega) (by omega)
  have hn1' : -20000 ≤ n := by omega
  have hn2' : n ≤ 20000 := by omega
  obtain ⟨b, HB⟩ : ∃ b, Hid (decide (x * 2 ^ m.toNat < y * 2 ^ (-m).toNat) = b) := ⟨_, rfl⟩
  have HG : Hid (b = true ↔ ¬ GE2 x y n) := by
    unfold Hid GE2; rw [← HB.out, decide_eq_true_iff, Nat.not_le, ← hm, Int.neg_neg]
  have hmb : m.natAbs ≤ 20000 := by omega
  have hbn : -(j : Int) ≤ n ∧ n ≤ j := by omega
  have HBN := Lib.hid hbn
  clear hbn
  have HV := Lib.hid hv
  have HU := Lib.hid hu
  obtain ⟨g, hg⟩ : ∃ g, w.heap.size = g := ⟨_, rfl⟩
  go_enter Tryz.func117, Tryz.ntmps117
  go_wp2_with fail
  generalize hW : (w.alloc (Obj.cells #[.slice Av lv cv, .slice Au lu cu] _)) = W
  have hN : Nx w W := by rw [← hW]; exact nx0 _ _
  have hB1 : Blk W g g #[.slice Av lv cv, .slice Au lu cu] 140 := by rw [← hW, ← hg]; exact Blk.new w _ _
  have q0 : ∀ x : Gr W, x.1.cell? ⟨g, 0, none⟩ = some (.slice Av lv cv) := fun x => (hB1.below x.2).cell 0
  have q1 : ∀ x : Gr W, x.1.cell? ⟨g, 1, none⟩ = some (.slice Au lu cu) := fun x => (hB1.below x.2).cell 1
  refine wp_region_hyb [(0, true), (1, true), (3, true), (4, true), (2, false), (5, false), (6, true), (7, true)] rfl (by kernel_rfl) ?_
  iterate 4 (refine hyb_calm rfl (fun K hK => ?_); go_simp; refine hK _ ?_; clear hK K)
  refine hyb_alone rfl (fun w1 hn1 K hK => ?_)
  go_simp
  refine (bits_n _ x KB _ ((hv.below (Nx.trans hN hn1)).few hx (by omega)) KB_le).mono ?_; rintro e w' ⟨rfl, rfl⟩
  rw [HBX.out]
  refine hK _ _ (Nx.refl _) ?_
  clear hK K
  refine hyb_alone rfl (fun w2 hn2 K hK => ?_)
  go_simp
  refine (bits_n _ y KB _ ((hu.below (Nx.trans (Nx.trans hN hn1) hn2)).few hy (by omega)) KB_le).mono ?_; rintro e w' ⟨rfl, rfl⟩
  rw [HBY.out]
  refine hK _ _ (Nx.refl _) ?_
  clear hK K
  iterate 2 (refine hyb_calm rfl (fun K hK => ?_); go_simp; refine hK _ ?_; clear hK K)
  refine hyb_nil (fun w3 hn3 => ?_)
  have hN3 : Nx w w3 := Nx.trans (Nx.trans (Nx.trans hN hn1) hn2) hn3
  have hB3 := hB1.below (Nx.trans (Nx.trans hn1 hn2) hn3)
  have c0 : w3.cell? ⟨g, 0, none⟩ = some (.slice Av lv cv) := hB3.cell 0
  have c1 : w3.cell? ⟨g, 1, none⟩ = some (.slice Au lu cu) := hB3.cell 1
  clear q0 q1
  go_wp2_with fail
  refine (timesTwo_any _ x y j m _ (HX.out.below hN3) (by omega) (by omega) (by omega)).mono ?_; rintro e w4 ⟨r4, rfl, hR4, hw4⟩
  obtain ⟨v4, u4, rfl, hv4, hu4, hx4, hy4⟩ := hR4
  have HR4 := Lib.hid (show Ra w4 (.agg #[v4, u4]) _ _ _ from ⟨v4, u4, rfl, hv4, hu4, hx4, hy4⟩)
  clear hv4 hu4 hx4 hy4
  go_wp2_with fail
  refine (below1_any _ _ _ _ _ HR4.out (by omega)).mono ?_; rintro e w5 ⟨rfl, hw5⟩
  rw [HB.out]
  have hN5 : Nx w w5 := Nx.trans (Nx.trans hN3 hw4) hw5
  have hl := HLEN.out
  rw [hn] at hl
  have HL := Lib.hid hl
  clear hl hn hm
  cases b
  · go_wp2_with fail
    go_ret
    refine ⟨n, rfl, ⟨?_, HL.out.2⟩, by have := HBN.out; omega, HBN.out.2, hN5⟩
    have := HG.out
    simpa using this
  · go_wp2_with fail
    go_ret
    refine ⟨n - 1, rfl, ⟨HL.out.1, ?_⟩, by have := HBN.out; omega, by have := HBN.out; omega, hN5⟩
    rw [Int.sub_add_cancel]
    have := HG.out; simpa using this

set_option maxRecDepth 100000 in
set_option maxHeartbeats 1600000 in
theorem rounded_any (r : Value) (x y j : Nat) (w : World) (h : Ra w r x y j) (hj : j ≤ 100000) (hy0 : y ≠ 0) (hq : rnd x y < 18446744073709551616) :
    Calls Tryz.prog 119 #[r] w fun e w' => e = .returned (.int .u64 (rnd x y : Nat)) ∧ Nx w w' := by
  obtain ⟨v, u, rfl, hv, hu, hx, hy⟩ := h
  obtain ⟨Av, lv, cv, rfl⟩ := hv.sl
  obtain ⟨Au, lu, cu, rfl⟩ := hu.sl
  obtain ⟨q, HQ⟩ : ∃ q, Hid (x / y = q) := ⟨_, rfl⟩
  obtain ⟨s, HS⟩ : ∃ q, Hid (x % y = q) := ⟨_, rfl⟩
  obtain ⟨C, HC⟩ : ∃ C, Hid (cmpI (s * 2) y = C) := ⟨_, rfl⟩
  have hsx : s < 2 ^ j := Nat.lt_of_le_of_lt (by rw [← HS.out]; exact Nat.mod_le _ _) hx
  have hlo := rnd_lo x y
  rw [HQ.out] at hlo
  have hq64 : q < 18446744073709551616 := by omega
  have hrn : rnd x y = if C = 1 ∨ C = 0 ∧ q % 2 = 1 then q + 1 else q := by
    unfold rnd
    rw [HQ.out, HS.out, ← HC.out]
    unfold cmpI
    by_cases h1 : s * 2 < y
    · rw [if_pos h1, if_neg (by omega), if_neg (by omega)]
    · by_cases h2 : y < s * 2
      · rw [if_neg h1, if_pos h2, if_pos (by omega), if_pos (by omega)]
      · rw [if_neg h1, if_neg h2]
        by_cases h3 : q % 2 = 1
        · rw [if_pos (by omega), if_pos (by omega)]
        · rw [if_neg (by omega), if_neg (by omega)]
  have hcv : C = 1 ∨ C = 0 ∨ C = -1 := by
    rw [← HC.out]; unfold cmpI; split
    · exact .inr (.inr rfl)
    · split
      · exact .inl rfl
      · exact .inr (.inl rfl)
  have HRN := Lib.hid hrn
  have HQL := Lib.hid hq
  have hmod : q % 18446744073709551616 = q := Nat.mod_eq_of_lt hq64
  have HM := Lib.hid hmod
  have hq0 : (q : Int) ≤ 18446744073709551615 := by omega
  clear hrn hlo hmod hq hq64
  obtain ⟨g, hg⟩ : ∃ g, w.heap.size = g := ⟨_, rfl⟩
  go_enter Tryz.func119, Tryz.ntmps119
  go_wp2_with fail
  have hN : Nx w (w.alloc (Obj.cells #[.slice Av lv cv, .slice Au lu cu] 140)) := nx0 _ _
  have hB1 : Blk (w.alloc (Obj.cells #[.slice Av lv cv, .slice Au lu cu] 140)) g g #[.slice Av lv cv, .slice Au lu cu] 140 := by rw [← hg]; exact Blk.new w _ _
  refine (div_n _ _ x y KB _ ((hv.below hN).few hx (by omega)) ((hu.below hN).few hy (by omega)) KB_le).mono ?_; rintro e w1 ⟨vq, vr, ok, rfl, hdiv, hw1⟩
  unfold DivN at hdiv
  rw [if_neg hy0, HQ.out, HS.out] at hdiv
  obtain ⟨hvq, hvr, rfl⟩ := hdiv
  have hN1 := Nx.trans hN hw1
  have hB2 := hB1.below hw1
  have c0 : w1.cell? ⟨g, 0, none⟩ = some (.slice Av lv cv) := hB2.cell 0
  have c1 : w1.cell? ⟨g, 1, none⟩ = some (.slice Au lu cu) := hB2.cell 1
  obtain ⟨Aq, lq, cq, rfl⟩ := hvq.sl
  obtain ⟨Ar, lr, cr, rfl⟩ := hvr.sl
  go_wp2_with fail
  refine (low_n _ q 2 _ (hvq.num (by omega)) (by decide)).mono ?_; rintro e w' ⟨rfl, rfl⟩
  rw [HM.out]
  go_wp2_with fail
  have q0 : ∀ x : Gr w1, x.1.cell? ⟨g, 0, none⟩ = some (.slice Av lv cv) := fun x => (hB2.below x.2).cell 0
  have q1 : ∀ x : Gr w1, x.1.cell? ⟨g, 1, none⟩ = some (.slice Au lu cu) := fun x => (hB2.below x.2).cell 1
  refine wp_region_hyb [(0, true), (2, true), (3, true), (1, false), (4, false), (5, true)] rfl (by kernel_rfl) ?_
  iterate 3 (refine hyb_calm rfl (fun K hK => ?_); go_simp; refine hK _ ?_; clear hK K)
  refine hyb_alone rfl (fun w2 hn2 K hK => ?_)
  go_simp
  refine (shl_n _ s KB 1 _ ((hvr.below hn2).few hsx (by omega)) KB_le (by decide) (by decide)).mono ?_; rintro e w3 ⟨v3, rfl, hv3, hw3⟩
  have hv3 := hv3.cast (show shV s 1 = s * 2 from rfl)
  refine hK _ _ hw3 ?_
  clear hK K
  refine hyb_alone rfl (fun w4 hn4 K hK => ?_)
  go_simp
  have hN4 : Nx w w4 := Nx.trans (Nx.trans (Nx.trans hN1 hn2) hw3) hn4
  refine (cmp_n _ _ (s * 2) y KB _ ((hv3.below hn4).few (show s * 2 < 2 ^ (j + 1) by rw [Nat.pow_succ]; omega) (by omega)) ((hu.below hN4).few hy (by omega)) KB_le).mono ?_; rintro e w5 ⟨rfl, hw5⟩
  rw [HC.out]
  refine hK _ _ hw5 ?_
  clear hK K
  refine hyb_calm rfl (fun K hK => ?_); go_simp; refine hK _ ?_; clear hK K
  refine hyb_nil (fun w6 hn6 => ?_)
  have hN6 : Nx w w6 := Nx.trans (Nx.trans hN4 hw5) hn6
  clear q0 q1 c0 c1
  have hup : ∀ Q : Nat, rnd x y = Q → (Q : Int) ≤ 18446744073709551615 := fun Q h => by have := HQL.out; omega
  have HUP := Lib.hid hup
  clear hup
  rcases hcv with rfl | rfl | rfl
  · have hr1 : rnd x y = q + 1 := by rw [HRN.out, if_pos (.inl rfl)]
    have hq1 := HUP.out _ hr1
    have hq2 : (q : Int) ≤ 18446744073709551614 := by omega
    have HR1 := Lib.hid hr1
    clear hr1 hq1
    go_wp2_with fail
    go_ret
    exact ⟨by rw [HR1.out]; rfl, hN6⟩
  · by_cases hodd : q % 2 = 1
    · have hr1 : rnd x y = q + 1 := by rw [HRN.out, if_pos (.inr ⟨rfl, hodd⟩)]
      have hq1 := HUP.out _ hr1
      have hq2 : (q : Int) ≤ 18446744073709551614 := by omega
      have b1 : ((q : Int) % 2 == 1) = true := by rw [beq_iff_eq]; omega
      have HR1 := Lib.hid hr1
      clear hr1 hq1 hodd
      go_wp2_with fail
      go_ret
      exact ⟨by rw [HR1.out]; rfl, hN6⟩
    · have hr1 : rnd x y = q := by rw [HRN.out, if_neg (by omega)]
      have b1 : ((q : Int) % 2 == 1) = false := by rw [beq_eq_false_iff_ne]; omega
      have HR1 := Lib.hid hr1
      clear hr1 hodd
      go_wp2_with fail
      go_ret
      exact ⟨by rw [HR1.out]; rfl, hN6⟩
  · have hr1 : rnd x y = q := by rw [HRN.out, if_neg (by omega)]
    have HR1 := Lib.hid hr1
    clear hr1
    go_wp2_with fail
    go_ret
    exact ⟨by rw [HR1.out]; rfl, hN6⟩
end Go.Proofs.YtpaacfoiiihbeaaGreat
