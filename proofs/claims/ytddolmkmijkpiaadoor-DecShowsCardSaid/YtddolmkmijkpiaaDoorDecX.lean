/- The contract of dec.Show: the digits that are shown. -/
import Derived.Test.YtddolmkmijkpiaaDoorDecV
namespace Go.Proofs.YtddolmkmijkpiaaDoor
open Go.RowKit

theorem two_ten : 2 ^ (3 * 400) ≤ 10 ^ (400 : Nat) := by
  obtain ⟨k, hk⟩ : ∃ k : Nat, k = 400 := ⟨_, rfl⟩
  rw [← hk, Nat.pow_mul]
  exact Nat.pow_le_pow_left (by decide) k

/-- a finite number over one another -/
def exX (b : Nat) : Nat := exM b * 2 ^ (exP b).toNat
def exY (b : Nat) : Nat := 1 * 2 ^ (-exP b).toNat
theorem exP_b (b : Nat) (hb : b < LIM) : -1074 ≤ exP b ∧ exP b ≤ 971 := by
  unfold exP; unfold LIM at hb; split <;> omega
theorem exM_b (b : Nat) (h0 : b ≠ 0) : 1 ≤ exM b ∧ exM b < 9007199254740992 := by
  unfold exM; split <;> omega
theorem exY_pos (b : Nat) : 0 < exY b := by unfold exY; rw [Nat.one_mul]; exact Nat.pow_pos (by decide)
theorem exX_pos (b : Nat) (h0 : b ≠ 0) : 0 < exX b := Nat.mul_pos (exM_b b h0).1 (Nat.pow_pos (by decide))
theorem ex_lo (b : Nat) (hb : b < LIM) (h0 : b ≠ 0) : GE10 (exX b) (exY b) (-400) := by
  have h1 := exP_b b hb
  have h2 := exX_pos b h0
  have h3 := two_ten
  unfold GE10
  rw [show ((-400 : Int)).toNat = 0 from rfl, Nat.pow_zero, Nat.mul_one, show (- (-400 : Int)).toNat = 400 from rfl]
  unfold exY
  rw [Nat.one_mul]
  calc 2 ^ (-exP b).toNat ≤ 2 ^ (3 * 400) := Nat.pow_le_pow_right (by decide) (by omega)
    _ ≤ 10 ^ 400 := h3
    _ ≤ exX b * 10 ^ 400 := Nat.le_mul_of_pos_left _ h2
theorem ex_hi (b : Nat) (hb : b < LIM) (h0 : b ≠ 0) : ¬ GE10 (exX b) (exY b) 400 := by
  have h1 := exP_b b hb
  have h2 := exM_b b h0
  have h3 := two_ten
  have h4 := exY_pos b
  unfold GE10
  rw [show (-(400 : Int)).toNat = 0 from rfl, Nat.pow_zero, Nat.mul_one, show ((400 : Int)).toNat = 400 from rfl, Nat.not_le]
  unfold exX
  calc exM b * 2 ^ (exP b).toNat < 2 ^ 53 * 2 ^ (exP b).toNat := Nat.mul_lt_mul_of_pos_right (by omega) (Nat.pow_pos (by decide))
    _ = 2 ^ (53 + (exP b).toNat) := (Nat.pow_add ..).symm
    _ ≤ 2 ^ (3 * 400) := Nat.pow_le_pow_right (by decide) (by omega)
    _ ≤ 10 ^ 400 := h3
    _ ≤ exY b * 10 ^ 400 := Nat.le_mul_of_pos_left _ h4

/-- seventeen digits of x over y, of which the first stands at ten to the T -/
def digN (x y : Nat) (T : Int) : Nat := rnd (x * 10 ^ (16 - T).toNat) (y * 10 ^ (-(16 - T)).toNat)
theorem digN_b (x y : Nat) (T : Int) (hy : 0 < y) (h1 : GE10 x y T) (h2 : ¬ GE10 x y (T + 1)) : 10000000000000000 ≤ digN x y T ∧ digN x y T ≤ 100000000000000000 := by
  have hY : 0 < y * 10 ^ (-(16 - T)).toNat := Nat.mul_pos hy (Nat.pow_pos (by decide))
  rw [ge10_iff x y T ((-(16 - T)).toNat + 16) (16 - T).toNat (by omega), Nat.pow_add, ← Nat.mul_assoc] at h1
  rw [ge10_iff x y (T + 1) ((-(16 - T)).toNat + 17) (16 - T).toNat (by omega), Nat.pow_add, ← Nat.mul_assoc, Nat.not_le] at h2
  unfold digN
  exact ⟨rnd_ge _ _ _ hY (by omega), rnd_le _ _ _ hY (by omega)⟩

set_option maxRecDepth 100000 in
set_option maxHeartbeats 1600000 in
theorem shortened_any (r : Value) (x y j : Nat) (w : World) (h : Ra w r x y j) (hj : j ≤ 2000) (hx0 : x ≠ 0) (hy0 : y ≠ 0) (hlo : GE10 x y (-400)) (hhi : ¬ GE10 x y 400) (ht : Tab w) :
    Calls Tryd.prog 31 #[r] w fun e w' => ∃ (T : Int) (t : ByteArray), e = .returned (.tuple #[.string t, .int .i64 (T + ((decS (digN x y T)).length : Nat) - 17)]) ∧ Hid (GE10 x y T ∧ ¬ GE10 x y (T + 1)) ∧ -400 ≤ T ∧ T ≤ 400 ∧ Hid (Tx t (decS (digN x y T))) ∧ Nx w w' := by
  have HX := Lib.hid h
  obtain ⟨v, u, rfl, hv, hu, hx, hy⟩ := h
  obtain ⟨Av, lv, cv, rfl⟩ := hv.sl
  obtain ⟨Au, lu, cu, rfl⟩ := hu.sl
  have HLO := Lib.hid hlo
  have HHI := Lib.hid hhi
  clear hlo hhi
  obtain ⟨g, hg⟩ : ∃ g, w.heap.size = g := ⟨_, rfl⟩
  have hN : Nx w (w.alloc (Obj.cells #[.slice Av lv cv, .slice Au lu cu] 50)) := nx0 _ _
  have hB1 : Blk (w.alloc (Obj.cells #[.slice Av lv cv, .slice Au lu cu] 50)) g g #[.slice Av lv cv, .slice Au lu cu] 50 := by rw [← hg]; exact Blk.new w _ _
  go_enter Tryd.func31, Tryd.ntmps31
  go_wp2_with fail
  refine (log10_any _ x y j _ (HX.out.below hN) hj hx0 hy0 HLO.out HHI.out).mono ?_; rintro e w1 ⟨T, rfl, HT, hT1, hT2, hw1⟩
  have hN1 := Nx.trans hN hw1
  have hB2 := hB1.below hw1
  have c0 : w1.cell? ⟨g, 0, none⟩ = some (.slice Av lv cv) := hB2.cell 0
  have c1 : w1.cell? ⟨g, 1, none⟩ = some (.slice Au lu cu) := hB2.cell 1
  have hdb := digN_b x y T (Nat.pos_of_ne_zero hy0) HT.out.1 HT.out.2
  obtain ⟨D, HD⟩ : ∃ D, Hid (digN x y T = D) := ⟨_, rfl⟩
  rw [HD.out] at hdb
  have hd1 := hdb.1
  have hd2 := hdb.2
  clear hdb
  have hln : (decS D).length ≤ 20 := decS_len 19 D (by omega)
  obtain ⟨n, hn⟩ : ∃ n, (decS D).length = n := ⟨_, rfl⟩
  have HN := Lib.hid hn
  rw [hn] at hln
  clear hn
  go_wp2_with fail
  refine (timesTen_any _ x y j (16 - T) _ (HX.out.below hN1) (by omega) (by omega) (by omega)).mono ?_; rintro e w4 ⟨r4, rfl, hR4, hw4⟩
  obtain ⟨v4, u4, rfl, hv4, hu4, hx4, hy4⟩ := hR4
  have HR4 := Lib.hid (show Ra w4 (.agg #[v4, u4]) _ _ _ from ⟨v4, u4, rfl, hv4, hu4, hx4, hy4⟩)
  clear hv4 hu4 hx4 hy4
  have hyy : y * 10 ^ (-(16 - T)).toNat ≠ 0 := Nat.pos_iff_ne_zero.1 (Nat.mul_pos (Nat.pos_of_ne_zero hy0) (Nat.pow_pos (by decide)))
  have HYY := Lib.hid hyy
  clear hyy
  go_wp2_with fail
  have hdd : rnd (x * 10 ^ (16 - T).toNat) (y * 10 ^ (-(16 - T)).toNat) = D := HD.out
  refine (rounded_any _ _ _ _ _ HR4.out (by omega) HYY.out (by rw [hdd]; omega)).mono ?_; rintro e w5 ⟨rfl, hw5⟩
  rw [hdd]
  clear hdd
  have hN5 := Nx.trans (Nx.trans hN1 hw4) hw5
  clear c0 c1
  go_wp2_with fail
  refine (formatUint_any D _ (by omega) (by omega) (ht.nx hN5)).mono ?_; rintro e w6 ⟨t, rfl, HTx, hw6⟩
  have hts : t.size = n := by rw [HTx.out.size, HN.out]
  go_wp2_with fail
  go_ret2
  refine ⟨T, t, ?_, HT, hT1, hT2, by rw [HD.out]; exact HTx, Nx.trans hN5 hw6⟩
  rw [HD.out, HN.out]
  rfl
end Go.Proofs.YtddolmkmijkpiaaDoor
