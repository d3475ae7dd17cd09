/- The contract of big: one digit of a quotient. -/
import Derived.Test.YtiefheocomkfiaaBigH
namespace Go.Proofs.Ytiefheocomkfiaa
open Go.RowKit

theorem digit_guess (us ds : List UInt32) (m hi dt qh G : Nat) (hU : us.length = m + 2) (hD : ds.length = m + 1) (hhi : ent us m + ent us (m + 1) * 4294967296 = hi) (hdt : ent ds m = dt) (hdt0 : 0 < dt) (hq : hi / dt = qh)
    (hlt : val us < 4294967296 * val ds) (hG : qh ≤ G ∨ 4294967295 ≤ G) : val us / val ds ≤ G := by
  rcases hG with hG | hG
  · have hP : 0 < 4294967296 ^ m := Nat.pow_pos (by decide)
    have h1 := val_lt us
    have h2 := val_lt ds
    rw [hU, show m + 2 = m + 1 + 1 from rfl, Nat.pow_succ, Nat.pow_succ] at h1
    rw [hD, Nat.pow_succ] at h2
    have h3 : val us / 4294967296 ^ m < 4294967296 * 4294967296 := Nat.div_lt_of_lt_mul (by rw [← Nat.mul_assoc]; exact h1)
    have h4 : val ds / 4294967296 ^ m < 4294967296 := Nat.div_lt_of_lt_mul h2
    have h5 : val us / 4294967296 ^ m = hi := by
      rw [← hhi, ent_val, ent_val, Nat.pow_succ, ← Nat.div_div_eq_div_mul]
      generalize val us / 4294967296 ^ m = W at *
      omega
    have h6 : val ds / 4294967296 ^ m = dt := by
      rw [← hdt, ent_val, Nat.mod_eq_of_lt h4]
    refine Nat.le_trans ?_ hG
    rw [← hq, Nat.le_div_iff_mul_le hdt0, ← h5, Nat.le_div_iff_mul_le hP, Nat.mul_assoc]
    refine Nat.le_trans (Nat.mul_le_mul_left _ ?_) (Nat.div_mul_le_self (val us) (val ds))
    rw [← h6]; exact Nat.div_mul_le_self _ _
  · have : val us / val ds < 4294967296 := Nat.div_lt_of_lt_mul (by rw [Nat.mul_comm]; exact hlt)
    omega

set_option maxRecDepth 100000 in
set_option maxHeartbeats 1600000 in
theorem digit_any (B g off L cap m : Nat) (us : List UInt32) (D : Option Addr) (ds : List UInt32) (dc : Nat) (w : World) (hrow : Row w B g off cap us) (hL : Hid (us.length = L)) (hL1 : L ≤ ds.length + 1) (hL2 : ds.length + 1 ≤ L)
    (hr : Rdx g w D ds) (hd : ds.length ≤ dc) (hl : (ds.length : Int) ≤ 90000) (hm1 : ds.length ≤ m + 1) (hm2 : m + 1 ≤ ds.length) (htop : Hid (ent ds m ≠ 0)) (hlt : Hid (val us < 4294967296 * val ds)) :
    Calls Try.prog 78 #[.slice (some ⟨g, off, none⟩) L cap, .slice D ds.length dc] w fun e w' => ∃ us', e = .returned (.int .u32 (val us / val ds : Nat)) ∧ Hid (us'.length = L) ∧ Row w' B g off cap us' ∧ Only g off (off + L) w w' ∧ Hid (val us' = val us % val ds) := by
  obtain ⟨u1, HU1⟩ : ∃ u, Hid (ent us ds.length = u) := ⟨_, rfl⟩
  obtain ⟨u0, HU0⟩ : ∃ u, Hid (ent us m = u) := ⟨_, rfl⟩
  obtain ⟨dt, HD⟩ : ∃ u, Hid (ent ds m = u) := ⟨_, rfl⟩
  have lu1 : (u1 : Int) ≤ 4294967295 := by rw [← HU1.out]; exact ent_le us _
  have lu0 : (u0 : Int) ≤ 4294967295 := by rw [← HU0.out]; exact ent_le us _
  have ld : (dt : Int) ≤ 4294967295 := by rw [← HD.out]; exact ent_le ds _
  have ld0 : 0 < dt := by have := htop.out; rw [HD.out] at this; omega
  have hUL : us.length = ds.length + 1 := by have := hL.out; omega
  have hc1 := hrow.cell (i := ds.length) (by omega) HU1
  have hc0 := hrow.cell (i := m) (by omega) HU0
  obtain ⟨bx, offx, rfl, hbx, hcx⟩ := rd_cell hr.rd (i := m) (by omega) HD
  clear hUL
  have hgl := hrow.hg
  have i1 : IntKind.i64.wrap ((ds.length : Int) - 1) = (m : Int) := by rw [IntKind.wrap_i64]; omega
  have i2 : m < L := by omega
  have i3 : ds.length < L := by omega
  have i4 : m < ds.length := by omega
  obtain ⟨hi, HH⟩ : ∃ hi, Hid (u0 + u1 * 4294967296 = hi) := ⟨_, rfl⟩
  have hor : bits .or .u64 (IntKind.u64.wrap (IntKind.u64.wrap (u1 : Int) * 4294967296)) (IntKind.u64.wrap (u0 : Int)) = (hi : Int) := by
    have e : ∀ x : Int, IntKind.u64.wrap x = x % 18446744073709551616 := fun x => by simp [IntKind.wrap, IntKind.bits, IntKind.signed]
    have e1 : (u1 : Int) % 18446744073709551616 = u1 := by omega
    have e0 : (u0 : Int) % 18446744073709551616 = u0 := by omega
    have e2 : (u1 : Int) * 4294967296 % 18446744073709551616 = u1 * 4294967296 := by omega
    rw [e, e, e, e1, e2, e0, or_lo u0 u1 lu0 lu1, HH.out]
  have lhi : (hi : Int) ≤ 18446744073709551615 := by have := HH.out; omega
  go_enter Try.func78, Try.ntmps78
  go_upto_region 2 with (fail)
  have f1 : ∀ x : Gr w, x.1.cell? ⟨g, off + ds.length, none⟩ = some (.int .u32 (u1 : Int)) := fun x => (x.2.cell (by exact hgl)).trans hc1
  have f0 : ∀ x : Gr w, x.1.cell? ⟨g, off + m, none⟩ = some (.int .u32 (u0 : Int)) := fun x => (x.2.cell (by exact hgl)).trans hc0
  refine wp_region_hyb [(0, true), (1, true), (2, true), (3, true), (4, true), (5, true), (6, true), (7, true), (8, true), (9, true), (10, true), (11, true), (12, true), (13, true)] (by kernel_rfl) (by kernel_rfl) ?_
  iterate 14 (refine hyb_calm rfl (fun K hK => ?_); go_simp; refine hK _ ?_; clear hK K)
  clear f1 f0
  refine hyb_nil (fun w1 hn1 => ?_)
  have hrow1 := hrow.below hn1
  have honly1 := (Only.refl g off (off + L) w).nx hgl hn1
  have hrx1 := hr.only honly1
  have hcx1 : w1.cell? ⟨bx, offx + m, none⟩ = some (.int .u32 (dt : Int)) := (hn1.cell (by exact hbx)).trans hcx
  clear hrow hcx hc1 hc0 i1 hor
  have i1 : ((ds.length : Int) - 1) = (m : Int) := by omega
  obtain ⟨qh, HQ⟩ : ∃ qh, Hid (hi / dt = qh) := ⟨_, rfl⟩
  have hqh : qh ≤ hi := by rw [← HQ.out]; exact Nat.div_le_self _ _
  have hdv : IntKind.u64.wrap ((hi : Int) / (dt : Int)) = (qh : Int) := by
    have e : ∀ x : Int, IntKind.u64.wrap x = x % 18446744073709551616 := fun x => by simp [IntKind.wrap, IntKind.bits, IntKind.signed]
    have e2 : (hi : Int) / (dt : Int) = (qh : Int) := by rw [← HQ.out]; rfl
    rw [e, e2]; omega
  obtain ⟨G, hG, hG1, hG2, hG3⟩ : ∃ G : Nat, (if (4294967295 : Int) < (qh : Int) then (4294967295 : Int) else (qh : Int)) = (G : Int) ∧ G ≤ 4294967295 ∧ G ≤ qh ∧ (qh ≤ G ∨ 4294967295 ≤ G) := by
    by_cases h : (4294967295 : Int) < (qh : Int)
    · exact ⟨4294967295, by rw [if_pos h]; rfl, by omega, by omega, by omega⟩
    · exact ⟨qh, by rw [if_neg h], by omega, by omega, by omega⟩
  have hguess : Hid (val us / val ds ≤ G) := digit_guess us ds m hi dt qh G (by have := hL.out; omega) (by omega) (by have := HH.out; rw [HU0.out, show m + 1 = ds.length from by omega, HU1.out]; exact this) HD.out ld0 HQ.out hlt.out (by omega)
  go_wp2_with fail
  clear hG hG2 hG3 hqh hdv
  refine (takeTimes_any B g off L cap us _ ds dc G _ hrow1 hL hL1 hL2 hrx1 hd (by omega) (by omega)).mono ?_; rintro e w2 ⟨us2, be2, rfl, hL2', hrow2, honly2, HT2⟩
  have honly12 := honly1.trans honly2
  have HR2 := Lib.hid hrow2
  clear hrow1 hrow2 honly1 honly2 hrx1 hcx1 i1
  have hD0 : Hid (0 < val ds) := by
    unfold Hid
    rcases Nat.eq_zero_or_pos (val ds) with h | h
    · have := hlt.out; rw [h] at this; omega
    · exact h
  go_wp2_with fail
  go_loopw [7, 8] (fun gv bv wr => ∃ (gq : Nat) (be : Bool) (ts : List UInt32), gv = .int .u64 gq ∧ bv = .bool be ∧ gq ≤ 4294967295 ∧ Hid (val us / val ds ≤ gq) ∧ Hid (ts.length = L) ∧
    Hid (val ts + gq * val ds = val us + (if be then 4294967296 ^ L else 0)) ∧ Row wr B g off cap ts ∧ Only g off (off + L) w wr) (fun gv _ _ => (intOf gv).toNat)
  case atStart =>
    refine ⟨G, be2, us2, rfl, rfl, hG1, hguess, hL2', ?_, HR2.out, honly12⟩
    have := HT2.out; unfold Taken at this; rw [hL.out] at this; exact this
  case round =>
    obtain ⟨gq, be, ts, rfl, rfl, hgq, HQ1, HL, HV, hrow, honly⟩ := hrel
    cases be
    · have hfin : Hid (val us / val ds = gq ∧ val ts = val us % val ds) := by
        have h := HV.out
        simp only [Bool.false_eq_true, if_false, Nat.add_zero] at h
        have h1 : gq ≤ val us / val ds := (Nat.le_div_iff_mul_le hD0.out).2 (by omega)
        have h2 := HQ1.out
        have h3 : gq = val us / val ds := by omega
        have h4 := Nat.div_add_mod (val us) (val ds)
        rw [← h3, Nat.mul_comm] at h4
        exact ⟨h3.symm, by omega⟩
      go_wp2_with fail
      go_ret
      refine ⟨ts, ?_, HL, hrow, honly, hfin.out.2⟩
      rw [hfin.out.1]
      rfl
    · have hgt : val us < gq * val ds := by
        have h := HV.out
        have h1 := val_lt ts
        rw [HL.out] at h1
        simp only [if_true] at h
        omega
      have hg1 : 1 ≤ gq := by
        rcases Nat.eq_zero_or_pos gq with h | h
        · rw [h, Nat.zero_mul] at hgt; omega
        · exact h
      have HGT := Lib.hid hgt
      clear hgt
      have hrx := hr.only honly
      go_wp2_with fail
      refine (addBack_any B g off L cap ts _ ds dc _ hrow HL hL1 hL2 hrx hd (by omega)).mono ?_; rintro e w3 ⟨us3, be3, rfl, hL3, hrow3, honly3, HA3⟩
      clear hrow hrx
      go_wp2_with fail
      go_roundw
      case rel =>
        refine ⟨gq - 1, !be3, us3, by go_num, rfl, by omega, ?_, hL3, ?_, hrow3, honly.trans honly3⟩
        · have : val us / val ds < gq := (Nat.div_lt_iff_lt_mul hD0.out).2 HGT.out
          unfold Hid; omega
        · have h := HV.out
          have h3 := HA3.out
          unfold Added at h3
          rw [HL.out] at h3
          have h4 : gq * val ds = (gq - 1) * val ds + val ds := by
            rw [← Nat.succ_mul]; congr 1; omega
          unfold Hid
          cases be3 <;> simp at h h3 ⊢ <;> omega
      case measure => simp [intOf]; omega
end Go.Proofs.Ytiefheocomkfiaa
