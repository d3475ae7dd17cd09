/- The contracts of the document's answers for big: sums, differences. -/
import Derived.Test.YtddolmkmijkpiaaDoorRefBigA
namespace Go.Proofs.YtddolmkmijkpiaaDoor
open Go.RowKit

theorem add_step (V cc P X Y S : Nat) (hS : S = cc + X / P % 4294967296 + Y / P % 4294967296) (h : V + cc * P = X % P + Y % P) :
    V + P * (S % 4294967296) + S / 4294967296 * (P * 4294967296) = X % (P * 4294967296) + Y % (P * 4294967296) := by
  rw [Nat.mod_mul, Nat.mod_mul]
  have h1 : P * S = P * (S % 4294967296) + S / 4294967296 * (P * 4294967296) := by
    have := Nat.div_add_mod S 4294967296
    have h2 : P * S = P * (4294967296 * (S / 4294967296) + S % 4294967296) := by rw [this]
    rw [h2, Nat.mul_add, Nat.add_comm, ← Nat.mul_assoc, Nat.mul_comm (P * 4294967296)]
  have h3 : P * S = P * cc + P * (X / P % 4294967296) + P * (Y / P % 4294967296) := by rw [hS, Nat.mul_add, Nat.mul_add]
  have h4 : P * cc = cc * P := Nat.mul_comm _ _
  omega
theorem val_snoc (l : List UInt32) (x : UInt32) : val (l ++ [x]) = val l + 4294967296 ^ l.length * x.toNat := by
  rw [val_append, val_cons]; simp [val]

set_option maxRecDepth 100000 in
set_option maxHeartbeats 800000 in
theorem refAdd_any (A : Option Addr) (xs : List UInt32) (c : Nat) (B : Option Addr) (ys : List UInt32) (d : Nat) (w : World) (hr : Rd uv w A xs) (hc : xs.length ≤ c) (hl : (xs.length : Int) ≤ 100000) (hs : Rd uv w B ys) (hd : ys.length ≤ d) (hl2 : (ys.length : Int) ≤ 100000) :
    Calls Tryd.prog 26 #[.slice A xs.length c, .slice B ys.length d] w fun e w' => ∃ v', e = .returned v' ∧ Own uv 57 w' w.heap.size v' (limbs (val xs + val ys)) ∧ Below w.heap.size w w' := by
  go_enter Tryd.func26, Tryd.ntmps26
  go_wp2_with fail
  go_loopw [5, 6, 7] (fun o v i wr => ∃ (k cc : Nat) (os : List UInt32), i = .int .i64 k ∧ v = .int .u64 cc ∧ cc ≤ 1 ∧ k + cc ≤ xs.length + ys.length + 1 ∧ os.length ≤ k ∧ k ≤ os.length ∧
    Hid (val os + cc * 4294967296 ^ k = val xs % 4294967296 ^ k + val ys % 4294967296 ^ k) ∧ Own uv 57 wr w.heap.size o os ∧ Below w.heap.size w wr) (fun _ _ i _ => xs.length + ys.length + 1 - (intOf i).toNat)
  case atStart => exact ⟨0, 0, [], rfl, rfl, by omega, by omega, by simp, by simp, by unfold Hid; simp [val, Nat.mod_one], Own.nil_, Below.refl _ _⟩
  case round =>
    obtain ⟨k, cc, os, rfl, rfl, hcc, hk, ho1, ho2, HV, hown, hbel⟩ := hrel
    have hsz := hbel.size
    have hrw := hr.below hbel
    have hsw := hs.below hbel
    by_cases hgo : k < xs.length ∨ k < ys.length ∨ 0 < cc
    · obtain ⟨a, HX⟩ : ∃ a, Hid (ent xs k = a) := ⟨_, rfl⟩
      obtain ⟨b, HY⟩ : ∃ b, Hid (ent ys k = b) := ⟨_, rfl⟩
      have la : (a : Int) ≤ 4294967295 := by rw [← HX.out]; exact ent_le xs k
      have lb : (b : Int) ≤ 4294967295 := by rw [← HY.out]; exact ent_le ys k
      have hz : xs.length ≤ k → ys.length ≤ k → a = 0 ∧ b = 0 := fun h1 h2 => by
        rw [← HX.out, ← HY.out]
        unfold ent
        rw [List.getD, List.getD, List.getElem?_eq_none h1, List.getElem?_eq_none h2]
        exact ⟨rfl, rfl⟩
      have HZ := Lib.hid hz
      clear hz
      by_cases g1 : k < xs.length
      · have b1 : decide (k < xs.length) = true := decide_eq_true g1
        go_wp2_with fail
        refine (refAt_any A xs c k _ hrw hc (by omega) (by omega)).mono ?_; rintro e w' ⟨rfl, rfl⟩
        rw [HX.out]
        go_wp2_with fail
        refine (refAt_any B ys d k _ hsw hd (by omega) (by omega)).mono ?_; rintro e w' ⟨rfl, rfl⟩
        rw [HY.out]
        go_wp2_with (at_builtin; go_must (refine wpList_app (f := uv) _ uT rfl _ _ rfl uv_one w.heap.size _ os [UInt32.ofNat (cc + a + b)] rfl (hown.alloc _) _ _ rfl (Rd.one (uv_ofNat _ _ (by omega)) rfl) (by simp [maxLen]; omega) (by simp; omega) (by simp; omega) ?_; intro v2 w2 hown2 hbel2))
        go_roundw
        case rel =>
          refine ⟨k + 1, (cc + a + b) / 4294967296, _, by go_num, by go_num, by omega, ?_, by simp; omega, by simp; omega, ?_, hown2, (hbel.alloc hsz _).trans hbel2⟩
          · omega
          · unfold Hid
            have hlen : os.length = k := by omega
            have := add_step (val os) cc (4294967296 ^ k) (val xs) (val ys) (cc + a + b) (by rw [← HX.out, ← HY.out, ent_val, ent_val]) HV.out
            rw [val_snoc, hlen, UInt32.toNat_ofNat', Nat.pow_succ]
            exact this
        case measure => simp [intOf]; omega
      · have b1 : decide (k < xs.length) = false := decide_eq_false g1
        by_cases g2 : k < ys.length
        · have b2 : decide (k < ys.length) = true := decide_eq_true g2
          go_wp2_with fail
          refine (refAt_any A xs c k _ hrw hc (by omega) (by omega)).mono ?_; rintro e w' ⟨rfl, rfl⟩
          rw [HX.out]
          go_wp2_with fail
          refine (refAt_any B ys d k _ hsw hd (by omega) (by omega)).mono ?_; rintro e w' ⟨rfl, rfl⟩
          rw [HY.out]
          go_wp2_with (at_builtin; go_must (refine wpList_app (f := uv) _ uT rfl _ _ rfl uv_one w.heap.size _ os [UInt32.ofNat (cc + a + b)] rfl (hown.alloc _) _ _ rfl (Rd.one (uv_ofNat _ _ (by omega)) rfl) (by simp [maxLen]; omega) (by simp; omega) (by simp; omega) ?_; intro v2 w2 hown2 hbel2))
          go_roundw
          case rel =>
            refine ⟨k + 1, (cc + a + b) / 4294967296, _, by go_num, by go_num, by omega, ?_, by simp; omega, by simp; omega, ?_, hown2, (hbel.alloc hsz _).trans hbel2⟩
            · omega
            · unfold Hid
              have hlen : os.length = k := by omega
              have := add_step (val os) cc (4294967296 ^ k) (val xs) (val ys) (cc + a + b) (by rw [← HX.out, ← HY.out, ent_val, ent_val]) HV.out
              rw [val_snoc, hlen, UInt32.toNat_ofNat', Nat.pow_succ]
              exact this
          case measure => simp [intOf]; omega
        · have b2 : decide (k < ys.length) = false := decide_eq_false g2
          have b3 : decide (0 < cc) = true := decide_eq_true (by omega)
          obtain ⟨z1, z2⟩ := HZ.out (by omega) (by omega)
          have Z1 := Lib.hid z1
          have Z2 := Lib.hid z2
          clear z1 z2
          go_wp2_with fail
          refine (refAt_any A xs c k _ hrw hc (by omega) (by omega)).mono ?_; rintro e w' ⟨rfl, rfl⟩
          rw [HX.out]
          go_wp2_with fail
          refine (refAt_any B ys d k _ hsw hd (by omega) (by omega)).mono ?_; rintro e w' ⟨rfl, rfl⟩
          rw [HY.out]
          go_wp2_with (at_builtin; go_must (refine wpList_app (f := uv) _ uT rfl _ _ rfl uv_one w.heap.size _ os [UInt32.ofNat (cc + a + b)] rfl (hown.alloc _) _ _ rfl (Rd.one (uv_ofNat _ _ (by omega)) rfl) (by simp [maxLen]; omega) (by simp; omega) (by simp; omega) ?_; intro v2 w2 hown2 hbel2))
          go_roundw
          case rel =>
            refine ⟨k + 1, (cc + a + b) / 4294967296, _, by go_num, by go_num, by omega, ?_, by simp; omega, by simp; omega, ?_, hown2, (hbel.alloc hsz _).trans hbel2⟩
            · have := Z1.out; have := Z2.out; omega
            · unfold Hid
              have hlen : os.length = k := by omega
              have := add_step (val os) cc (4294967296 ^ k) (val xs) (val ys) (cc + a + b) (by rw [← HX.out, ← HY.out, ent_val, ent_val]) HV.out
              rw [val_snoc, hlen, UInt32.toNat_ofNat', Nat.pow_succ]
              exact this
          case measure => simp [intOf]; omega
    · have b1 : decide (k < xs.length) = false := decide_eq_false (by omega)
      have b2 : decide (k < ys.length) = false := decide_eq_false (by omega)
      have b3 : decide (0 < cc) = false := decide_eq_false (by omega)
      have hfin : Hid (val os = val xs + val ys) := by
        unfold Hid
        have h := HV.out
        have h1 := val_lt xs
        have h2 := val_lt ys
        have h3 : 4294967296 ^ xs.length ≤ 4294967296 ^ k := Nat.pow_le_pow_right (by decide) (by omega)
        have h4 : 4294967296 ^ ys.length ≤ 4294967296 ^ k := Nat.pow_le_pow_right (by decide) (by omega)
        rw [Nat.mod_eq_of_lt (Nat.lt_of_lt_of_le h1 h3), Nat.mod_eq_of_lt (Nat.lt_of_lt_of_le h2 h4), show cc = 0 from by omega] at h
        omega
      obtain ⟨A2, c2, rfl, hc2, hm2, hr2⟩ := hown.sl
      go_wp2_with fail
      refine (refNorm_any A2 os c2 _ hr2 hc2 hm2 (by omega)).mono ?_; rintro e w2 ⟨v2, rfl, hown2, hb2⟩
      rw [hfin.out] at hown2
      go_wp2_with fail
      go_ret
      exact ⟨_, rfl, hown2.less hsz, nx hbel hb2⟩

theorem sub_step (V bo P X Y D bo' : Nat) (hD : D + Y / P % 4294967296 + bo = X / P % 4294967296 + 4294967296) (hb : bo' + D / 4294967296 = 1) (h : V + Y % P = X % P + bo * P) :
    V + P * (D % 4294967296) + Y % (P * 4294967296) = X % (P * 4294967296) + bo' * (P * 4294967296) := by
  rw [Nat.mod_mul, Nat.mod_mul]
  have h1 : P * D = P * (D % 4294967296) + P * 4294967296 * (D / 4294967296) := by
    have := Nat.div_add_mod D 4294967296
    have h2 : P * D = P * (4294967296 * (D / 4294967296) + D % 4294967296) := by rw [this]
    rw [h2, Nat.mul_add, Nat.add_comm, ← Nat.mul_assoc]
  have h3 : P * D + P * (Y / P % 4294967296) + P * bo = P * (X / P % 4294967296) + P * 4294967296 := by
    rw [← Nat.mul_add, ← Nat.mul_add, hD, Nat.mul_add]
  have h4 : P * 4294967296 * (D / 4294967296) + bo' * (P * 4294967296) = P * 4294967296 := by
    rw [Nat.mul_comm bo', ← Nat.mul_add, Nat.add_comm, hb, Nat.mul_one]
  have h5 : P * bo = bo * P := Nat.mul_comm _ _
  generalize P * 4294967296 * (D / 4294967296) = Q at *
  generalize bo' * (P * 4294967296) = R at *
  omega

/-- what Sub hands back -/
def SubIs (w w' : World) (x y : Nat) (v : Value) (is : Bool) : Prop :=
  if x < y then v = .slice none 0 0 ∧ is = false else Own uv 57 w' w.heap.size v (limbs (x - y)) ∧ is = true

set_option maxRecDepth 100000 in
set_option maxHeartbeats 800000 in
theorem refSub_any (A : Option Addr) (xs : List UInt32) (c : Nat) (B : Option Addr) (ys : List UInt32) (d : Nat) (w : World) (hr : Rd uv w A xs) (hc : xs.length ≤ c) (hl : (xs.length : Int) ≤ 100000) (hs : Rd uv w B ys) (hd : ys.length ≤ d) (hl2 : (ys.length : Int) ≤ 100000) :
    Calls Tryd.prog 65 #[.slice A xs.length c, .slice B ys.length d] w fun e w' => ∃ v' is, e = .returned (.tuple #[v', .bool is]) ∧ SubIs w w' (val xs) (val ys) v' is ∧ Below w.heap.size w w' := by
  obtain ⟨C, HC⟩ : ∃ C, Hid (cmpI (val xs) (val ys) = C) := ⟨_, rfl⟩
  by_cases hlt : val xs < val ys
  · have hC : C = -1 := by rw [← HC.out, cmpI, if_pos hlt]
    have HL := Lib.hid hlt
    clear hlt
    subst hC
    go_enter Tryd.func65, Tryd.ntmps65
    go_wp2_with fail
    refine (refCmp_any A xs c B ys d _ hr hc (by omega) hs hd (by omega)).mono ?_; rintro e w' ⟨rfl, rfl⟩
    rw [HC.out]
    go_wp2_with fail
    go_ret2
    refine ⟨_, _, rfl, ?_, Below.refl _ _⟩
    unfold SubIs
    rw [if_pos HL.out]
    exact ⟨rfl, rfl⟩
  · have hC : 0 ≤ C := by rw [← HC.out, cmpI, if_neg hlt]; split <;> omega
    have HL := Lib.hid hlt
    clear hlt
    go_enter Tryd.func65, Tryd.ntmps65
    go_wp2_with fail
    refine (refCmp_any A xs c B ys d _ hr hc (by omega) hs hd (by omega)).mono ?_; rintro e w' ⟨rfl, rfl⟩
    rw [HC.out]
    have hC2 : decide (C < 0) = false := decide_eq_false (by omega)
    go_wp2_with fail
    go_loopw [6, 7, 8] (fun o v i wr => ∃ (k bo : Nat) (os : List UInt32), i = .int .i64 k ∧ v = .int .u64 bo ∧ bo ≤ 1 ∧ k ≤ xs.length ∧ os.length ≤ k ∧ k ≤ os.length ∧
      Hid (val os + val ys % 4294967296 ^ k = val xs % 4294967296 ^ k + bo * 4294967296 ^ k) ∧ Own uv 57 wr w.heap.size o os ∧ Below w.heap.size w wr) (fun _ _ i _ => xs.length - (intOf i).toNat)
    case atStart => exact ⟨0, 0, [], rfl, rfl, by omega, by omega, by simp, by simp, by unfold Hid; simp [val, Nat.mod_one], Own.nil_, Below.refl _ _⟩
    case round =>
      obtain ⟨k, bo, os, rfl, rfl, hbo, hk, ho1, ho2, HV, hown, hbel⟩ := hrel
      have hsz := hbel.size
      have hrw := hr.below hbel
      have hsw := hs.below hbel
      by_cases g1 : k < xs.length
      · obtain ⟨a, HX⟩ : ∃ a, Hid (ent xs k = a) := ⟨_, rfl⟩
        obtain ⟨b, HY⟩ : ∃ b, Hid (ent ys k = b) := ⟨_, rfl⟩
        have la : (a : Int) ≤ 4294967295 := by rw [← HX.out]; exact ent_le xs k
        have lb : (b : Int) ≤ 4294967295 := by rw [← HY.out]; exact ent_le ys k
        have b1 : decide (k < xs.length) = true := decide_eq_true g1
        go_wp2_with fail
        refine (refAt_any A xs c k _ hrw hc (by omega) (by omega)).mono ?_; rintro e w' ⟨rfl, rfl⟩
        rw [HX.out]
        go_wp2_with fail
        refine (refAt_any B ys d k _ hsw hd (by omega) (by omega)).mono ?_; rintro e w' ⟨rfl, rfl⟩
        rw [HY.out]
        go_wp2_with (at_builtin; go_must (refine wpList_app (f := uv) _ uT rfl _ _ rfl uv_one w.heap.size _ os [UInt32.ofNat (a + 4294967296 - b - bo)] rfl (hown.alloc _) _ _ rfl (Rd.one (uv_ofNat _ _ (by omega)) rfl) (by simp [maxLen]; omega) (by simp; omega) (by simp; omega) ?_; intro v2 w2 hown2 hbel2))
        go_roundw
        case rel =>
          refine ⟨k + 1, 1 - (a + 4294967296 - b - bo) / 4294967296, _, by go_num, by go_num, by omega, by omega, by simp; omega, by simp; omega, ?_, hown2, (hbel.alloc hsz _).trans hbel2⟩
          unfold Hid
          have hlen : os.length = k := by omega
          have hX := ent_val xs k
          have hY := ent_val ys k
          rw [HX.out] at hX
          rw [HY.out] at hY
          have := sub_step (val os) bo (4294967296 ^ k) (val xs) (val ys) (a + 4294967296 - b - bo) (1 - (a + 4294967296 - b - bo) / 4294967296) (by rw [← hX, ← hY]; omega) (by omega) HV.out
          rw [val_snoc, hlen, UInt32.toNat_ofNat', Nat.pow_succ]
          exact this
        case measure => simp [intOf]; omega
      · obtain rfl : k = xs.length := by omega
        have b1 : decide (xs.length < xs.length) = false := decide_eq_false (by omega)
        have hfin : Hid (val os = val xs - val ys) := by
          unfold Hid
          have h := HV.out
          have h1 := val_lt xs
          have h2 := HL.out
          have h3 := val_lt os
          rw [show os.length = xs.length from by omega] at h3
          rw [Nat.mod_eq_of_lt h1, Nat.mod_eq_of_lt (by omega)] at h
          rcases (by omega : bo = 0 ∨ bo = 1) with rfl | rfl <;> omega
        obtain ⟨A2, c2, rfl, hc2, hm2, hr2⟩ := hown.sl
        go_wp2_with fail
        refine (refNorm_any A2 os c2 _ hr2 hc2 hm2 (by omega)).mono ?_; rintro e w2 ⟨v2, rfl, hown2, hb2⟩
        rw [hfin.out] at hown2
        go_wp2_with fail
        go_ret2
        refine ⟨_, _, rfl, ?_, nx hbel hb2⟩
        unfold SubIs
        rw [if_neg HL.out]
        exact ⟨hown2.less hsz, rfl⟩
end Go.Proofs.YtddolmkmijkpiaaDoor
