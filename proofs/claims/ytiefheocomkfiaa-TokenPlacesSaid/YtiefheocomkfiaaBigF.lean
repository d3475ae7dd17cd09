/- The contracts of big: shifts. -/
import Derived.Test.YtiefheocomkfiaaBigE
set_option linter.unusedVariables false
set_option linter.unusedSimpArgs false
namespace Go.Proofs.Ytiefheocomkfiaa
open Go.RowKit

theorem shl_room (V e i X b : Nat) (h : V = 4294967296 ^ e * (X * 2 ^ b)) (hX : X < 4294967296 ^ i) (hb : b ≤ 31) :
    V / 4294967296 ^ (e + i) % 4294967296 < 2 ^ b ∧ V / 4294967296 ^ (e + i + 1) % 4294967296 = 0 := by
  have hp : 2 ^ b ≤ 2 ^ 31 := Nat.pow_le_pow_right (by decide) hb
  have hp0 : 0 < 2 ^ b := Nat.pow_pos (by decide)
  have h1 : V < 4294967296 ^ (e + i) * 2 ^ b := by
    rw [h, Nat.pow_add, Nat.mul_assoc]
    exact Nat.mul_lt_mul_of_pos_left (Nat.mul_lt_mul_of_pos_right hX hp0) (Nat.pow_pos (by decide))
  constructor
  · exact Nat.lt_of_le_of_lt (Nat.mod_le _ _) (Nat.div_lt_of_lt_mul h1)
  · rw [Nat.div_eq_of_lt]
    · rw [Nat.pow_succ]
      exact Nat.lt_of_lt_of_le h1 (Nat.mul_le_mul_left _ (by omega))
theorem shl_word (a b h : Nat) (ha : (a : Int) ≤ 4294967295) (hb : (b : Int) ≤ 31) (hh : h < 2 ^ b) :
    bits .or .u32 (h : Int) (IntKind.u64.wrap ((a : Int) * 2 ^ b) % 4294967296) = ((h + a * 2 ^ b % 4294967296 : Nat) : Int) ∧ h + a * 2 ^ b % 4294967296 < 4294967296 ∧
    IntKind.u64.wrap ((a : Int) * 2 ^ b) / 4294967296 % 4294967296 = ((a * 2 ^ b / 4294967296 % 4294967296 : Nat) : Int) := by
  have e : ∀ x : Int, IntKind.u64.wrap x = x % 18446744073709551616 := fun x => by simp [IntKind.wrap, IntKind.bits, IntKind.signed]
  have hc : ((a : Int) * 2 ^ b) = ((a * 2 ^ b : Nat) : Int) := by rw [Int.natCast_mul, Int.natCast_pow]; rfl
  have hp : 2 ^ b ≤ 2 ^ 31 := Nat.pow_le_pow_right (by decide) (by omega)
  have hab : a * 2 ^ b ≤ 4294967295 * 2147483648 := Nat.mul_le_mul (by omega) (by omega)
  have h32 : (4294967296 : Nat) = 2 ^ (32 - b) * 2 ^ b := by rw [← Nat.pow_add, show 32 - b + b = 32 from by omega]
  have hm : a * 2 ^ b % 4294967296 = 2 ^ b * (a % 2 ^ (32 - b)) := by rw [h32, Nat.mul_mod_mul_right, Nat.mul_comm]
  have hor := Nat.two_pow_add_eq_or_of_lt (i := b) (b := h) hh (a % 2 ^ (32 - b))
  rw [← hm] at hor
  have hlt : a * 2 ^ b % 4294967296 < 4294967296 := Nat.mod_lt _ (by decide)
  have hh32 : h < 4294967296 := by omega
  have hs : h + a * 2 ^ b % 4294967296 < 4294967296 := by
    rw [Nat.add_comm, hor]; exact Nat.or_lt_two_pow (n := 32) hlt hh32
  rw [hc, e]
  refine ⟨?_, hs, by omega⟩
  have hc2 : ((a * 2 ^ b : Nat) : Int) % 18446744073709551616 % 4294967296 = ((a * 2 ^ b % 4294967296 : Nat) : Int) := by omega
  rw [hc2, u32_or_nat h _ hh32 hlt, Nat.add_comm h, hor, Nat.or_comm]
theorem shl_step (e i X a b h V1 : Nat) (ha : (a : Int) ≤ 4294967295) (hb : (b : Int) ≤ 31) (hset : V1 + 4294967296 ^ (e + i) * h = 4294967296 ^ e * (X * 2 ^ b) + 4294967296 ^ (e + i) * (h + a * 2 ^ b % 4294967296)) :
    V1 + 4294967296 ^ (e + i + 1) * (a * 2 ^ b / 4294967296 % 4294967296) = 4294967296 ^ e * ((X + 4294967296 ^ i * a) * 2 ^ b) := by
  have hp : 2 ^ b ≤ 2 ^ 31 := Nat.pow_le_pow_right (by decide) (by omega)
  have hab : a * 2 ^ b ≤ 4294967295 * 2147483648 := Nat.mul_le_mul (by omega) (by omega)
  have e1 : 4294967296 ^ e * ((X + 4294967296 ^ i * a) * 2 ^ b) = 4294967296 ^ e * (X * 2 ^ b) + 4294967296 ^ (e + i) * (a * 2 ^ b) := by
    rw [Nat.add_mul, Nat.mul_add, Nat.pow_add, Nat.mul_assoc (4294967296 ^ i), Nat.mul_assoc (4294967296 ^ e)]
  rw [e1, Nat.pow_succ, Nat.mul_assoc]
  generalize a * 2 ^ b = T at *
  have e2 : 4294967296 ^ (e + i) * T = 4294967296 ^ (e + i) * (4294967296 * (T / 4294967296 % 4294967296)) + 4294967296 ^ (e + i) * (T % 4294967296) := by
    rw [← Nat.mul_add]; congr 1; omega
  rw [Nat.mul_add] at hset
  omega

set_option maxRecDepth 100000 in
set_option maxHeartbeats 1600000 in
theorem shiftUp_any (A : Option Addr) (xs : List UInt32) (c : Nat) (e b : Nat) (w : World) (hr : Rd uv w A xs) (hc : xs.length ≤ c) (hl : (xs.length : Int) ≤ 100000) (he : (e : Int) ≤ 100000) (hb : (b : Int) ≤ 31) :
    Calls Try.prog 77 #[.slice A xs.length c, .int .i64 e, .int .i64 b] w fun e' w' => ∃ v', e' = .returned v' ∧ IsNum w' v' (4294967296 ^ e * (val xs * 2 ^ b)) ∧ Below w.heap.size w w' := by
  go_enter Try.func77, Try.ntmps77
  go_wp2_with (at_make; go_must (refine wpList_mke _ uT uZ rfl _ _ rfl w.heap.size _ _ ((e : Int) + xs.length + 1) rfl rfl (by omega) (by omega) (by omega) (Nat.le_refl _) ?_; intro g off cap w1 zs hrow1 HZ1 hz1 hz2 hb1 hg1))
  have HR := Lib.hid hrow1
  clear hrow1 hg1
  go_loopw [19] (fun v wr => ∃ (i : Nat) (os : List UInt32), v = .int .i64 i ∧ i ≤ xs.length ∧ os.length ≤ zs.length ∧ zs.length ≤ os.length ∧ Hid (val os = 4294967296 ^ e * (val (xs.take i) * 2 ^ b)) ∧
    Row wr w.heap.size g off cap os ∧ Below w.heap.size w wr) (fun v _ => xs.length - (intOf v).toNat)
  case atStart =>
    refine ⟨0, zs, rfl, Nat.zero_le _, Nat.le_refl _, Nat.le_refl _, ?_, HR.out, hb1⟩
    unfold Hid; rw [HZ1.out, val_zeros]; simp [val]
  case round =>
    obtain ⟨i, os, rfl, hi, ho1, ho2, HV, hrow, hbel⟩ := hrel
    by_cases hlt : i < xs.length
    · obtain ⟨a, HX⟩ : ∃ a, Hid (ent xs i = a) := ⟨_, rfl⟩
      obtain ⟨h, HH⟩ : ∃ h, Hid (ent os (e + i) = h) := ⟨_, rfl⟩
      have la : (a : Int) ≤ 4294967295 := by rw [← HX.out]; exact ent_le xs i
      have lh : (h : Int) ≤ 4294967295 := by rw [← HH.out]; exact ent_le os _
      have b0 : decide (i < xs.length) = true := decide_eq_true hlt
      obtain ⟨bx, offx, rfl, hbx, hcx⟩ := rd_cell (hr.below hbel) hlt HX
      have hco := hrow.cell (i := e + i) (by omega) HH
      have hf1 := hrow.free (i := e + i) (by omega)
      have hik : e + i < zs.length := by omega
      have hik2 : e + i + 1 < zs.length := by omega
      have hvo := shl_room (val os) e i (val (xs.take i)) b HV.out (by have := val_lt (xs.take i); rw [List.length_take, Nat.min_eq_left hi] at this; exact this) (by omega)
      have h0 : Hid (ent os (e + i + 1) = 0) := by
        unfold Hid
        rw [ent_val, hvo.2]
      have hh : h < 2 ^ b := by rw [← HH.out, ent_val]; exact hvo.1
      have hw := shl_word a b h la hb hh
      have HW := Lib.hid hw
      have hco2 := hrow.cell (i := e + i + 1) (by omega) h0
      have hf2 := hrow.free (i := e + i + 1) (by omega)
      have hne : ∀ V : Value, (wr.setCell ⟨g, off + (e + i), none⟩ V).cell? ⟨g, off + (e + i + 1), none⟩ = some (.int .u32 ((0 : Nat) : Int)) := fun V => by
        rw [World.cell?_setCell_other _ _ _ _ (by simp only [ne_eq, Addr.mk.injEq]; omega)]
        exact hco2
      have hrow1 := hrow.put (i := e + i) (by omega) (h + a * 2 ^ b % 4294967296)
      have HST := Lib.hid (hrow1.put (i := e + i + 1) (by simp; omega) (a * 2 ^ b / 4294967296))
      have HBS := Lib.hid ((hbel.setCell (p := ⟨g, off + (e + i), none⟩) hrow.hB (uv (UInt32.ofNat (h + a * 2 ^ b % 4294967296)))).setCell (p := ⟨g, off + (e + i + 1), none⟩) hrow.hB (uv (UInt32.ofNat (a * 2 ^ b / 4294967296))))
      clear hrow hrow1 hvo hh hw hco2
      go_wp2_with fail
      obtain ⟨hw1, hw2, hw3⟩ := HW.out
      rw [hw1, hw3]
      go_roundw
      case rel =>
        rw [uv_ofNat (h + a * 2 ^ b % 4294967296) _ (by rw [Nat.mod_eq_of_lt hw2]), uv_ofNat (a * 2 ^ b / 4294967296) _ rfl]
        refine ⟨i + 1, (os.set (e + i) (UInt32.ofNat (h + a * 2 ^ b % 4294967296))).set (e + i + 1) (UInt32.ofNat (a * 2 ^ b / 4294967296)), by go_num, by omega, by simpa using ho1, by simpa using ho2, ?_, HST.out, HBS.out⟩
        unfold Hid
        rw [set_zero _ _ _ (by simp; omega) (by rw [ent_set_ne _ _ _ _ (by omega)]; exact h0.out)]
        have hset := val_set os (e + i) (by omega) (UInt32.ofNat (h + a * 2 ^ b % 4294967296))
        have ho : (os.getD (e + i) 0).toNat = h := HH.out
        rw [ho, UInt32.toNat_ofNat', Nat.mod_eq_of_lt hw2, HV.out] at hset
        have hx : xs[i].toNat = a := by rw [← HX.out, ent, List.getD, List.getElem?_eq_getElem hlt]; rfl
        rw [List.take_succ_eq_append_getElem hlt, val_snoc, List.length_take, Nat.min_eq_left (by omega), hx]
        exact shl_step _ _ _ _ _ _ _ la hb hset
      case measure => simp [intOf]; omega
    · obtain rfl : i = xs.length := by omega
      have b0 : decide (xs.length < xs.length) = false := decide_eq_false (by omega)
      have hfin : Hid (val os = 4294967296 ^ e * (val xs * 2 ^ b)) := by unfold Hid; rw [HV.out, List.take_length]
      have HLL : Hid (os.length = zs.length) := by unfold Hid; omega
      go_wp2_with fail
      refine (trim_n _ os _ cap _ HLL hrow.rd hrow.hn hrow.hm (by omega)).mono ?_; rintro e w2 ⟨v2, rfl, hn2, rfl⟩
      rw [hfin.out] at hn2
      go_wp2_with fail
      go_ret
      exact ⟨_, rfl, hn2, hbel⟩

theorem or_word (a b : Nat) (ha : (a : Int) ≤ 4294967295) (hb : (b : Int) ≤ 4294967295) (s : Nat) (hs : (s : Int) ≤ 31) :
    bits .or .u64 ((b : Int) * 4294967296) (a : Int) / 2 ^ s % 4294967296 = (((a + b * 4294967296) / 2 ^ s % 4294967296 : Nat) : Int) := by
  rw [or_lo a b ha hb]
  have : ((2 : Int) ^ s) = ((2 ^ s : Nat) : Int) := by rw [Int.natCast_pow]; rfl
  rw [this, ← Int.natCast_ediv]
  rfl

/-- two words beside each other, shifted -/
theorem down_word (V s k : Nat) (hs : s ≤ 31) : (V / 4294967296 ^ k % 4294967296 + V / 4294967296 ^ (k + 1) % 4294967296 * 4294967296) / 2 ^ s % 4294967296 = V / 2 ^ s / 4294967296 ^ k % 4294967296 := by
  have e1 : V / 2 ^ s / 4294967296 ^ k = V / 4294967296 ^ k / 2 ^ s := by rw [Nat.div_div_eq_div_mul, Nat.div_div_eq_div_mul, Nat.mul_comm]
  rw [e1, Nat.pow_succ, ← Nat.div_div_eq_div_mul]
  generalize V / 4294967296 ^ k = W
  have e2 : W % 4294967296 + W / 4294967296 % 4294967296 * 4294967296 = W % (4294967296 * 4294967296) := by rw [Nat.mod_mul, Nat.mul_comm 4294967296 (W / 4294967296 % 4294967296)]
  rw [e2]
  have h32 : (4294967296 * 4294967296 : Nat) = 2 ^ s * (4294967296 * 2 ^ (32 - s)) := by
    have : (4294967296 : Nat) = 2 ^ s * 2 ^ (32 - s) := by rw [← Nat.pow_add, show s + (32 - s) = 32 from by omega]
    calc (4294967296 * 4294967296 : Nat) = 4294967296 * (2 ^ s * 2 ^ (32 - s)) := by rw [← this]
      _ = 2 ^ s * (4294967296 * 2 ^ (32 - s)) := by rw [Nat.mul_left_comm]
  rw [h32, Nat.mod_mul_right_div_self]
  exact Nat.mod_mod_of_dvd _ ⟨_, rfl⟩

set_option maxRecDepth 100000 in
set_option maxHeartbeats 1600000 in
theorem shiftDown_any (A : Option Addr) (xs : List UInt32) (c : Nat) (e s : Nat) (w : World) (hr : Rd uv w A xs) (hc : xs.length ≤ c) (hl : (xs.length : Int) ≤ 100000) (he : (e : Int) ≤ 100000) (hs : (s : Int) ≤ 31) :
    Calls Try.prog 76 #[.slice A xs.length c, .int .i64 e, .int .i64 s] w fun e' w' => ∃ v', e' = .returned v' ∧ IsNum w' v' (val xs / 4294967296 ^ e / 2 ^ s) ∧ Below w.heap.size w w' := by
  by_cases hge : xs.length ≤ e
  · have hz : Hid (val xs / 4294967296 ^ e / 2 ^ s = 0) := by
      unfold Hid
      rw [Nat.div_eq_of_lt (Nat.lt_of_lt_of_le (val_lt xs) (Nat.pow_le_pow_right (by decide) hge)), Nat.zero_div]
    have hd : decide (xs.length ≤ e) = true := decide_eq_true hge
    go_enter Try.func76, Try.ntmps76
    go_wp2_with fail
    go_ret
    exact ⟨_, rfl, (IsNum.zero _).cast hz.out.symm, Below.refl _ _⟩
  · have hd : decide (xs.length ≤ e) = false := decide_eq_false hge
    go_enter Try.func76, Try.ntmps76
    go_wp2_with (first
      | (refine wpList_sl (f := uv) _ uT rfl _ _ _ rfl _ xs c rfl hr hc (e : Int) (xs.length : Int) (.inr ⟨_, _, rfl, rfl⟩) (.inl ⟨rfl, rfl⟩) (by omega) (by omega) (by omega) ?_; intro A2 us c2 hcut hc1 hc2; obtain ⟨hr2, HY, hlo, hhi⟩ := hcut)
      | (at_make; go_must (refine wpList_mke _ uT uZ rfl _ _ rfl w.heap.size _ _ (us.length : Int) rfl rfl (by omega) (by omega) (by omega) (Nat.le_refl _) ?_; intro g off cap w1 zs hrow1 HZ1 hz1 hz2 hb1 hg1)))
    have HV : Hid (val us = val xs / 4294967296 ^ e) := by
      have h1 : xs = xs.take e ++ us := by rw [HY.out]; simp
      have h2 := congrArg val h1
      rw [val_append, List.length_take, Nat.min_eq_left (by omega)] at h2
      have h3 := val_lt (xs.take e)
      rw [List.length_take, Nat.min_eq_left (by omega)] at h3
      unfold Hid
      rw [h2, Nat.add_mul_div_left _ _ (Nat.pow_pos (by decide)), Nat.div_eq_of_lt h3, Nat.zero_add]
    clear HY
    have HR := Lib.hid hrow1
    clear hrow1 hg1
    go_loopw [22] (fun v wr => ∃ (i : Nat) (os : List UInt32), v = .int .i64 i ∧ i ≤ zs.length ∧ os.length ≤ zs.length ∧ zs.length ≤ os.length ∧ Hid (∀ j, j < i → ent os j = val us / 2 ^ s / 4294967296 ^ j % 4294967296) ∧
      Row wr w.heap.size g off cap os ∧ Below w.heap.size w wr) (fun v _ => zs.length - (intOf v).toNat)
    case atStart =>
      refine ⟨0, zs, rfl, Nat.zero_le _, Nat.le_refl _, Nat.le_refl _, fun j hj => absurd hj (Nat.not_lt_zero _), HR.out, hb1⟩
    case round =>
      obtain ⟨i, os, rfl, hi, ho1, ho2, HE, hrow, hbel⟩ := hrel
      have hru := hr2.below hbel
      by_cases hlt : i < zs.length
      · obtain ⟨a, HX⟩ : ∃ a, Hid (ent us i = a) := ⟨_, rfl⟩
        obtain ⟨b, HX1⟩ : ∃ b, Hid (ent us (i + 1) = b) := ⟨_, rfl⟩
        obtain ⟨h, HH⟩ : ∃ h, Hid (ent os i = h) := ⟨_, rfl⟩
        have la : (a : Int) ≤ 4294967295 := by rw [← HX.out]; exact ent_le us i
        have lb : (b : Int) ≤ 4294967295 := by rw [← HX1.out]; exact ent_le us _
        have b0 : decide (i < zs.length) = true := decide_eq_true hlt
        have hco := hrow.cell (i := i) (by omega) HH
        have hf1 := hrow.free (i := i) (by omega)
        have HW := Lib.hid (or_word a b la lb s hs)
        have HST := Lib.hid (hrow.put (i := i) (by omega) ((a + b * 4294967296) / 2 ^ s))
        have HBS := Lib.hid (hbel.setCell (p := ⟨g, off + i, none⟩) hrow.hB (uv (UInt32.ofNat ((a + b * 4294967296) / 2 ^ s))))
        clear hrow
        go_wp2_with fail
        refine (elem_any A2 us c2 (i + 1) _ hru hc1 (by omega) (by omega)).mono ?_; rintro e w' ⟨rfl, rfl⟩
        rw [HX1.out]
        go_wp2_with fail
        refine (elem_any A2 us c2 i _ hru hc1 (by omega) (by omega)).mono ?_; rintro e w' ⟨rfl, rfl⟩
        rw [HX.out]
        go_wp2_with fail
        rw [HW.out]
        go_roundw
        case rel =>
          rw [uv_ofNat ((a + b * 4294967296) / 2 ^ s) _ rfl]
          refine ⟨i + 1, os.set i (UInt32.ofNat ((a + b * 4294967296) / 2 ^ s)), by go_num, by omega, by simpa using ho1, by simpa using ho2, fun j hj => ?_, HST.out, HBS.out⟩
          by_cases hji : j = i
          · subst hji
            have : ent (os.set j (UInt32.ofNat ((a + b * 4294967296) / 2 ^ s))) j = (a + b * 4294967296) / 2 ^ s % 4294967296 := by
              unfold ent; rw [List.getD, List.getElem?_set_self (by omega)]; exact UInt32.toNat_ofNat'
            rw [this, ← HX.out, ← HX1.out, ent_val, ent_val]
            exact down_word _ _ _ (by omega)
          · rw [ent_set_ne _ _ _ _ (by omega)]
            exact HE.out j (by omega)
        case measure => simp [intOf]; omega
      · obtain rfl : i = zs.length := by omega
        have b0 : decide (zs.length < zs.length) = false := decide_eq_false (by omega)
        have hfin : Hid (val os = val xs / 4294967296 ^ e / 2 ^ s) := by
          unfold Hid
          rw [← HV.out]
          have h1 := val_lt os
          have h2 := val_lt us
          refine digits_ext zs.length _ _ (by rw [show zs.length = os.length from by omega]; exact h1) ?_ fun j => ?_
          · rw [show zs.length = us.length from by omega]
            exact Nat.lt_of_le_of_lt (Nat.div_le_self _ _) h2
          · rw [← ent_val]
            by_cases hj : j < zs.length
            · exact HE.out j hj
            · have e1 : ent os j = 0 := by unfold ent; rw [List.getD, List.getElem?_eq_none (by omega)]; rfl
              rw [e1, Nat.div_eq_of_lt, Nat.zero_mod]
              exact Nat.lt_of_le_of_lt (Nat.div_le_self _ _) (Nat.lt_of_lt_of_le h2 (Nat.pow_le_pow_right (by decide) (by omega)))
        have HLL : Hid (os.length = zs.length) := by unfold Hid; omega
        go_wp2_with fail
        refine (trim_n _ os _ cap _ HLL hrow.rd hrow.hn hrow.hm (by omega)).mono ?_; rintro e w2 ⟨v2, rfl, hn2, rfl⟩
        rw [hfin.out] at hn2
        go_wp2_with fail
        go_ret
        exact ⟨_, rfl, hn2, hbel⟩
end Go.Proofs.Ytiefheocomkfiaa
