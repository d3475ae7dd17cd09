/- The contracts of big: products, powers of ten. -/
import Derived.Test.YtiefheocomkfiaaBigC
set_option linter.unusedVariables false
set_option linter.unusedSimpArgs false
namespace Go.Proofs.Ytiefheocomkfiaa
open Go.RowKit

set_option maxRecDepth 100000 in
set_option maxHeartbeats 1600000 in
theorem mul_any (A : Option Addr) (xs : List UInt32) (c : Nat) (B : Option Addr) (ys : List UInt32) (d : Nat) (w : World) (hr : Rd uv w A xs) (hc : xs.length ≤ c) (hl : (xs.length : Int) ≤ 100000) (hs : Rd uv w B ys) (hd : ys.length ≤ d) (hl2 : (ys.length : Int) ≤ 100000) :
    Calls Try.prog 60 #[.slice A xs.length c, .slice B ys.length d] w fun e w' => ∃ v', e = .returned v' ∧ IsNum w' v' (val xs * val ys) ∧ Below w.heap.size w w' := by
  go_enter Try.func60, Try.ntmps60
  go_wp2_with (at_make; go_must (refine wpList_mke _ uT uZ rfl _ _ rfl w.heap.size _ _ ((xs.length : Int) + ys.length) rfl rfl (by omega) (by omega) (by omega) (Nat.le_refl _) ?_; intro g off cap w1 zs hrow1 HZ1 hz1 hz2 hb1 hg1))
  have HR := Lib.hid hrow1
  clear hrow1 hg1
  go_loopw [20] (fun v wr => ∃ (i : Nat) (os : List UInt32), v = .int .i64 i ∧ i ≤ xs.length ∧ os.length ≤ zs.length ∧ zs.length ≤ os.length ∧ Hid (val os = val (xs.take i) * val ys) ∧ Hid (∀ j, i + ys.length ≤ j → ent os j = 0) ∧
    Row wr w.heap.size g off cap os ∧ Below w.heap.size w wr) (fun v _ => xs.length - (intOf v).toNat)
  case atStart =>
    refine ⟨0, zs, rfl, Nat.zero_le _, Nat.le_refl _, Nat.le_refl _, ?_, ?_, HR.out, hb1⟩
    · unfold Hid; rw [HZ1.out, val_zeros]; simp [val]
    · intro j _; rw [HZ1.out]; exact ent_zeros _ _
  case round =>
    obtain ⟨i, os, rfl, hi, ho1, ho2, HV, HE, hrow, hbel⟩ := hrel
    by_cases hlt : i < xs.length
    · obtain ⟨a, HX⟩ : ∃ a, Hid (ent xs i = a) := ⟨_, rfl⟩
      have la : (a : Int) ≤ 4294967295 := by rw [← HX.out]; exact ent_le xs i
      have b0 : decide (i < xs.length) = true := decide_eq_true hlt
      obtain ⟨bx, offx, rfl, hbx, hcx⟩ := rd_cell (hr.below hbel) hlt HX
      have HO := Lib.hid hrow
      clear hrow
      go_wp2_with fail
      obtain ⟨wo, rfl⟩ : ∃ wo : World, wo = wr := ⟨_, rfl⟩
      go_loopw [8, 27] (fun v u wq => ∃ (k cc : Nat) (us : List UInt32), u = .int .i64 k ∧ v = .int .u64 cc ∧ (cc : Int) ≤ 4294967295 ∧ k ≤ ys.length ∧ us.length ≤ zs.length ∧ zs.length ≤ us.length ∧
        Hid (val us + cc * 4294967296 ^ (i + k) = val (xs.take i) * val ys + a * (val ys % 4294967296 ^ k) * 4294967296 ^ i) ∧ Hid (∀ j, i + ys.length ≤ j → ent us j = 0) ∧
        Row wq w.heap.size g off cap us ∧ Below w.heap.size w wq) (fun _ u _ => ys.length - (intOf u).toNat)
      case atStart => exact ⟨0, 0, os, rfl, rfl, by omega, Nat.zero_le _, ho1, ho2, by unfold Hid; rw [HV.out]; simp [Nat.mod_one], HE, HO.out, hbel⟩
      case round =>
        obtain ⟨k, cc, us, rfl, rfl, hcc, hk, hu1, hu2, HU, HF, hgw, hbw⟩ := hrel
        by_cases hlk : k < ys.length
        · obtain ⟨b, HY⟩ : ∃ b, Hid (ent ys k = b) := ⟨_, rfl⟩
          obtain ⟨o, HO2⟩ : ∃ o, Hid (ent us (i + k) = o) := ⟨_, rfl⟩
          have lb : (b : Int) ≤ 4294967295 := by rw [← HY.out]; exact ent_le ys k
          have lo : (o : Int) ≤ 4294967295 := by rw [← HO2.out]; exact ent_le us (i + k)
          have lab : (a : Int) * (b : Int) ≤ 18446744065119617025 := by
            have := Int.mul_le_mul la lb (by omega) (by omega)
            omega
          have lab0 : 0 ≤ (a : Int) * (b : Int) := Int.mul_nonneg (by omega) (by omega)
          obtain ⟨by_, offy, eB, hby, hcy⟩ := rd_cell (hs.below hbw) hlk HY
          subst eB
          have hco := hgw.cell (i := i + k) (by omega) HO2
          have hf1 := hgw.free (i := i + k) (by omega)
          have HST := Lib.hid (hgw.put (i := i + k) (by omega) (cc + o + a * b))
          have HBS := Lib.hid (hbw.setCell (p := ⟨g, off + (i + k), none⟩) hgw.hB (uv (UInt32.ofNat (cc + o + a * b))))
          have hik : i + k < zs.length := by omega
          have b1 : decide (k < ys.length) = true := decide_eq_true hlk
          clear hgw
          go_wp2_with fail
          go_roundw
          case rel =>
            have hcast : ((cc + o + a * b : Nat) : Int) = (a : Int) * b + o + cc := by rw [Int.natCast_add, Int.natCast_add, Int.natCast_mul]; omega
            have hu : Value.int .u32 (((a : Int) * b + o + cc) % 4294967296) = uv (UInt32.ofNat (cc + o + a * b)) := uv_ofNat _ _ (by omega)
            have hS : cc + o + a * b ≤ 18446744073709551615 := by omega
            rw [hu]
            refine ⟨k + 1, (cc + o + a * b) / 4294967296, us.set (i + k) (UInt32.ofNat (cc + o + a * b)), by go_num, congrArg (Value.int IntKind.u64) (by omega), by omega, by omega, by simpa using hu1, by simpa using hu2, ?_, ?_, HST.out, HBS.out⟩
            · unfold Hid
              have hset := val_set us (i + k) (by omega) (UInt32.ofNat (cc + o + a * b))
              have ho : (us.getD (i + k) 0).toNat = o := HO2.out
              rw [ho, UInt32.toNat_ofNat'] at hset
              have hyk : b = val ys / 4294967296 ^ k % 4294967296 := by rw [← HY.out, ent_val]
              have := mul_step (val us) _ cc (4294967296 ^ (i + k)) (4294967296 ^ i) (val (xs.take i) * val ys) a b o (cc + o + a * b) (val ys) (4294967296 ^ k) (Nat.pow_add _ _ _) rfl hyk hset HU.out
              rw [← Nat.add_assoc, Nat.pow_succ, Nat.pow_succ]
              exact this
            · intro j hj
              rw [ent_set_ne _ _ _ _ (by omega)]
              exact HF.out j hj
          case measure => simp [intOf]; omega
        · obtain rfl : k = ys.length := by omega
          have b1 : decide (ys.length < ys.length) = false := decide_eq_false (by omega)
          have hz : Hid (ent us (i + ys.length) = 0) := HF.out _ (Nat.le_refl _)
          have hco := hgw.cell (i := i + ys.length) (by omega) hz
          have hf1 := hgw.free (i := i + ys.length) (by omega)
          have HST := Lib.hid (hgw.put (i := i + ys.length) (by omega) cc)
          have HBS := Lib.hid (hbw.setCell (p := ⟨g, off + (i + ys.length), none⟩) hgw.hB (uv (UInt32.ofNat cc)))
          have hik : i + ys.length < zs.length := by omega
          clear hgw
          go_wp2_with fail
          go_roundw
          case rel =>
            have hu : Value.int .u32 (cc : Int) = uv (UInt32.ofNat cc) := uv_ofNat _ _ (by omega)
            rw [hu]
            refine ⟨i + 1, us.set (i + ys.length) (UInt32.ofNat cc), by go_num, by omega, by simpa using hu1, by simpa using hu2, ?_, ?_, HST.out, HBS.out⟩
            · unfold Hid
              have hset := set_zero us (i + ys.length) cc (by omega) hz.out
              rw [Nat.mod_eq_of_lt (a := cc) (by omega)] at hset
              have hU := HU.out
              rw [Nat.mod_eq_of_lt (val_lt ys)] at hU
              rw [hset, List.take_succ_eq_append_getElem hlt, val_snoc, List.length_take, Nat.min_eq_left (by omega), Nat.add_mul, Nat.mul_comm (4294967296 ^ (i + ys.length)), hU]
              have hx : xs[i].toNat = a := by rw [← HX.out, ent, List.getD, List.getElem?_eq_getElem hlt]; rfl
              rw [hx, Nat.mul_comm (4294967296 ^ i) a, Nat.mul_assoc a, Nat.mul_assoc a, Nat.mul_comm (val ys)]
            · intro j hj
              rw [ent_set_ne _ _ _ _ (by omega)]
              exact HF.out j (by omega)
          case measure => simp [intOf]; omega
    · obtain rfl : i = xs.length := by omega
      have b0 : decide (xs.length < xs.length) = false := decide_eq_false (by omega)
      have hfin : Hid (val os = val xs * val ys) := by unfold Hid; rw [HV.out, List.take_length]
      have HLL : Hid (os.length = zs.length) := by unfold Hid; omega
      go_wp2_with fail
      refine (trim_n _ os _ cap _ HLL hrow.rd hrow.hn hrow.hm (by omega)).mono ?_; rintro e w2 ⟨v2, rfl, hn2, rfl⟩
      rw [hfin.out] at hn2
      go_wp2_with fail
      go_ret
      exact ⟨_, rfl, hn2, hbel⟩
end Go.Proofs.Ytiefheocomkfiaa
