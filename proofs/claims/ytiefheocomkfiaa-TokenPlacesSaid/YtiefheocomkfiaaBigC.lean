/- The contracts of big: sums, differences, products, powers of ten. -/
import Derived.Test.YtiefheocomkfiaaBigB
namespace Go.Proofs.Ytiefheocomkfiaa
open Go.RowKit

theorem set_zero (l : List UInt32) (i n : Nat) (hi : i < l.length) (h0 : ent l i = 0) : val (l.set i (UInt32.ofNat n)) = val l + 4294967296 ^ i * (n % 4294967296) := by
  have := val_set l i hi (UInt32.ofNat n)
  have h0' : (l.getD i 0).toNat = 0 := h0
  rw [h0', UInt32.toNat_ofNat'] at this
  simpa using this
theorem ent_set_ne (l : List UInt32) (i j : Nat) (y : UInt32) (h : i ≠ j) : ent (l.set i y) j = ent l j := by
  unfold ent; rw [List.getD, List.getD, List.getElem?_set_ne h]
theorem ent_zeros (n j : Nat) : ent (List.replicate n 0) j = 0 := by
  unfold ent; rw [List.getD, List.getElem?_replicate]; split <;> rfl

set_option maxRecDepth 100000 in
set_option maxHeartbeats 1600000 in
theorem add_any (A : Option Addr) (xs : List UInt32) (c : Nat) (B : Option Addr) (ys : List UInt32) (d : Nat) (w : World) (hr : Rd uv w A xs) (hc : xs.length ≤ c) (hl : (xs.length : Int) ≤ 100000) (hs : Rd uv w B ys) (hd : ys.length ≤ d) (hl2 : (ys.length : Int) ≤ 100000) :
    Calls Try.prog 59 #[.slice A xs.length c, .slice B ys.length d] w fun e w' => ∃ v', e = .returned v' ∧ IsNum w' v' (val xs + val ys) ∧ Below w.heap.size w w' := by
  obtain ⟨M, hM, hM1, hM2, hM3⟩ : ∃ M : Nat, (if xs.length < ys.length then (ys.length : Int) else (xs.length : Int)) = (M : Int) ∧ xs.length ≤ M ∧ ys.length ≤ M ∧ (M : Int) ≤ 100000 := by
    by_cases h : xs.length < ys.length
    · exact ⟨ys.length, by rw [if_pos h], by omega, by omega, hl2⟩
    · exact ⟨xs.length, by rw [if_neg h], by omega, by omega, hl⟩
  go_enter Try.func59, Try.ntmps59
  go_wp2_with (at_make; go_must (refine wpList_mke _ uT uZ rfl _ _ rfl w.heap.size _ _ ((M : Int) + 1) rfl rfl (by omega) (by omega) (by omega) (Nat.le_refl _) ?_; intro g off cap w1 zs hrow1 HZ1 hz1 hz2 hb1 hg1))
  clear hM
  have HR := Lib.hid hrow1
  clear hrow1
  go_loopw [6, 18] (fun v i wr => ∃ (k cc : Nat) (os : List UInt32), i = .int .i64 k ∧ v = .int .u64 cc ∧ cc ≤ 1 ∧ k ≤ zs.length ∧ os.length ≤ zs.length ∧ zs.length ≤ os.length ∧
    Hid (val os + cc * 4294967296 ^ k = val xs % 4294967296 ^ k + val ys % 4294967296 ^ k) ∧ Hid (∀ j, k ≤ j → ent os j = 0) ∧ Row wr w.heap.size g off cap os ∧ Below w.heap.size w wr) (fun _ i _ => zs.length - (intOf i).toNat)
  case atStart =>
    refine ⟨0, 0, zs, rfl, rfl, by omega, by omega, by omega, by omega, ?_, ?_, HR.out, hb1⟩
    · unfold Hid; rw [HZ1.out, val_zeros]; simp [Nat.mod_one]
    · intro j _; rw [HZ1.out]; exact ent_zeros _ _
  case round =>
    obtain ⟨k, cc, os, rfl, rfl, hcc, hk, ho1, ho2, HV, HE, hrow, hbel⟩ := hrel
    have hrw := hr.below hbel
    have hsw := hs.below hbel
    by_cases hlt : k < zs.length
    · obtain ⟨a, HX⟩ : ∃ a, Hid (ent xs k = a) := ⟨_, rfl⟩
      obtain ⟨b, HY⟩ : ∃ b, Hid (ent ys k = b) := ⟨_, rfl⟩
      have la : (a : Int) ≤ 4294967295 := by rw [← HX.out]; exact ent_le xs k
      have lb : (b : Int) ≤ 4294967295 := by rw [← HY.out]; exact ent_le ys k
      have h0 : Hid (ent os k = 0) := HE.out k (Nat.le_refl _)
      have hco := hrow.cell (by omega) h0
      have hfo := hrow.free (i := k) (by omega)
      have HST := Lib.hid (hrow.put (i := k) (by omega) (a + b + cc))
      have HBS := Lib.hid (hbel.setCell (p := ⟨g, off + k, none⟩) hrow.hB (uv (UInt32.ofNat (a + b + cc))))
      have b1 : decide (k < zs.length) = true := decide_eq_true hlt
      clear hrow
      go_wp2_with fail
      refine (elem_any A xs c k _ hrw hc (by omega) (by omega)).mono ?_; rintro e w' ⟨rfl, rfl⟩
      rw [HX.out]
      go_wp2_with fail
      refine (elem_any B ys d k _ hsw hd (by omega) (by omega)).mono ?_; rintro e w' ⟨rfl, rfl⟩
      rw [HY.out]
      go_wp2_with fail
      go_roundw
      case rel =>
        have hu : Value.int .u32 (((a : Int) + b + cc) % 4294967296) = uv (UInt32.ofNat (a + b + cc)) := uv_ofNat _ _ (by omega)
        rw [hu]
        refine ⟨k + 1, (a + b + cc) / 4294967296, os.set k (UInt32.ofNat (a + b + cc)), by go_num, by go_num, by omega, by omega, by simpa using ho1, by simpa using ho2, ?_, ?_, HST.out, HBS.out⟩
        · unfold Hid
          have := add_step (val os) cc (4294967296 ^ k) (val xs) (val ys) (a + b + cc) (by rw [← HX.out, ← HY.out, ent_val, ent_val]; omega) HV.out
          rw [set_zero os k _ (by omega) h0.out, Nat.pow_succ]
          exact this
        · intro j hj
          rw [ent_set_ne _ _ _ _ (by omega)]
          exact HE.out j (by omega)
      case measure => simp [intOf]; omega
    · obtain rfl : k = zs.length := by omega
      have b1 : decide (zs.length < zs.length) = false := decide_eq_false (by omega)
      have hfin : Hid (val os = val xs + val ys) := by
        unfold Hid
        have h := HV.out
        have h1 := val_lt xs
        have h2 := val_lt ys
        have h3 : 4294967296 ^ xs.length ≤ 4294967296 ^ M := Nat.pow_le_pow_right (by decide) hM1
        have h4 : 4294967296 ^ ys.length ≤ 4294967296 ^ M := Nat.pow_le_pow_right (by decide) hM2
        have h5 : 4294967296 ^ zs.length = 4294967296 ^ M * 4294967296 := by rw [show zs.length = M + 1 from by omega, Nat.pow_succ]
        rw [h5, Nat.mod_eq_of_lt (by omega), Nat.mod_eq_of_lt (by omega)] at h
        rcases (by omega : cc = 0 ∨ cc = 1) with rfl | rfl <;> omega
      have HL : Hid (os.length = zs.length) := by unfold Hid; omega
      go_wp2_with fail
      refine (trim_n _ os _ cap _ HL hrow.rd hrow.hn hrow.hm (by omega)).mono ?_; rintro e w2 ⟨v2, rfl, hn2, rfl⟩
      rw [hfin.out] at hn2
      go_wp2_with fail
      go_ret
      exact ⟨_, rfl, hn2, hbel⟩

theorem sub_word (a b bo : Nat) (ha : (a : Int) ≤ 4294967295) (hb : (b : Int) ≤ 4294967295) (hbo : bo ≤ 1) :
    IntKind.u64.wrap (IntKind.u64.wrap ((a : Int) - b) - bo) % 4294967296 = (((a + 4294967296 - b - bo) % 4294967296 : Nat) : Int) ∧
    IntKind.u64.wrap (IntKind.u64.wrap ((a : Int) - b) - bo) / 9223372036854775808 = ((1 - (a + 4294967296 - b - bo) / 4294967296 : Nat) : Int) := by
  have e : ∀ x : Int, IntKind.u64.wrap x = x % 18446744073709551616 := fun x => by simp [IntKind.wrap, IntKind.bits, IntKind.signed]
  rw [e, e]
  constructor <;> omega

end Go.Proofs.Ytiefheocomkfiaa
