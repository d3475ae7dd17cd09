/- The contracts of zig's functions: signs to and fro, numbers of seven bits a byte. -/
import Derived.Test.YtdgeiaiflkpjmaaRefZig
namespace Go.Proofs.Ytdgeiaiflkpjmaa
open Go.RowKit

theorem xor_ones_u32 (a : Int) (h0 : 0 ≤ a) (h1 : a < 4294967296) : Go.bits .xor .u32 a 4294967295 = 4294967295 - a := by
  obtain ⟨n, rfl⟩ := Int.eq_ofNat_of_zero_le h0
  have e1 : (BitVec.ofInt 32 (n : Int)).toNat = n := by
    rw [BitVec.ofInt_natCast, BitVec.toNat_ofNat]; exact Nat.mod_eq_of_lt (by omega)
  have e2 : BitVec.ofInt 32 4294967295 = BitVec.allOnes 32 := by decide
  show IntKind.u32.wrap ((BitVec.ofInt 32 (n : Int) ^^^ BitVec.ofInt 32 4294967295).toNat : Int) = _
  rw [e2, BitVec.xor_allOnes, BitVec.toNat_not, e1, IntKind.wrap_u32]
  omega
theorem xor_ones_u64 (a : Int) (h0 : 0 ≤ a) (h1 : a < 18446744073709551616) : Go.bits .xor .u64 a 18446744073709551615 = 18446744073709551615 - a := by
  obtain ⟨n, rfl⟩ := Int.eq_ofNat_of_zero_le h0
  have e1 : (BitVec.ofInt 64 (n : Int)).toNat = n := by
    rw [BitVec.ofInt_natCast, BitVec.toNat_ofNat]; exact Nat.mod_eq_of_lt (by omega)
  have e2 : BitVec.ofInt 64 18446744073709551615 = BitVec.allOnes 64 := by decide
  show IntKind.u64.wrap ((BitVec.ofInt 64 (n : Int) ^^^ BitVec.ofInt 64 18446744073709551615).toNat : Int) = _
  rw [e2, BitVec.xor_allOnes, BitVec.toNat_not, e1, IntKind.wrap_u64]
  omega
theorem xor_nil_u32 (a : Int) (h0 : 0 ≤ a) (h1 : a < 4294967296) : Go.bits .xor .u32 a 0 = a := by
  obtain ⟨n, rfl⟩ := Int.eq_ofNat_of_zero_le h0
  have e1 : (BitVec.ofInt 32 (n : Int)).toNat = n := by
    rw [BitVec.ofInt_natCast, BitVec.toNat_ofNat]; exact Nat.mod_eq_of_lt (by omega)
  have e2 : BitVec.ofInt 32 0 = 0#32 := by decide
  show IntKind.u32.wrap ((BitVec.ofInt 32 (n : Int) ^^^ BitVec.ofInt 32 0).toNat : Int) = _
  rw [e2, BitVec.xor_zero, e1, IntKind.wrap_u32]
  omega
theorem xor_nil_u64 (a : Int) (h0 : 0 ≤ a) (h1 : a < 18446744073709551616) : Go.bits .xor .u64 a 0 = a := by
  obtain ⟨n, rfl⟩ := Int.eq_ofNat_of_zero_le h0
  have e1 : (BitVec.ofInt 64 (n : Int)).toNat = n := by
    rw [BitVec.ofInt_natCast, BitVec.toNat_ofNat]; exact Nat.mod_eq_of_lt (by omega)
  have e2 : BitVec.ofInt 64 0 = 0#64 := by decide
  show IntKind.u64.wrap ((BitVec.ofInt 64 (n : Int) ^^^ BitVec.ofInt 64 0).toNat : Int) = _
  rw [e2, BitVec.xor_zero, e1, IntKind.wrap_u64]
  omega
theorem xor_i32 (a : Int) (h0 : 0 ≤ a) (h1 : a < 2147483648) : Go.bits .xor .i32 a 0 = a ∧ Go.bits .xor .i32 a (-1) = -a - 1 := by
  obtain ⟨n, rfl⟩ := Int.eq_ofNat_of_zero_le h0
  have e1 : (BitVec.ofInt 32 (n : Int)).toNat = n := by
    rw [BitVec.ofInt_natCast, BitVec.toNat_ofNat]; exact Nat.mod_eq_of_lt (by omega)
  have e2 : BitVec.ofInt 32 0 = 0#32 := by decide
  have e3 : BitVec.ofInt 32 (-1) = BitVec.allOnes 32 := by decide
  constructor
  · show IntKind.i32.wrap ((BitVec.ofInt 32 (n : Int) ^^^ BitVec.ofInt 32 0).toNat : Int) = _
    rw [e2, BitVec.xor_zero, e1, IntKind.wrap_i32]
    omega
  · show IntKind.i32.wrap ((BitVec.ofInt 32 (n : Int) ^^^ BitVec.ofInt 32 (-1)).toNat : Int) = _
    rw [e3, BitVec.xor_allOnes, BitVec.toNat_not, e1, IntKind.wrap_i32]
    omega
theorem xor_i64 (a : Int) (h0 : 0 ≤ a) (h1 : a < 9223372036854775808) : Go.bits .xor .i64 a 0 = a ∧ Go.bits .xor .i64 a (-1) = -a - 1 := by
  obtain ⟨n, rfl⟩ := Int.eq_ofNat_of_zero_le h0
  have e1 : (BitVec.ofInt 64 (n : Int)).toNat = n := by
    rw [BitVec.ofInt_natCast, BitVec.toNat_ofNat]; exact Nat.mod_eq_of_lt (by omega)
  have e2 : BitVec.ofInt 64 0 = 0#64 := by decide
  have e3 : BitVec.ofInt 64 (-1) = BitVec.allOnes 64 := by decide
  constructor
  · show IntKind.i64.wrap ((BitVec.ofInt 64 (n : Int) ^^^ BitVec.ofInt 64 0).toNat : Int) = _
    rw [e2, BitVec.xor_zero, e1, IntKind.wrap_i64]
    omega
  · show IntKind.i64.wrap ((BitVec.ofInt 64 (n : Int) ^^^ BitVec.ofInt 64 (-1)).toNat : Int) = _
    rw [e3, BitVec.xor_allOnes, BitVec.toNat_not, e1, IntKind.wrap_i64]
    omega
theorem and_one_u32 (n : Int) (h0 : 0 ≤ n) (h1 : n < 4294967296) : Go.bits .and .u32 n 1 = n % 2 := by
  obtain ⟨n, rfl⟩ := Int.eq_ofNat_of_zero_le h0
  have e1 : (BitVec.ofInt 32 (n : Int)).toNat = n := by
    rw [BitVec.ofInt_natCast, BitVec.toNat_ofNat]; exact Nat.mod_eq_of_lt (by omega)
  have e2 : (BitVec.ofInt 32 1).toNat = 1 := by decide
  show IntKind.u32.wrap ((BitVec.ofInt 32 (n : Int) &&& BitVec.ofInt 32 1).toNat : Int) = _
  rw [BitVec.toNat_and, e1, e2, Nat.and_one_is_mod, IntKind.wrap_u32]
  omega
theorem and_one_u64 (n : Int) (h0 : 0 ≤ n) (h1 : n < 18446744073709551616) : Go.bits .and .u64 n 1 = n % 2 := by
  obtain ⟨n, rfl⟩ := Int.eq_ofNat_of_zero_le h0
  have := bits_and_u64_nat n 1 (by omega) (by omega)
  rw [Nat.and_one_is_mod] at this
  exact this

set_option maxHeartbeats 400000 in
theorem zig32_any (v : Int) (w : World) (h1 : -2147483648 ≤ v) (h2 : v ≤ 2147483647) :
    Calls Try.prog 12 #[.int .i32 v] w fun e w' => e = .returned (.int .u32 (zigI v)) ∧ w = w' := by
  go_enter Try.func12, Try.ntmps12
  go_wp2
  go_ret
  refine ⟨ret_int ?_, rfl⟩
  unfold zigI
  split
  · rw [show v / 2147483648 % 4294967296 = 4294967295 from by omega, xor_ones_u32 _ (by omega) (by omega)]; omega
  · rw [show v / 2147483648 % 4294967296 = 0 from by omega, xor_nil_u32 _ (by omega) (by omega)]; omega
set_option maxHeartbeats 400000 in
theorem zig64_any (v : Int) (w : World) (h1 : -9223372036854775808 ≤ v) (h2 : v ≤ 9223372036854775807) :
    Calls Try.prog 16 #[.int .i64 v] w fun e w' => e = .returned (.int .u64 (zigI v)) ∧ w = w' := by
  go_enter Try.func16, Try.ntmps16
  go_wp2
  go_ret
  refine ⟨ret_int ?_, rfl⟩
  unfold zigI
  split
  · simp only [IntKind.wrap_u64]; rw [show v / 9223372036854775808 % 18446744073709551616 = 18446744073709551615 from by omega, xor_ones_u64 _ (by omega) (by omega)]; omega
  · simp only [IntKind.wrap_u64]; rw [show v / 9223372036854775808 % 18446744073709551616 = 0 from by omega, xor_nil_u64 _ (by omega) (by omega)]; omega
set_option maxHeartbeats 400000 in
theorem zag32_any (n : Int) (w : World) (h1 : 0 ≤ n) (h2 : n ≤ 4294967295) :
    Calls Try.prog 14 #[.int .u32 n] w fun e w' => e = .returned (.int .i32 (zagI n)) ∧ w = w' := by
  go_enter Try.func14, Try.ntmps14
  go_wp2
  go_ret
  refine ⟨ret_int ?_, rfl⟩
  rw [and_one_u32 n h1 (by omega)]
  unfold zagI
  split
  · rename_i h; rw [h, show wrap32 (-wrap32 1) = -1 from by simp [wrap32], (xor_i32 _ (by omega) (by omega)).2]
  · rw [show n % 2 = 0 from by omega, show wrap32 (-wrap32 0) = 0 from by simp [wrap32], (xor_i32 _ (by omega) (by omega)).1]
set_option maxHeartbeats 400000 in
theorem zag64_any (n : Int) (w : World) (h1 : 0 ≤ n) (h2 : n ≤ 18446744073709551615) :
    Calls Try.prog 18 #[.int .u64 n] w fun e w' => e = .returned (.int .i64 (zagI n)) ∧ w = w' := by
  go_enter Try.func18, Try.ntmps18
  go_wp2
  go_ret
  refine ⟨ret_int ?_, rfl⟩
  rw [and_one_u64 n h1 (by omega)]
  unfold zagI
  split
  · rename_i h; rw [h, show wrap64 (-wrap64 1) = -1 from by simp [wrap64], (xor_i64 _ (by omega) (by omega)).2]
  · rw [show n % 2 = 0 from by omega, show wrap64 (-wrap64 0) = 0 from by simp [wrap64], (xor_i64 _ (by omega) (by omega)).1]

theorem or128 (q : Nat) : Go.bits .or .u8 ((q : Int) % 256) 128 = ((q % 128 + 128 : Nat) : Int) := by
  have h : ∀ k : Fin 256, Go.bits .or .u8 ((k.1 : Nat) : Int) 128 = ((k.1 % 128 + 128 : Nat) : Int) := by decide +kernel
  have := h ⟨q % 256, Nat.mod_lt _ (by omega)⟩
  simp only at this
  rw [Nat.mod_mod_of_dvd q (by decide : 128 ∣ 256), show ((q % 256 : Nat) : Int) = (q : Int) % 256 from by omega] at this
  exact this
theorem and127 (b : Nat) (h : b ≤ 255) : Go.bits .and .u8 (b : Int) 127 = ((b % 128 : Nat) : Int) := by
  have h' : ∀ k : Fin 256, Go.bits .and .u8 ((k.1 : Nat) : Int) 127 = ((k.1 % 128 : Nat) : Int) := by decide +kernel
  exact h' ⟨b, by omega⟩
theorem and128 (b : Nat) (h : b ≤ 255) : (Go.bits .and .u8 (b : Int) 128 == 0) = decide (b < 128) := by
  have h' : ∀ k : Fin 256, (Go.bits .and .u8 ((k.1 : Nat) : Int) 128 == 0) = decide (k.1 < 128) := by decide +kernel
  exact h' ⟨b, by omega⟩

set_option maxRecDepth 100000 in
set_option maxHeartbeats 400000 in
theorem put_any (A : Option Addr) (xs : List UInt8) (c : Nat) (x : Nat) (w : World) (hr : Rd bv w A xs) (hc : xs.length ≤ c) (hm : c ≤ maxLen) (hx : (x : Int) ≤ 18446744073709551615) (hl : (xs.length : Int) ≤ 1000000) :
    Calls Try.prog 20 #[.slice A xs.length c, .int .u64 x] w fun e w' => ∃ v', e = .returned v' ∧
      Own bv 5 w' w.heap.size v' (xs ++ varint x) ∧ Below w.heap.size w w' := by
  go_enter Try.func20, Try.ntmps20
  go_wp2_with (first
    | (at_make; go_must (refine wpList_mk0 (f := bv) _ bTz rfl _ _ rfl w.heap.size _ _ _ rfl rfl (by omega) (by omega) (by omega) (Nat.le_refl _) ?_; intro v1 w1 hown1 hbel1; have hr1 := hr.below hbel1; have hs1 := hbel1.size))
    | (at_builtin; refine wpList_app (f := bv) _ bTz rfl _ _ rfl bv_one w.heap.size _ _ _ rfl hown1 _ _ rfl hr1 (by simp [maxLen]; omega) (by simp; omega) hs1 ?_; intro v2 w2 hown2 hbel2; rw [List.nil_append] at hown2; have hs2 := Nat.le_trans hs1 hbel2.size; have hb2 : Below w.heap.size w w2 := hbel1.trans hbel2))
  clear hown1 hbel1 hr1 hs1 hs2 hbel2
  go_loopw [1, 5] (fun v o wr => ∃ (f q : Nat) (ys : List UInt8), v = .int .u64 q ∧ (q : Int) ≤ 18446744073709551615 ∧ f ≤ 9 ∧ ys.length + f ≤ xs.length + 9 ∧ Hid (q < 128 ^ (f + 1)) ∧ Hid (ys ++ vi f q = xs ++ varint x) ∧ Own bv 5 wr w.heap.size o ys ∧ Below w.heap.size w wr) (fun v _ _ => (intOf v).toNat)
  case atStart => exact ⟨9, x, xs, rfl, hx, by omega, by omega, by have : (128 : Nat) ^ 10 = 1180591620717411303424 := rfl; unfold Hid; omega, rfl, hown2, hb2⟩
  case round =>
    obtain ⟨f, q, ys, rfl, hq, hf, hyl, HQ, HV, hown, hbel⟩ := hrel
    have hsz := hbel.size
    by_cases hlt : 127 < q
    · obtain ⟨f, rfl⟩ : ∃ f', f = f' + 1 := by
        rcases f with _ | f
        · have := HQ.out; simp at this; omega
        · exact ⟨f, rfl⟩
      go_wp2_with (at_builtin; go_must (refine wpList_app (f := bv) _ bTz rfl _ _ rfl bv_one w.heap.size _ ys [UInt8.ofNat (q % 128 + 128)] rfl (hown.alloc _) _ _ rfl (Rd.one (bv_ofNat _ _ (by rw [or128]; omega)) rfl) (by simp [maxLen]; omega) (by simp; omega) (by simp; omega) ?_; intro v2 w2 hown2 hbel2))
      go_roundw
      case rel =>
        refine ⟨f, q / 128, _, by go_num, by omega, by omega, by simp; omega, ?_, ?_, hown2, (hbel.alloc hsz _).trans hbel2⟩
        · have h1 := HQ.out
          unfold Hid
          rw [Nat.pow_succ] at h1
          exact Nat.div_lt_of_lt_mul (by omega)
        · unfold Hid
          rw [← HV.out, vi_big _ _ hlt]
          simp
      case measure => simp [intOf]; omega
    · go_wp2_with (at_builtin; go_must (refine wpList_app (f := bv) _ bTz rfl _ _ rfl bv_one w.heap.size _ ys [UInt8.ofNat q] rfl (hown.alloc _) _ _ rfl (Rd.one (bv_ofNat _ _ (by omega)) rfl) (by simp [maxLen]; omega) (by simp; omega) (by simp; omega) ?_; intro v2 w2 hown2 hbel2))
      go_ret
      refine ⟨_, rfl, hown2.cast ?_, (hbel.alloc hsz _).trans hbel2⟩
      rw [← HV.out, vi_small _ _ (by omega)]
end Go.Proofs.Ytdgeiaiflkpjmaa
