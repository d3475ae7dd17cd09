/- The contracts of octet's functions: strings taken, sums, sealed records. -/
import Derived.Test.YtaoekeldokmmlaaOctB
namespace Go.Proofs.Ytaoekeldokmmlaa
open Go.RowKit

set_option maxHeartbeats 400000 in
theorem takeText_short4 (A : Option Addr) (xs : List UInt8) (c : Nat) (w : World) (hm : xs.length ≤ maxLen) (hl : xs.length < 4) :
    Calls Try.prog 16 #[.slice A xs.length c] w fun e w' => e = .returned (.tuple #[.string ⟨#[]⟩, .int .i64 0, .int .i64 3]) ∧ w = w' := by
  go_enter Try.func16, Try.ntmps16
  go_wp2_with fail
  refine (take_short A xs c 4 _ hm (by omega) hl).mono ?_; rintro e w' ⟨rfl, rfl⟩
  go_wp2_with fail
  go_ret3
  exact ⟨rfl, rfl⟩

set_option maxHeartbeats 400000 in
theorem takeText_ok (A : Option Addr) (xs : List UInt8) (c : Nat) (w : World) (hr : Rd bv w A xs) (hc : xs.length ≤ c) (hm : c ≤ maxLen) (hl : 4 ≤ xs.length) (hn : 4 + num (xs.take 4) ≤ xs.length) :
    Calls Try.prog 16 #[.slice A xs.length c] w fun e w' => e = .returned (.tuple #[.string ⟨((xs.drop 4).take (num (xs.take 4))).toArray⟩, .int .i64 (4 + num (xs.take 4) : Nat), .int .i64 0]) ∧ w = w' := by
  go_enter Try.func16, Try.ntmps16
  go_wp2_with fail
  refine (take_ok A xs c 4 _ hr hc hm (by omega) hl).mono ?_; rintro e w' ⟨rfl, rfl⟩
  unfold maxLen at hm
  generalize hN : num (xs.take 4) = N at *
  have HN := Lib.hid hN
  clear hN
  go_wp2_with (first
    | (refine wpList_sl (f := bv) _ bT rfl _ _ _ rfl A xs c rfl hr hc 4 xs.length (.inr ⟨_, _, rfl, rfl⟩) (.inl ⟨rfl, rfl⟩) (by omega) (by omega) (by omega) ?_; intro A1 ys c1 hcut hc1 hc2; obtain ⟨hr1, HY, hlo, hhi⟩ := hcut)
    | (refine wpList_sl (f := bv) _ bT rfl _ _ _ rfl A1 ys c1 rfl hr1 hc1 0 N (.inl ⟨rfl, rfl⟩) (.inr ⟨_, _, rfl, rfl⟩) (by omega) (by omega) (by omega) ?_; intro A2 zs c2 hcut hc3 hc4; obtain ⟨hr2, HZ, hlo2, hhi2⟩ := hcut)
    | (refine wpList_str _ rfl _ rfl Try.underlying22 Try.underlying5 Try.underlying9 A2 zs c2 rfl hr2 ?_; intro s HS hs1 hs2))
  go_ret3
  refine ⟨?_, rfl⟩
  rw [HS.out, HZ.out, HY.out, HN.out]
  simp

set_option maxHeartbeats 400000 in
theorem takeText_short (A : Option Addr) (xs : List UInt8) (c : Nat) (w : World) (hr : Rd bv w A xs) (hc : xs.length ≤ c) (hm : c ≤ maxLen) (hl : 4 ≤ xs.length) (hn : xs.length < 4 + num (xs.take 4)) :
    Calls Try.prog 16 #[.slice A xs.length c] w fun e w' => e = .returned (.tuple #[.string ⟨#[]⟩, .int .i64 0, .int .i64 3]) ∧ w = w' := by
  go_enter Try.func16, Try.ntmps16
  go_wp2_with fail
  refine (take_ok A xs c 4 _ hr hc hm (by omega) hl).mono ?_; rintro e w' ⟨rfl, rfl⟩
  unfold maxLen at hm
  generalize hN : num (xs.take 4) = N at *
  have HN := Lib.hid hN
  clear hN
  go_wp2_with (first
    | (refine wpList_sl (f := bv) _ bT rfl _ _ _ rfl A xs c rfl hr hc 4 xs.length (.inr ⟨_, _, rfl, rfl⟩) (.inl ⟨rfl, rfl⟩) (by omega) (by omega) (by omega) ?_; intro A1 ys c1 hcut hc1 hc2; obtain ⟨hr1, HY, hlo, hhi⟩ := hcut))
  go_ret3
  exact ⟨rfl, rfl⟩

/-- one step of the register -/
def crcStep (r : Nat) : Nat := (r / 2) ^^^ (if r % 2 = 1 then 2197175160 else 0)
def crcSteps : Nat → Nat → Nat
  | 0, r => r
  | k + 1, r => crcStep (crcSteps k r)
def crcByte (r : Nat) (x : UInt8) : Nat := crcSteps 8 (r ^^^ x.toNat)
def crcReg (l : List UInt8) : Nat := l.foldl crcByte 4294967295
def crc (l : List UInt8) : Nat := 4294967295 ^^^ crcReg l

theorem xor_le32 (a b : Nat) (ha : (a : Int) ≤ 4294967295) (hb : b ≤ 4294967295) : ((a ^^^ b : Nat) : Int) ≤ 4294967295 := by
  have := Nat.xor_lt_two_pow (x := a) (y := b) (n := 32) (by omega) (by omega)
  omega
theorem xor_u32b (a b : Nat) (ha : (a : Int) ≤ 4294967295) (hb : b < 256) : bits .xor .u32 (a : Int) ((b : Int) % 4294967296) = ((a ^^^ b : Nat) : Int) := by
  rw [show (b : Int) % 4294967296 = (b : Int) from by omega]
  exact u32_xor_nat a b (by omega) (by omega)
theorem crcReg_snoc (xs : List UInt8) (k : Nat) (h : k < xs.length) : crcReg (xs.take (k + 1)) = crcSteps 8 (crcReg (xs.take k) ^^^ xs[k].toNat) := by
  rw [List.take_succ_eq_append_getElem h]
  unfold crcReg
  rw [List.foldl_append]
  rfl

theorem crc_bits (q : Nat) (hq : (q : Int) ≤ 4294967295) :
    bits .xor .u32 ((q : Int) / 2) (bits .and .u32 2197175160 (-bits .and .u32 (q : Int) 1 % 4294967296)) = ((crcStep q : Nat) : Int) ∧ ((crcStep q : Nat) : Int) ≤ 4294967295 := by
  have h1 : bits .and .u32 (q : Int) 1 = ((q % 2 : Nat) : Int) := by
    have := u32_and_nat q 1 (by omega) (by omega)
    rw [Nat.and_one_is_mod] at this
    exact this
  have h2 : (q : Int) / 2 = ((q / 2 : Nat) : Int) := by omega
  have h3 : bits .and .u32 2197175160 (-((q % 2 : Nat) : Int) % 4294967296) = (((if q % 2 = 1 then 2197175160 else 0) : Nat) : Int) := by
    rcases Nat.mod_two_eq_zero_or_one q with h | h <;> rw [h] <;> rfl
  have hlt : (if q % 2 = 1 then 2197175160 else 0 : Nat) < 4294967296 := by split <;> omega
  constructor
  · rw [h1, h2, h3, u32_xor_nat _ _ (by omega) hlt]
    rfl
  · have := Nat.xor_lt_two_pow (x := q / 2) (y := if q % 2 = 1 then 2197175160 else 0) (n := 32) (by omega) hlt
    unfold crcStep
    omega

set_option maxHeartbeats 400000 in
theorem sum_any (A : Option Addr) (xs : List UInt8) (c : Nat) (w : World) (hr : Rd bv w A xs) (hc : xs.length ≤ c) (hm : c ≤ maxLen) :
    Calls Try.prog 22 #[.slice A xs.length c] w fun e w' => e = .returned (.int .u32 (crc xs : Nat)) ∧ w = w' := by
  unfold maxLen at hm
  go_enter Try.func22, Try.ntmps22
  go_wp2_with fail
  go_loop [3, 8] (fun v i => ∃ k r : Nat, k ≤ xs.length ∧ i = .int .i64 k ∧ v = .int .u32 (r : Nat) ∧ (r : Int) ≤ 4294967295 ∧ Hid (r = crcReg (xs.take k))) (fun _ i => xs.length - (intOf i).toNat)
  case atStart => exact ⟨0, 4294967295, Nat.zero_le _, rfl, rfl, by decide, rfl⟩
  case round =>
    obtain ⟨k, r, hk, rfl, rfl, hr4, HR⟩ := hrel
    by_cases hlt : k < xs.length
    · obtain ⟨b, off, rfl, hb, hcell⟩ := hr.at_ (k := k) (by omega)
      unfold bv at hcell
      have hx := xs[k].toNat_lt
      have hxor : bits .xor .u32 (r : Int) ((xs[k].toNat : Int) % 4294967296) = ((r ^^^ xs[k].toNat : Nat) : Int) := xor_u32b r _ hr4 hx
      have hle := xor_le32 r xs[k].toNat hr4 (by omega)
      generalize hq : r ^^^ xs[k].toNat = q0 at *
      have HQ := Lib.hid hq
      clear hq
      have h16 : Hid (crcReg (xs.take (k + 1)) = crcSteps 8 q0) := by
        rw [← HQ.out, HR.out]; exact crcReg_snoc xs k hlt
      clear hx HR HQ hr4
      go_wp2
      go_loop [3, 16] (fun v i => ∃ j q : Nat, j ≤ 8 ∧ i = .int .i64 j ∧ v = .int .u32 (q : Nat) ∧ (q : Int) ≤ 4294967295 ∧ Hid (q = crcSteps j q0)) (fun _ i => 8 - (intOf i).toNat)
      case atStart => exact ⟨0, q0, Nat.zero_le _, rfl, rfl, hle, rfl⟩
      case round =>
        obtain ⟨j, q, hj, rfl, rfl, hq4, HQ⟩ := hrel
        by_cases hj8 : j < 8
        · clear hxor
          go_wp2
          go_round
          case rel =>
            have hb := crc_bits q hq4
            have hs := HQ.out
            exact ⟨j + 1, crcStep q, by omega, by go_num, congrArg (Value.int IntKind.u32) hb.1, hb.2, by rw [hs]; rfl⟩
          case measure => simp [intOf]; omega
        · obtain rfl : j = 8 := by omega
          have hlt' : ¬ ((8 : Nat) : Int) < 8 := by omega
          go_wp2
          go_round
          case rel => exact ⟨k + 1, q, by omega, by go_num, rfl, hq4, by rw [h16.out]; exact HQ⟩
          case measure => simp [intOf]; omega
    · obtain rfl : k = xs.length := by omega
      have hlt' : ¬ (xs.length : Int) < xs.length := by omega
      go_wp2
      go_ret
      refine ⟨?_, rfl⟩
      have h1 := u32_xor_nat 4294967295 r (by omega) (by omega)
      have h2 := HR.out
      rw [List.take_length] at h2
      subst h2
      exact congrArg (fun z => Ending.returned (Value.int IntKind.u32 z)) h1
end Go.Proofs.Ytaoekeldokmmlaa
