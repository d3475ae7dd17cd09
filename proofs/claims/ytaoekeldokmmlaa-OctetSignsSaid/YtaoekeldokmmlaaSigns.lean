/- OctetSigns: for every two numbers with a sign and every byte the law returns true and leaves memory as it was. No condition. -/
import Derived.Test.YtaoekeldokmmlaaBegun
import Derived.Test.YtaoekeldokmmlaaOwnG
namespace Go.Proofs.Ytaoekeldokmmlaa
open Go.RowKit

theorem num_append (l m : List UInt8) : num (l ++ m) = num l * 256 ^ m.length + num m := by
  unfold num
  rw [List.foldl_append]
  suffices h : ∀ (m : List UInt8) (v : Nat), m.foldl (fun v x => v * 256 + x.toNat) v = v * 256 ^ m.length + m.foldl (fun v x => v * 256 + x.toNat) 0 from h m _
  intro m
  induction m with
  | nil => intro v; simp
  | cons x m ih =>
    intro v
    simp only [List.foldl_cons, List.length_cons]
    rw [ih, ih (0 * 256 + x.toNat)]
    rw [Nat.pow_succ, Nat.zero_mul, Nat.zero_add, Nat.add_mul, Nat.mul_assoc, Nat.mul_comm 256, Nat.add_assoc]

theorem num_beT (n x k : Nat) (hk : k ≤ n) : num (beT n x k) = x / 256 ^ (n - k) % 256 ^ k := by
  induction k with
  | zero => simp [beT, num, Nat.mod_one]
  | succ k ih =>
    rw [beT_succ, num_snoc, ih (by omega)]
    have e : 2 ^ (8 * (n - 1 - k)) = 256 ^ (n - (k + 1)) := by rw [Nat.pow_mul, show n - 1 - k = n - (k + 1) from by omega]
    rw [e, show n - k = (n - (k + 1)) + 1 from by omega, Nat.pow_succ, ← Nat.div_div_eq_div_mul]
    generalize x / 256 ^ (n - (k + 1)) = y
    rw [UInt8.toNat_ofNat']
    have h : y % 256 ^ (k + 1) = y % 256 + 256 * (y / 256 % 256 ^ k) := by rw [Nat.pow_succ, Nat.mul_comm, Nat.mod_mul]
    rw [h]
    omega
theorem num_be (n x : Nat) : num (be n x) = x % 256 ^ n := by
  unfold be; rw [num_beT n x n (Nat.le_refl _)]; simp

theorem put_anyI (A : Option Addr) (xs : List UInt8) (c : Nat) (x : Int) (n : Nat) (w : World) (hr : Rd bv w A xs) (hc : xs.length ≤ c) (hn : n ≤ 8) (h0 : 0 ≤ x) (hx : x ≤ 18446744073709551615) (hl : xs.length + n ≤ 140737488355328) :
    Calls Try.prog 13 #[.slice A xs.length c, .int .u64 x, .int .i64 n] w fun e w' => ∃ v', e = .returned v' ∧
      Own bv 5 w' w.heap.size v' (xs ++ be n x.toNat) ∧ Below w.heap.size w w' := by
  obtain ⟨m, rfl⟩ := Int.eq_ofNat_of_zero_le h0
  exact put_any A xs c m n w hr hc hn hx hl

theorem back64 (x : Int) (h1 : -9223372036854775808 ≤ x) (h2 : x ≤ 9223372036854775807) : wrap64 (((IntKind.u64.wrap x).toNat % 256 ^ 8 : Nat) : Int) = x := by
  rw [IntKind.wrap_u64, show (256 : Nat) ^ 8 = 18446744073709551616 from rfl]
  simp only [wrap64, IntKind.wrap_i64]
  omega
theorem back16 (y : Int) (h1 : -32768 ≤ y) (h2 : y ≤ 32767) : IntKind.i16.wrap (((IntKind.u64.wrap y).toNat % 256 ^ 2 : Nat) : Int) = y := by
  rw [IntKind.wrap_u64, show (256 : Nat) ^ 2 = 65536 from rfl]
  simp [IntKind.wrap, IntKind.bits, IntKind.signed]
  omega
theorem back32 (y : Int) (h1 : -32768 ≤ y) (h2 : y ≤ 32767) : wrap32 (((IntKind.u64.wrap y).toNat % 256 ^ 4 : Nat) : Int) = y := by
  rw [IntKind.wrap_u64, show (256 : Nat) ^ 4 = 4294967296 from rfl]
  simp [wrap32, IntKind.wrap, IntKind.bits, IntKind.signed]
  omega
theorem take_left (l m : List UInt8) (n : Nat) (h : l.length = n) : (l ++ m).take n = l := by rw [← h]; exact List.take_left
theorem drop_left (l m : List UInt8) (n : Nat) (h : l.length = n) : (l ++ m).drop n = m := by rw [← h]; exact List.drop_left

set_option maxHeartbeats 800000 in
theorem OctetSigns_walk (x y m : Int) (w : World) (hx1 : -9223372036854775808 ≤ x) (hx2 : x ≤ 9223372036854775807) (hy1 : -32768 ≤ y) (hy2 : y ≤ 32767) (hm1 : 0 ≤ m) (hm2 : m ≤ 255) :
    Calls Try.prog 4 #[.int .i64 x, .int .i16 y, .int .u8 m] w fun e w' => e = .returned (.bool true) ∧ Below w.heap.size w w' := by
  go_enter Try.func4, Try.ntmps4
  go_wp2_with fail
  refine (begun_any _).mono ?_; rintro e w0 ⟨rfl, hb0⟩
  go_wp2_with fail
  have wx : 0 ≤ IntKind.u64.wrap x ∧ IntKind.u64.wrap x ≤ 18446744073709551615 := by rw [IntKind.wrap_u64]; omega
  have wy : 0 ≤ IntKind.u64.wrap y ∧ IntKind.u64.wrap y ≤ 18446744073709551615 := by rw [IntKind.wrap_u64]; omega
  generalize hX : IntKind.u64.wrap x = X at *
  generalize hY : IntKind.u64.wrap y = Y at *
  have HX := Lib.hid hX
  have HY := Lib.hid hY
  clear hX hY
  refine (put_anyI none [] 0 X 8 _ Rd.nil (by decide) (by decide) wx.1 wx.2 (by decide)).mono ?_; rintro e w1 ⟨v1, rfl, hown1, hb1⟩
  obtain ⟨A1, c1, W1, rfl, HW1, h1a, h1b, hc1, hm1, hr1, -⟩ := hown1.name 8 (by simp [be_len])
  clear hown1
  go_wp2_with fail
  refine (put_anyI A1 W1 c1 _ 2 _ hr1 hc1 (by decide) (by rw [IntKind.wrap_u64]; omega) (by rw [IntKind.wrap_u64]; omega) (by omega)).mono ?_; rintro e w2 ⟨v2, rfl, hown2, hb2⟩
  obtain ⟨A2, c2, W2, rfl, HW2, h2a, h2b, hc2, hm2, hr2, -⟩ := hown2.name 10 (by simp [be_len]; omega)
  clear hown2 hr1 hc1 hm1 h1a h1b
  go_wp2_with fail
  refine (put_anyI A2 W2 c2 _ 4 _ hr2 hc2 (by decide) (by rw [IntKind.wrap_u64]; omega) (by rw [IntKind.wrap_u64]; omega) (by omega)).mono ?_; rintro e w3 ⟨v3, rfl, hown3, hb3⟩
  obtain ⟨A3, c3, W3, rfl, HW3, h3a, h3b, hc3, hm3, hr3, hown3⟩ := hown3.name 14 (by simp [be_len]; omega)
  have hbw2 : Below w.heap.size w w2 := nx hb0 (nx hb1 hb2)
  have hg3 := hown3.gen.less hbw2.size
  have hs3 := (nx hbw2 hb3).size
  clear hown3 hr2 hc2 hm2 h2a h2b
  go_wp2_with fail
  refine (take_ok A3 W3 c3 8 _ hr3 hc3 hm3 (by decide) (by omega)).mono ?_; rintro e w' ⟨rfl, rfl⟩
  unfold maxLen at hm3
  have HA : Hid ((wrap64 (num (W3.take 8) : Nat) == x) = true) := by
    refine beq_iff_eq.2 ?_
    rw [HW3.out, HW2.out, HW1.out, ← HX.out, List.append_assoc, List.nil_append, take_left _ _ _ (be_len _ _), num_be]
    exact back64 x hx1 hx2
  have hla : num (W3.take 8) < 256 ^ 8 := num_take_lt _ _
  generalize num (W3.take 8) = a at *
  have hla' : (a : Int) ≤ 18446744073709551615 := by have : (256 : Nat) ^ 8 = 18446744073709551616 := rfl; omega
  clear hla
  have hd14 : ((W3.length : Int) != 14) = false := by rw [bne_eq_false_iff_eq]; omega
  go_wp2_with (refine wpList_sl (f := bv) _ bT rfl _ _ _ rfl A3 W3 c3 rfl hr3 hc3 8 W3.length (.inr ⟨_, _, rfl, rfl⟩) (.inl ⟨rfl, rfl⟩) (by omega) (by omega) (by omega) ?_; intro A4 ys c4 hcut hc4 hc4'; obtain ⟨hr4, HY4, h4a, h4b⟩ := hcut)
  refine (take_ok A4 ys c4 2 _ hr4 hc4 (by unfold maxLen; omega) (by decide) (by omega)).mono ?_; rintro e w' ⟨rfl, rfl⟩
  have HB : Hid ((IntKind.i16.wrap (num (ys.take 2) : Nat) == y) = true) := by
    refine beq_iff_eq.2 ?_
    have e1 : ((W3.length : Int)).toNat = W3.length := by omega
    rw [HY4.out, e1, List.take_length, HW3.out, HW2.out, HW1.out, List.append_assoc, List.nil_append, show Int.toNat 8 = 8 from rfl, drop_left _ _ _ (be_len _ _), take_left _ _ _ (be_len _ _), num_be]
    exact back16 y hy1 hy2
  have hlb : num (ys.take 2) < 256 ^ 2 := num_take_lt _ _
  generalize num (ys.take 2) = b at *
  have hlb' : (b : Int) ≤ 65535 := by omega
  clear hlb
  go_wp2_with (first
    | (refine wpList_slG (f := bv) _ bT rfl _ _ _ rfl w.heap.size A3 W3 c3 rfl hg3 10 W3.length (.inr ⟨_, _, rfl, rfl⟩) (.inl ⟨rfl, rfl⟩) (by omega) (by omega) (by omega) ?_; intro A5 zs c5 hg5 HY5 h5a h5b)
    | (at_builtin; go_must (refine wpList_appG (f := bv) _ bT rfl _ _ rfl bv_one _ _ zs [UInt8.ofNat m.toNat] rfl (hg5.below (nx0 _ _)) _ _ rfl (Rd.one (bv_ofNat _ _ (by omega)) rfl) (by simp) (by simp [maxLen]; omega) (by simp; omega) (by simp; omega) ?_; intro v6 w6 hg6 hb6)))
  obtain ⟨A6, c6, us, rfl, HU, h6a, h6b, hc6, hm6, hr6, -⟩ := hg6.name 5 (by simp; omega)
  refine (take_ok A6 us c6 4 _ hr6 hc6 hm6 (by decide) (by omega)).mono ?_; rintro e w' ⟨rfl, rfl⟩
  have HC : Hid ((wrap32 (num (us.take 4) : Nat) == y) = true) := by
    refine beq_iff_eq.2 ?_
    have e1 : ((W3.length : Int)).toNat = W3.length := by omega
    rw [HU.out, HY5.out, e1, List.take_length, HW3.out, HW2.out, HW1.out, List.nil_append, show Int.toNat 10 = 10 from rfl, drop_left _ _ _ (by simp [be_len]), take_left _ _ _ (be_len _ _), num_be]
    exact back32 y hy1 hy2
  have hlc : num (us.take 4) < 256 ^ 4 := num_take_lt _ _
  generalize num (us.take 4) = c at *
  have hlc' : (c : Int) ≤ 4294967295 := by omega
  clear hlc
  have hA := HA.out
  have hB := HB.out
  have hC := HC.out
  clear HA HB HC
  go_wp2_with fail
  go_ret
  exact ⟨rfl, (nxa (nx hbw2 hb3) _).trans hb6⟩
end Go.Proofs.Ytaoekeldokmmlaa
