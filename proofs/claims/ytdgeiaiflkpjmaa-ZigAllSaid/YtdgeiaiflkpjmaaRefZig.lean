/- The contracts of the document's answers for zig: signs to and fro, numbers of seven bits a byte. -/
import Derived.Test.YtdgeiaiflkpjmaaProg
import Derived.Test.YtdgeiaiflkpjmaaBase
import Derived.Test.YtdgeiaiflkpjmaaOwnG
import Derived.WalkSpells
import Derived.Deep.DeepCutAuto
namespace Go.Proofs.Ytdgeiaiflkpjmaa
open Go.RowKit

theorem ret_int {k : IntKind} {a b : Int} (h : a = b) : Ending.returned (.int k a) = .returned (.int k b) := by rw [h]
/-- signs folded -/
def zigI (v : Int) : Int := if v < 0 then -2 * v - 1 else 2 * v
/-- and back -/
def zagI (n : Int) : Int := if n % 2 = 1 then -(n / 2) - 1 else n / 2
theorem zag_zig (v : Int) : zagI (zigI v) = v := by unfold zagI zigI; split <;> split <;> omega
theorem zig_zag (n : Int) (h : 0 ≤ n) : zigI (zagI n) = n := by unfold zagI zigI; split <;> split <;> omega

set_option maxHeartbeats 400000 in
theorem refZig32_any (v : Int) (w : World) (h1 : -2147483648 ≤ v) (h2 : v ≤ 2147483647) :
    Calls Try.prog 13 #[.int .i32 v] w fun e w' => e = .returned (.int .u32 (zigI v)) ∧ w = w' := by
  unfold zigI
  by_cases h : v < 0
  · rw [if_pos h]
    go_enter Try.func13, Try.ntmps13
    go_wp2
    go_ret
    exact ⟨ret_int (by omega), rfl⟩
  · rw [if_neg h]
    go_enter Try.func13, Try.ntmps13
    go_wp2
    go_ret
    exact ⟨ret_int (by omega), rfl⟩

set_option maxHeartbeats 400000 in
theorem refZag32_any (n : Int) (w : World) (h1 : 0 ≤ n) (h2 : n ≤ 4294967295) :
    Calls Try.prog 15 #[.int .u32 n] w fun e w' => e = .returned (.int .i32 (zagI n)) ∧ w = w' := by
  unfold zagI
  by_cases h : n % 2 = 1
  · rw [if_pos h]
    have hb : (n % 2 == 1) = true := by rw [beq_iff_eq]; exact h
    have HH := Lib.hid h
    clear h
    go_enter Try.func15, Try.ntmps15
    go_wp2
    go_ret
    exact ⟨ret_int (by omega), rfl⟩
  · rw [if_neg h]
    have hb : (n % 2 == 1) = false := by rw [beq_eq_false_iff_ne]; exact h
    go_enter Try.func15, Try.ntmps15
    go_wp2
    go_ret
    exact ⟨ret_int (by omega), rfl⟩

set_option maxHeartbeats 400000 in
theorem refZig64_any (v : Int) (w : World) (h1 : -9223372036854775808 ≤ v) (h2 : v ≤ 9223372036854775807) :
    Calls Try.prog 17 #[.int .i64 v] w fun e w' => e = .returned (.int .u64 (zigI v)) ∧ w = w' := by
  unfold zigI
  by_cases h : v < 0
  · rw [if_pos h]
    go_enter Try.func17, Try.ntmps17
    go_wp2
    go_ret
    exact ⟨ret_int (by omega), rfl⟩
  · rw [if_neg h]
    go_enter Try.func17, Try.ntmps17
    go_wp2
    go_ret
    exact ⟨ret_int (by omega), rfl⟩

set_option maxHeartbeats 400000 in
theorem refZag64_any (n : Int) (w : World) (h1 : 0 ≤ n) (h2 : n ≤ 18446744073709551615) :
    Calls Try.prog 19 #[.int .u64 n] w fun e w' => e = .returned (.int .i64 (zagI n)) ∧ w = w' := by
  unfold zagI
  by_cases h : n % 2 = 1
  · rw [if_pos h]
    have hb : (n % 2 == 1) = true := by rw [beq_iff_eq]; exact h
    have HH := Lib.hid h
    clear h
    go_enter Try.func19, Try.ntmps19
    go_wp2
    go_ret
    exact ⟨ret_int (by omega), rfl⟩
  · rw [if_neg h]
    have hb : (n % 2 == 1) = false := by rw [beq_eq_false_iff_ne]; exact h
    go_enter Try.func19, Try.ntmps19
    go_wp2
    go_ret
    exact ⟨ret_int (by omega), rfl⟩


theorem infoz_u8 : (Try.prog.info? 5).map (fun i => (i.zero, i.size, i.bytes)) = some (some (.int .u8 0), 1, 1) := by kernel_rfl
theorem bTz : ElT Try.prog 24 5 1 := by
  obtain ⟨i, h1, h2, h3, h4⟩ := info_parts infoz_u8
  exact ⟨Try.underlying24, i, _, h1, h2, h3, h4, rfl⟩

/-- groups of seven bits, the lowest first; f: how many there may be but the last -/
def vi : Nat → Nat → List UInt8
  | 0, n => [UInt8.ofNat n]
  | f + 1, n => if n < 128 then [UInt8.ofNat n] else UInt8.ofNat (n % 128 + 128) :: vi f (n / 128)
def varint (n : Nat) : List UInt8 := vi 9 n
theorem vi_len (f n : Nat) : 1 ≤ (vi f n).length ∧ (vi f n).length ≤ f + 1 := by
  induction f generalizing n with
  | zero => simp [vi]
  | succ f ih =>
    unfold vi
    split
    · simp
    · have := ih (n / 128); simp only [List.length_cons]; omega
theorem vi_small (f n : Nat) (h : n < 128) : vi f n = [UInt8.ofNat n] := by cases f <;> simp [vi, h]
theorem vi_big (f n : Nat) (h : 127 < n) : vi (f + 1) n = UInt8.ofNat (n % 128 + 128) :: vi f (n / 128) := by
  rw [vi, if_neg (by omega)]

set_option maxHeartbeats 400000 in
theorem refPutVar_any (A : Option Addr) (xs : List UInt8) (c : Nat) (x : Nat) (w : World) (hr : Rd bv w A xs) (hc : xs.length ≤ c) (hm : c ≤ maxLen) (hx : (x : Int) ≤ 18446744073709551615) (hl : (xs.length : Int) ≤ 1000000) :
    Calls Try.prog 21 #[.slice A xs.length c, .int .u64 x] w fun e w' => ∃ v', e = .returned v' ∧
      Own bv 5 w' w.heap.size v' (xs ++ varint x) ∧ Below w.heap.size w w' := by
  go_enter Try.func21, Try.ntmps21
  go_wp2_with (at_builtin; refine wpList_app (f := bv) _ bTz rfl _ _ rfl bv_one w.heap.size _ [] xs rfl (Own.empty w) _ _ rfl (hr.alloc _) (by simp [maxLen]; omega) (by simp; omega) (by simp) ?_; intro v1 w1 hown1 hbel1; rw [List.nil_append] at hown1; have hb1 : Below w.heap.size w w1 := (nx0 w _).trans hbel1; clear hbel1)
  go_loopw [1, 5] (fun v o wr => ∃ (f q : Nat) (ys : List UInt8), v = .int .u64 q ∧ (q : Int) ≤ 18446744073709551615 ∧ f ≤ 9 ∧ ys.length + f ≤ xs.length + 9 ∧ Hid (q < 128 ^ (f + 1)) ∧ Hid (ys ++ vi f q = xs ++ varint x) ∧ Own bv 5 wr w.heap.size o ys ∧ Below w.heap.size w wr) (fun v _ _ => (intOf v).toNat)
  case atStart => exact ⟨9, x, xs, rfl, hx, by omega, by omega, by have : (128 : Nat) ^ 10 = 1180591620717411303424 := rfl; unfold Hid; omega, rfl, hown1, hb1⟩
  case round =>
    obtain ⟨f, q, ys, rfl, hq, hf, hyl, HQ, HV, hown, hbel⟩ := hrel
    have hsz := hbel.size
    by_cases hlt : 127 < q
    · obtain ⟨f, rfl⟩ : ∃ f', f = f' + 1 := by
        rcases f with _ | f
        · have := HQ.out; simp at this; omega
        · exact ⟨f, rfl⟩
      go_wp2_with (at_builtin; go_must (refine wpList_app (f := bv) _ bTz rfl _ _ rfl bv_one w.heap.size _ ys [UInt8.ofNat (q % 128 + 128)] rfl (hown.alloc _) _ _ rfl (Rd.one (bv_ofNat _ _ (by omega)) rfl) (by simp [maxLen]; omega) (by simp; omega) (by simp; omega) ?_; intro v2 w2 hown2 hbel2))
      go_roundw
      case rel =>
        refine ⟨f, q / 128, _, by go_num, by omega, by omega, by simp; omega, ?_, ?_, hown2, (hbel.alloc hsz _).trans hbel2⟩
        · have h1 := HQ.out
          unfold Hid
          rw [Nat.pow_succ] at h1
          exact Nat.div_lt_of_lt_mul (by omega)
        · unfold Hid
          rw [← HV.out, vi_big _ _ hlt]
          simp
      case measure => simp [intOf]; omega
    · go_wp2_with (at_builtin; go_must (refine wpList_app (f := bv) _ bTz rfl _ _ rfl bv_one w.heap.size _ ys [UInt8.ofNat q] rfl (hown.alloc _) _ _ rfl (Rd.one (bv_ofNat _ _ (by omega)) rfl) (by simp [maxLen]; omega) (by simp; omega) (by simp; omega) ?_; intro v2 w2 hown2 hbel2))
      go_ret
      refine ⟨_, rfl, hown2.cast ?_, (hbel.alloc hsz _).trans hbel2⟩
      rw [← HV.out, vi_small _ _ (by omega)]

/-- what Take makes of bytes, from byte i on, v gathered so far: the number, how many bytes, the error -/
def tv (bits : Nat) : List UInt8 → Nat → Nat → Nat × Nat × Nat
  | [], _, _ => (0, 0, 3)
  | b :: l, i, v =>
    if (bits - 7 * i < 7 ∧ b.toNat % 128 / 2 ^ (bits - 7 * i) ≠ 0) ∨ (bits - 7 * i ≤ 7 ∧ 127 < b.toNat) then (0, 0, 4)
    else if b.toNat < 128 then (v + b.toNat % 128 * 2 ^ (7 * i), i + 1, 0)
    else tv bits l (i + 1) (v + b.toNat % 128 * 2 ^ (7 * i))
def takeVarS (bits : Nat) (xs : List UInt8) : Nat × Nat × Nat := tv bits xs 0 0

theorem ret3_ints {k1 k2 k3 : IntKind} {x x' y y' z z' : Int} (hx : x = x') (hy : y = y') (hz : z = z') :
    Ending.returned (.tuple #[.int k1 x, .int k2 y, .int k3 z]) = Ending.returned (.tuple #[.int k1 x', .int k2 y', .int k3 z']) := by rw [hx, hy, hz]
theorem group_bound (n m a low : Nat) (ha : a < 2 ^ m) (hl : low < 2 ^ (n - m)) (hm : m ≤ n) : a + low * 2 ^ m < 2 ^ n := by
  have h1 : a + low * 2 ^ m < 2 ^ m + low * 2 ^ m := by omega
  have h2 : 2 ^ m + low * 2 ^ m = (low + 1) * 2 ^ m := by rw [Nat.add_mul, Nat.one_mul, Nat.add_comm]
  have h3 : (low + 1) * 2 ^ m ≤ 2 ^ (n - m) * 2 ^ m := Nat.mul_le_mul_right _ hl
  have h4 : 2 ^ (n - m) * 2 ^ m = 2 ^ n := by rw [← Nat.pow_add]; congr 1; omega
  omega
theorem or_group (a B m : Nat) (ha : a < 2 ^ m) (hlt : a + B % 128 * 2 ^ m < 2 ^ 64) :
    Go.bits .or .u64 (a : Int) (IntKind.u64.wrap ((B : Int) % 128 * 2 ^ m)) = ((a + B % 128 * 2 ^ m : Nat) : Int) := by
  have e64 : (2 : Nat) ^ 64 = 18446744073709551616 := rfl
  have h0 : ((B : Int) % 128 * 2 ^ m) = ((B % 128 * 2 ^ m : Nat) : Int) := by
    rw [Int.natCast_mul, Int.natCast_pow]; rfl
  have hle : B % 128 * 2 ^ m < 18446744073709551616 := by omega
  have hla : a < 18446744073709551616 := by omega
  rw [h0, IntKind.wrap_u64, Int.emod_eq_of_lt (by omega) (by omega), bits_or_u64_nat _ _ hla hle]
  have := Nat.two_pow_add_eq_or_of_lt (i := m) (b := a) ha (B % 128)
  rw [Nat.or_comm, Nat.mul_comm (B % 128), ← this, Nat.add_comm]
theorem low_lt (B n : Nat) (h : n < 7 → B % 128 / 2 ^ n = 0) : B % 128 < 2 ^ n := by
  by_cases hn : n < 7
  · have := h hn
    rcases Nat.lt_or_ge (B % 128) (2 ^ n) with h1 | h1
    · exact h1
    · have := Nat.div_pos h1 (Nat.pow_pos (by decide)); omega
  · have : 2 ^ 7 ≤ 2 ^ n := Nat.pow_le_pow_right (by decide) (by omega)
    omega

set_option maxRecDepth 100000 in
set_option maxHeartbeats 1000000 in
theorem refTakeVar_any (A : Option Addr) (xs : List UInt8) (c : Nat) (bits : Nat) (w : World) (hr : Rd bv w A xs) (hc : xs.length ≤ c) (hm : c ≤ maxLen) (hl : (xs.length : Int) ≤ 1000000) (hb1 : 1 ≤ bits) (hb2 : bits ≤ 64) :
    Calls Try.prog 11 #[.slice A xs.length c, .int .i64 bits] w fun e w' => ∃ v n er : Nat, e = .returned (.tuple #[.int .u64 v, .int .i64 n, .int .i64 er]) ∧ w = w' ∧ Hid ((v, n, er) = takeVarS bits xs) := by
  have c1 : decide ((bits : Int) < 1) = false := decide_eq_false (by omega)
  have c2 : decide (64 < (bits : Int)) = false := decide_eq_false (by omega)
  go_enter Try.func11, Try.ntmps11
  go_wp2_with fail
  go_loop [7, 8] (fun v i => ∃ (k a : Nat), i = .int .i64 k ∧ v = .int .u64 a ∧ k ≤ xs.length ∧ 7 * k < bits ∧ Hid (a < 2 ^ (7 * k)) ∧ Hid (tv bits (xs.drop k) k a = takeVarS bits xs)) (fun _ i => xs.length - (intOf i).toNat)
  case atStart => exact ⟨0, 0, rfl, rfl, Nat.zero_le _, by omega, by unfold Hid; decide, rfl⟩
  case round =>
    obtain ⟨k, a, rfl, rfl, hk, hk7, HA, HT⟩ := hrel
    by_cases hlt : k < xs.length
    · obtain ⟨b, off, rfl, hb, hcell⟩ := hr.at_ (k := k) hlt
      unfold bv at hcell
      have hx : xs[k].toNat ≤ 255 := by have := xs[k].toNat_lt; omega
      generalize hB : xs[k].toNat = B at *
      have HB := Lib.hid hB
      clear hB
      have hdrop := Lib.hid (List.drop_eq_getElem_cons hlt)
      have f1 : decide (xs.length ≤ k) = false := decide_eq_false (by omega)
      have f1' : decide ((xs.length : Int) ≤ (k : Int)) = false := decide_eq_false (by omega)
      have f2 : decide ((bits : Int) - 7 * (k : Int) ≤ 0) = false := decide_eq_false (by omega)
      by_cases h1 : bits - 7 * k < 7
      · have f3 : decide ((bits : Int) - 7 * (k : Int) < 7) = true := decide_eq_true (by omega)
        have f4 : decide ((bits : Int) - 7 * (k : Int) ≤ 7) = true := decide_eq_true (by omega)
        by_cases h2 : B % 128 / 2 ^ (bits - 7 * k) = 0
        · have f5 : ((B : Int) % 128 / 2 ^ (bits - 7 * k) != 0) = false := by rw [bne_eq_false_iff_eq]; exact_mod_cast h2
          have H2 := Lib.hid h2
          clear h2
          go_upto_region 12 with (fail)
          have hbnd : Hid (a + B % 128 * 2 ^ (7 * k) < 2 ^ 64) := Nat.lt_of_lt_of_le (group_bound bits (7 * k) a _ HA.out (low_lt _ _ fun _ => H2.out) (by omega)) (Nat.pow_le_pow_right (by decide) hb2)
          go_wp2_with fail
          · go_ret3
            refine ⟨0, 0, 4, rfl, rfl, ?_⟩
            unfold Hid
            rw [← HT.out, hdrop.out, tv, HB.out, if_pos (.inr ⟨by omega, by omega⟩)]
          · go_ret3
            refine ⟨a + B % 128 * 2 ^ (7 * k), k + 1, 0, ret3_ints (or_group a B (7 * k) HA.out hbnd.out) rfl rfl, rfl, ?_⟩
            unfold Hid
            rw [← HT.out, hdrop.out, tv, HB.out, if_neg ?_, if_pos (by omega)]
            intro h
            rcases h with ⟨h, h'⟩ | ⟨_, h⟩
            · exact h' H2.out
            · omega
        · have f5 : ((B : Int) % 128 / 2 ^ (bits - 7 * k) != 0) = true := by rw [bne_iff_ne]; exact_mod_cast h2
          have H2 := Lib.hid h2
          clear h2
          go_upto_region 12 with (fail)
          go_wp2_with fail
          go_ret3
          refine ⟨0, 0, 4, rfl, rfl, ?_⟩
          unfold Hid
          rw [← HT.out, hdrop.out, tv, HB.out, if_pos (.inl ⟨h1, H2.out⟩)]
      · have f3 : decide ((bits : Int) - 7 * (k : Int) < 7) = false := decide_eq_false (by omega)
        have hbnd : Hid (a + B % 128 * 2 ^ (7 * k) < 2 ^ 64) := Nat.lt_of_lt_of_le (group_bound bits (7 * k) a _ HA.out (low_lt _ _ fun h => absurd h h1) (by omega)) (Nat.pow_le_pow_right (by decide) hb2)
        by_cases h3 : bits - 7 * k = 7
        · have f4 : decide ((bits : Int) - 7 * (k : Int) ≤ 7) = true := decide_eq_true (by omega)
          have H3 := Lib.hid h3
          clear h3
          go_upto_region 12 with (fail)
          go_wp2_with fail
          · go_ret3
            refine ⟨0, 0, 4, rfl, rfl, ?_⟩
            unfold Hid
            rw [← HT.out, hdrop.out, tv, HB.out, if_pos (.inr ⟨Nat.le_of_eq H3.out, by omega⟩)]
          · go_ret3
            refine ⟨a + B % 128 * 2 ^ (7 * k), k + 1, 0, ret3_ints (or_group a B (7 * k) HA.out hbnd.out) rfl rfl, rfl, ?_⟩
            unfold Hid
            rw [← HT.out, hdrop.out, tv, HB.out, if_neg ?_, if_pos (by omega)]
            intro h
            rcases h with ⟨h, h'⟩ | ⟨_, h⟩
            · exact h1 h
            · omega
        · have f4 : decide ((bits : Int) - 7 * (k : Int) ≤ 7) = false := decide_eq_false (by omega)
          go_upto_region 12 with (fail)
          go_wp2_with fail
          · go_ret3
            refine ⟨a + B % 128 * 2 ^ (7 * k), k + 1, 0, ret3_ints (or_group a B (7 * k) HA.out hbnd.out) rfl rfl, rfl, ?_⟩
            unfold Hid
            rw [← HT.out, hdrop.out, tv, HB.out, if_neg ?_, if_pos (by omega)]
            intro h
            rcases h with ⟨h, h'⟩ | ⟨_, h⟩
            · exact h1 h
            · omega
          · go_round
            case rel =>
              refine ⟨k + 1, a + B % 128 * 2 ^ (7 * k), by go_num, congrArg (Value.int IntKind.u64) (or_group a B (7 * k) HA.out hbnd.out), by omega, by omega, ?_, ?_⟩
              · unfold Hid
                refine Nat.lt_of_lt_of_le (group_bound (7 * k + 7) (7 * k) a _ HA.out ?_ (by omega)) (Nat.pow_le_pow_right (by decide) (by omega))
                rw [show 7 * k + 7 - 7 * k = 7 from by omega]
                omega
              · unfold Hid
                rw [← HT.out, hdrop.out, tv, HB.out, if_neg ?_, if_neg (by omega)]
                intro h
                rcases h with ⟨h, h'⟩ | ⟨h, h'⟩
                · exact h1 h
                · omega
            case measure => simp [intOf]; omega
    · obtain rfl : k = xs.length := by omega
      have f1 : decide ((xs.length : Int) ≤ (xs.length : Int)) = true := decide_eq_true (by omega)
      have f2 : decide ((bits : Int) ≤ 7 * (xs.length : Int)) = false := decide_eq_false (by omega)
      go_wp2_with fail
      go_ret3
      refine ⟨0, 0, 3, rfl, rfl, ?_⟩
      unfold Hid
      rw [← HT.out]
      simp [tv]
end Go.Proofs.Ytdgeiaiflkpjmaa
