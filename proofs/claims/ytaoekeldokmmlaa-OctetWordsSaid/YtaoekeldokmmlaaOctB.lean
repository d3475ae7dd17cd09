/- The contracts of octet's functions: numbers and strings as bytes. -/
import Derived.Test.YtaoekeldokmmlaaOctA
namespace Go.Proofs.Ytaoekeldokmmlaa
open Go.RowKit

set_option maxHeartbeats 400000 in
theorem extend_any (A : Option Addr) (xs : List UInt8) (c : Nat) (n : Int) (w : World) (hr : Rd bv w A xs) (hc : xs.length ≤ c) (h0 : 0 ≤ n) (hl : xs.length + n ≤ 140737488355328) :
    Calls Try.prog 26 #[.slice A xs.length c, .int .i64 n] w fun e w' => ∃ v', e = .returned v' ∧
      Own bv 5 w' w.heap.size v' xs ∧ Below w.heap.size w w' := by
  go_enter Try.func26, Try.ntmps26
  go_wp2_with (first
    | (at_make; go_must (refine wpList_mk0 (f := bv) _ bT rfl _ _ rfl w.heap.size _ _ _ rfl rfl (by omega) (by omega) (by omega) (Nat.le_refl _) ?_; intro v1 w1 hown1 hbel1; have hr1 := hr.below hbel1; have hs1 := hbel1.size))
    | (at_builtin; refine wpList_app (f := bv) _ bT rfl _ _ rfl bv_one w.heap.size _ _ _ rfl hown1 _ _ rfl hr1 (by simp [maxLen]; omega) (by simp; omega) hs1 ?_; intro v' w' hown' hbel'))
  go_ret
  exact ⟨_, rfl, by simpa using hown', hbel1.trans hbel'⟩

set_option maxHeartbeats 400000 in
theorem put_any (A : Option Addr) (xs : List UInt8) (c : Nat) (x n : Nat) (w : World) (hr : Rd bv w A xs) (hc : xs.length ≤ c) (hn : n ≤ 8) (hx : (x : Int) ≤ 18446744073709551615) (hl : xs.length + n ≤ 140737488355328) :
    Calls Try.prog 13 #[.slice A xs.length c, .int .u64 x, .int .i64 n] w fun e w' => ∃ v', e = .returned v' ∧
      Own bv 5 w' w.heap.size v' (xs ++ be n x) ∧ Below w.heap.size w w' := by
  go_enter Try.func13, Try.ntmps13
  go_wp2_with fail
  refine (isWidth_yes n _ (by omega) (by omega)).mono ?_; rintro e w' ⟨rfl, rfl⟩
  go_wp2_with fail
  refine (extend_any A xs c n _ hr hc (by omega) (by omega)).mono ?_; rintro e w1 ⟨v1, rfl, hown1, hbel1⟩
  go_wp2_with fail
  refine (push_any w.heap.size v1 xs x n _ hn hx hl hown1 hbel1.size).mono ?_; rintro e w2 ⟨v2, rfl, hown2, hbel2⟩
  go_wp2_with fail
  go_ret
  exact ⟨_, rfl, hown2, hbel1.trans hbel2⟩

set_option maxHeartbeats 400000 in
theorem put_not (A : Option Addr) (xs : List UInt8) (c : Nat) (x : Nat) (n : Int) (w : World) (hr : Rd bv w A xs) (hc : xs.length ≤ c) (hn : n < 0 ∨ 8 < n) (hl : xs.length ≤ 140737488355328) :
    Calls Try.prog 13 #[.slice A xs.length c, .int .u64 x, .int .i64 n] w fun e w' => ∃ v', e = .returned v' ∧
      Own bv 5 w' w.heap.size v' xs ∧ Below w.heap.size w w' := by
  go_enter Try.func13, Try.ntmps13
  go_wp2_with fail
  refine (isWidth_no n _ hn).mono ?_; rintro e w' ⟨rfl, rfl⟩
  go_wp2_with fail
  refine (extend_any A xs c 0 _ hr hc (by omega) (by omega)).mono ?_; rintro e w1 ⟨v1, rfl, hown1, hbel1⟩
  go_wp2_with fail
  go_ret
  exact ⟨_, rfl, hown1, hbel1⟩

theorem num_lt (l : List UInt8) : num l < 256 ^ l.length := by
  unfold num
  suffices h : ∀ (l : List UInt8) (v : Nat), l.foldl (fun v x => v * 256 + x.toNat) v < (v + 1) * 256 ^ l.length by simpa using h l 0
  intro l
  induction l with
  | nil => intro v; simp
  | cons x l ih =>
    intro v
    have hx := x.toNat_lt
    have h := ih (v * 256 + x.toNat)
    simp only [List.foldl_cons, List.length_cons]
    refine Nat.lt_of_lt_of_le h ?_
    rw [Nat.pow_succ, Nat.mul_comm (256 ^ l.length) 256, ← Nat.mul_assoc]
    exact Nat.mul_le_mul_right _ (by omega)

theorem or_byte (a b : Nat) (ha : a * 256 + b < 18446744073709551616) (hb : b < 256) :
    bits .or .u64 (IntKind.u64.wrap ((a : Int) * 256)) (IntKind.u64.wrap (b : Int)) = ((a * 256 + b : Nat) : Int) := by
  have l1 : a * 256 < 18446744073709551616 := Nat.lt_of_le_of_lt (Nat.le_add_right _ _) ha
  have l2 : b < 18446744073709551616 := Nat.lt_trans hb (by decide)
  have hz := bits_or_u64_nat (a * 256) b l1 l2
  clear l1 l2
  rw [IntKind.wrap_u64, IntKind.wrap_u64]
  have e1 : ((a : Int) * 256) % 18446744073709551616 = ((a * 256 : Nat) : Int) := by omega
  have e2 : (b : Int) % 18446744073709551616 = (b : Int) := by omega
  have h := Nat.two_pow_add_eq_or_of_lt (i := 8) (b := b) hb a
  have h' : (a * 256) ||| b = a * 256 + b := by rw [Nat.mul_comm a 256]; exact h.symm
  rw [e1, e2, hz, h']

set_option maxHeartbeats 400000 in
theorem take_ok (A : Option Addr) (xs : List UInt8) (c : Nat) (n : Nat) (w : World) (hr : Rd bv w A xs) (hc : xs.length ≤ c) (hm : c ≤ maxLen) (hn : n ≤ 8) (hl : n ≤ xs.length) :
    Calls Try.prog 11 #[.slice A xs.length c, .int .i64 n] w fun e w' => e = .returned (.tuple #[.int .u64 (num (xs.take n) : Nat), .int .i64 0]) ∧ w = w' := by
  unfold maxLen at hm
  have hd : decide (xs.length < n) = false := by simp; omega
  go_enter Try.func11, Try.ntmps11
  go_wp2_with fail
  refine (isWidth_yes n _ (by omega) (by omega)).mono ?_; rintro e w' ⟨rfl, rfl⟩
  go_wp2_with fail
  go_loop [4, 19] (fun v i => ∃ k : Nat, k ≤ n ∧ i = .int .i64 k ∧ v = .int .u64 (num (xs.take k) : Nat)) (fun _ i => n - (intOf i).toNat)
  case atStart => exact ⟨0, Nat.zero_le _, rfl, by simp [num]⟩
  case round =>
    obtain ⟨k, hk, rfl, rfl⟩ := hrel
    by_cases hlt : k < n
    · obtain ⟨b, off, rfl, hb, hcell⟩ := hr.at_ (k := k) (by omega)
      unfold bv at hcell
      have hnum := num_lt (xs.take k)
      have hS := Lib.hid (num_snoc (xs.take k) xs[k])
      go_wp2
      go_round
      case rel =>
        refine ⟨k + 1, by omega, by go_num, ?_⟩
        rw [List.length_take, Nat.min_eq_left (by omega)] at hnum
        have h8 : 256 ^ k ≤ 256 ^ 7 := Nat.pow_le_pow_right (by decide) (by omega)
        have hb := xs[k].toNat_lt
        rw [or_byte _ _ (by omega) hb, List.take_succ_eq_append_getElem (by omega), hS.out]
      case measure => simp [intOf]; omega
    · obtain rfl : k = n := by omega
      have hlt' : ¬ (k : Int) < k := by omega
      go_wp2
      go_ret2
      exact ⟨rfl, rfl⟩

set_option maxHeartbeats 400000 in
theorem take_short (A : Option Addr) (xs : List UInt8) (c : Nat) (n : Nat) (w : World) (hm : xs.length ≤ maxLen) (hn : n ≤ 8) (hl : xs.length < n) :
    Calls Try.prog 11 #[.slice A xs.length c, .int .i64 n] w fun e w' => e = .returned (.tuple #[.int .u64 0, .int .i64 3]) ∧ w = w' := by
  unfold maxLen at hm
  go_enter Try.func11, Try.ntmps11
  go_wp2_with fail
  refine (isWidth_yes n _ (by omega) (by omega)).mono ?_; rintro e w' ⟨rfl, rfl⟩
  go_wp2_with fail
  go_ret2
  exact ⟨rfl, rfl⟩

set_option maxHeartbeats 400000 in
theorem take_arg (A : Option Addr) (xs : List UInt8) (c : Nat) (n : Int) (w : World) (hn : n < 0 ∨ 8 < n) :
    Calls Try.prog 11 #[.slice A xs.length c, .int .i64 n] w fun e w' => e = .returned (.tuple #[.int .u64 0, .int .i64 1]) ∧ w = w' := by
  go_enter Try.func11, Try.ntmps11
  go_wp2_with fail
  refine (isWidth_no n _ hn).mono ?_; rintro e w' ⟨rfl, rfl⟩
  go_wp2_with fail
  go_ret2
  exact ⟨rfl, rfl⟩

set_option maxHeartbeats 400000 in
theorem putText_any (A : Option Addr) (xs : List UInt8) (c : Nat) (s : ByteArray) (w : World) (hr : Rd bv w A xs) (hc : xs.length ≤ c) (hl : xs.length + 4 + s.size ≤ 140737488355328) :
    Calls Try.prog 18 #[.slice A xs.length c, .string s] w fun e w' => ∃ v', e = .returned v' ∧
      Own bv 5 w' w.heap.size v' (xs ++ be 4 s.size ++ s.data.toList) ∧ Below w.heap.size w w' := by
  go_enter Try.func18, Try.ntmps18
  go_wp2_with fail
  go_outline
  refine (extend_any A xs c _ _ hr hc (by omega) (by omega)).mono ?_; rintro e w1 ⟨v1, rfl, hown1, hbel1⟩
  go_wp2_with fail
  go_outline
  refine (push_any w.heap.size v1 xs _ 4 _ (by omega) (by omega) (by omega) hown1 hbel1.size).mono ?_; rintro e w2 ⟨v2, rfl, hown2, hbel2⟩
  go_wp2_with (at_builtin; go_must (refine wpList_appstr (P := Try.prog) _ bT bZ Try.underlying9 rfl _ _ rfl w.heap.size _ _ rfl hown2 _ rfl (by simp [be_len]; omega) (Nat.le_trans hbel1.size hbel2.size) ?_; intro v' w' hown' hbel'))
  go_ret
  exact ⟨_, rfl, hown', hbel1.trans (hbel2.trans hbel')⟩
end Go.Proofs.Ytaoekeldokmmlaa
