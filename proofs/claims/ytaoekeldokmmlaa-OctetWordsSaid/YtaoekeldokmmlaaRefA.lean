/- The contracts of the document's answers for octet: numbers as bytes. -/
import Derived.Test.YtaoekeldokmmlaaOctD
import Derived.Test.YtaoekeldokmmlaaOwnG
namespace Go.Proofs.Ytaoekeldokmmlaa
open Go.RowKit

set_option maxHeartbeats 400000 in
theorem refTake_ok (A : Option Addr) (xs : List UInt8) (c : Nat) (n : Nat) (w : World) (hr : Rd bv w A xs) (hc : xs.length ≤ c) (hm : c ≤ maxLen) (hn : n ≤ 8) (hl : n ≤ xs.length) :
    Calls Try.prog 12 #[.slice A xs.length c, .int .i64 n] w fun e w' => e = .returned (.tuple #[.int .u64 (num (xs.take n) : Nat), .int .i64 0]) ∧ w = w' := by
  unfold maxLen at hm
  have h1 : ¬ ((n : Int) < 0) := by omega
  have h2 : ¬ (8 < (n : Int)) := by omega
  have h3 : ¬ ((xs.length : Int) < (n : Int)) := by omega
  have hd : decide (xs.length < n) = false := by simp; omega
  go_enter Try.func12, Try.ntmps12
  go_wp2_with fail
  go_loop [6, 7] (fun v i => ∃ k : Nat, k ≤ n ∧ i = .int .i64 k ∧ v = .int .u64 (num (xs.take k) : Nat)) (fun _ i => n - (intOf i).toNat)
  case atStart => exact ⟨0, Nat.zero_le _, rfl, by simp [num]⟩
  case round =>
    obtain ⟨k, hk, rfl, rfl⟩ := hrel
    by_cases hlt : k < n
    · obtain ⟨b, off, rfl, hb, hcell⟩ := hr.at_ (k := k) (by omega)
      unfold bv at hcell
      have hnum := num_take_lt xs k
      have h8 : 256 ^ k ≤ 256 ^ 7 := Nat.pow_le_pow_right (by decide) (by omega)
      have h7 : (256 : Nat) ^ 7 = 72057594037927936 := rfl
      have hx := xs[k].toNat_lt
      have hb1 : (num (xs.take k) : Int) * 256 + xs[k].toNat ≤ 18446744073709551615 := by omega
      have hS := Lib.hid (num_snoc (xs.take k) xs[k])
      clear h8 h7 hx hnum
      go_wp2
      go_round
      case rel =>
        refine ⟨k + 1, by omega, by go_num, ?_⟩
        rw [List.take_succ_eq_append_getElem (by omega), hS.out]
        go_num
      case measure => simp [intOf]; omega
    · obtain rfl : k = n := by omega
      have hlt' : ¬ (k : Int) < k := by omega
      go_wp2
      go_ret2
      exact ⟨rfl, rfl⟩

set_option maxHeartbeats 400000 in
theorem refTake_short (A : Option Addr) (xs : List UInt8) (c : Nat) (n : Nat) (w : World) (hm : xs.length ≤ maxLen) (hn : n ≤ 8) (hl : xs.length < n) :
    Calls Try.prog 12 #[.slice A xs.length c, .int .i64 n] w fun e w' => e = .returned (.tuple #[.int .u64 0, .int .i64 3]) ∧ w = w' := by
  unfold maxLen at hm
  have h1 : ¬ ((n : Int) < 0) := by omega
  have h2 : ¬ (8 < (n : Int)) := by omega
  have h3 : ((xs.length : Int) < (n : Int)) := by omega
  go_enter Try.func12, Try.ntmps12
  go_wp2_with fail
  go_ret2
  exact ⟨rfl, rfl⟩

set_option maxHeartbeats 400000 in
theorem refTake_arg (A : Option Addr) (xs : List UInt8) (c : Nat) (n : Int) (w : World) (hn : n < 0 ∨ 8 < n) :
    Calls Try.prog 12 #[.slice A xs.length c, .int .i64 n] w fun e w' => e = .returned (.tuple #[.int .u64 0, .int .i64 1]) ∧ w = w' := by
  rcases hn with h | h
  · go_enter Try.func12, Try.ntmps12
    go_wp2_with fail
    go_ret2
    exact ⟨rfl, rfl⟩
  · have h0 : ¬ n < 0 := by omega
    go_enter Try.func12, Try.ntmps12
    go_wp2_with fail
    go_ret2
    exact ⟨rfl, rfl⟩

theorem put_step (xs bs : List UInt8) (j : Nat) (hj : j < bs.length) :
    (xs ++ List.replicate (j + 1) 0 ++ bs.drop (j + 1)).set (xs.length + j) bs[j] = xs ++ List.replicate j 0 ++ bs.drop j := by
  rw [List.replicate_succ', List.drop_eq_getElem_cons hj]
  simp only [List.append_assoc]
  rw [List.set_append_right _ _ (by omega), List.set_append_right _ _ (by simp)]
  simp

set_option maxHeartbeats 800000 in
theorem refPut_any (A : Option Addr) (xs : List UInt8) (c : Nat) (x n : Nat) (w : World) (hr : Rd bv w A xs) (hc : xs.length ≤ c) (hm : c ≤ maxLen) (hn : n ≤ 8) (hx : (x : Int) ≤ 18446744073709551615) (hl : xs.length + n ≤ 140737488355328) :
    Calls Try.prog 14 #[.slice A xs.length c, .int .u64 x, .int .i64 n] w fun e w' => ∃ v', e = .returned v' ∧
      OwnG bv w' w.heap.size v' (xs ++ be n x) ∧ Below w.heap.size w w' := by
  have h1 : ¬ ((n : Int) < 0) := by omega
  have h2 : ¬ (8 < (n : Int)) := by omega
  go_enter Try.func14, Try.ntmps14
  go_wp2_with (first
    | (at_builtin; refine wpList_app (f := bv) _ bT rfl _ _ rfl bv_one w.heap.size _ [] xs rfl (Own.empty w) _ _ rfl (hr.alloc _) (by simp [maxLen]; omega) (by simp; omega) (by simp) ?_; intro v1 w1 hown1 hbel1; rw [List.nil_append] at hown1; obtain ⟨A1, c1, W1, rfl, HW1, hl1a, hl1b, hc1, hm1, hr1, hown1⟩ := hown1.name xs.length rfl; have hb1 : Below w.heap.size w w1 := (nx0 w _).trans hbel1; clear hbel1; have hs1 := hb1.size)
    | (at_builtin; go_must (refine wpList_appz (f := bv) _ bT 0 bZ rfl Try.underlying3 rfl _ _ rfl rfl w.heap.size _ W1 rfl hown1.gen _ n rfl (by omega) (by omega) (by decide) hs1 ?_; intro v2 w2 hg2 hb2; obtain ⟨A2, c2, W2, rfl, HW2, hl2a, hl2b, hc2, hm2, hr2, hg2⟩ := hg2.name (xs.length + n) (by simp; omega))))
  have hb2' := hb1.trans hb2
  have HW : Hid (W2 = xs ++ List.replicate n 0 ++ (be n x).drop n) := by
    unfold Hid
    rw [HW2.out, HW1.out, List.drop_of_length_le (by rw [be_len]; omega), List.append_nil]
  clear HW1 HW2 hr1 hown1 hc1 hm1 hr2 hr hb1 hb2
  rcases hg2 with ⟨h0, h0'⟩ | ⟨g, off, cap, h0, hBg, hg, hn2, hm3, hsp, hcs⟩
  · obtain ⟨rfl, rfl⟩ : A2 = none ∧ c2 = 0 := by injection h0 with a b c; exact ⟨a, c⟩
    have e0 : W2.length = 0 := by rw [h0']; rfl
    have hn0 : n = 0 := by omega
    have hx0 : xs = [] := List.eq_nil_of_length_eq_zero (by omega)
    have hw1 : W1 = [] := List.eq_nil_of_length_eq_zero (by omega)
    clear e0
    subst hn0
    subst hx0
    subst hw1
    go_loop [1, 9] (fun v i => i = .int .i64 ((W2.length : Int) - 1) ∧ v = v) (fun _ _ => 0)
    case atStart => exact ⟨rfl, rfl⟩
    case round =>
      obtain ⟨rfl, _⟩ := hrel
      have hlt : ¬ ((0 : Int) ≤ (W2.length : Int) - 1) := by simp [h0']
      go_wp2
      all_goals first
        | (exfalso; simp [h0'] at *; done)
        | (go_ret; exact ⟨_, rfl, .inl ⟨rfl, by simp [be, beT]⟩, hb2'⟩)
  · cases h0
    have hgg : OwnG bv w2 w.heap.size (.slice (some ⟨g, off, none⟩) W2.length c2) W2 := .inr ⟨g, off, c2, rfl, hBg, hg, hn2, hm3, hsp, hcs⟩
    clear hcs
    go_loopw [1, 9] (fun v i wr => ∃ (m q : Nat) (ys : List UInt8), W1.length ≤ m ∧ m ≤ W2.length ∧ i = .int .i64 ((m : Int) - 1) ∧ v = .int .u64 (q : Nat) ∧ (q : Int) ≤ 18446744073709551615 ∧ Hid (q = x / 256 ^ (W2.length - m)) ∧ ys.length ≤ W2.length ∧ W2.length ≤ ys.length ∧
        Hid (ys = xs ++ List.replicate (m - W1.length) 0 ++ (be n x).drop (m - W1.length)) ∧ OwnG bv wr w.heap.size (.slice (some ⟨g, off, none⟩) ys.length c2) ys ∧ Below w.heap.size w wr) (fun _ i _ => (intOf i + 1).toNat)
    case atStart => exact ⟨W2.length, x, W2, by omega, by omega, rfl, rfl, hx, by unfold Hid; simp, by omega, by omega, by rw [show W2.length - W1.length = n from by omega]; exact HW, hgg, hb2'⟩
    case round =>
      obtain ⟨m, q, ys, hm4, hm5, rfl, rfl, hq8, HQ, hy1, hy2, HY, hgw, hbw⟩ := hrel
      by_cases hlt : W1.length < m
      · obtain ⟨m, rfl⟩ : ∃ k, m = k + 1 := ⟨m - 1, by omega⟩
        rcases id hgw with ⟨h0, _⟩ | ⟨g', off', cap', h0, _, hg', hn', hm', hsp', hcs'⟩
        · cases h0
        cases h0
        obtain ⟨hc1, hf1⟩ := hsp' m (by omega)
        have hcell := hcs' m (by omega)
        clear hsp' hcs' hsp hgg
        have hS := Lib.hid (put_step xs (be n x) (m - W1.length) (by rw [be_len]; omega))
        have hidx : Hid (xs.length + (m - W1.length) = m) := by unfold Hid; omega
        have hgs := hgw.set_ (i := m) (y := UInt8.ofNat q) (by omega)
        have hbs := hbw.setCell (p := ⟨g, off + m, none⟩) hBg (bv (UInt8.ofNat q))
        rw [← bv_ofNat q ((q : Int) % 256) (by omega)] at hgs hbs
        have HG := Lib.hid hgs
        have HB := Lib.hid hbs
        clear hgs hbs
        go_wp2
        go_roundw
        case rel =>
          refine ⟨m, q / 256, _, by omega, by omega, by go_num, by go_num, by omega, ?_, ?_, ?_, ?_, HG.out, HB.out⟩
          · have e : W2.length - m = W2.length - (m + 1) + 1 := by omega
            unfold Hid
            rw [e, Nat.pow_succ, ← Nat.div_div_eq_div_mul, ← HQ.out]
          · simpa using hy1
          · simpa using hy2
          · unfold Hid
            rw [HY.out, show m + 1 - W1.length = (m - W1.length) + 1 from by omega]
            have hb : UInt8.ofNat q = (be n x)[m - W1.length]'(by rw [be_len]; omega) := by
              simp only [be, beT, List.getElem_map, List.getElem_range]
              rw [HQ.out, Nat.pow_mul, show W2.length - (m + 1) = n - 1 - (m - W1.length) from by omega]
            rw [hb]
            have := hS.out
            rw [hidx.out] at this
            exact this
        case measure => simp [intOf]
      · obtain rfl : m = W1.length := by omega
        have hlt' : ¬ ((W1.length : Int) ≤ (W1.length : Int) - 1) := by omega
        go_wp2
        go_ret
        have e : ys.length = W2.length := by omega
        rw [e] at hgw
        refine ⟨_, rfl, hgw.cast ?_, hbw⟩
        rw [HY.out]
        simp
end Go.Proofs.Ytaoekeldokmmlaa
