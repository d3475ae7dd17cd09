/- OctetWords: for every slice of bytes, number and width the law returns true and leaves memory as it was. No condition. -/
import Derived.Test.YtaoekeldokmmlaaBegun
import Derived.Test.YtaoekeldokmmlaaTwin
import Derived.Test.YtaoekeldokmmlaaHyb
namespace Go.Proofs.Ytaoekeldokmmlaa
open Go.RowKit

set_option maxHeartbeats 400000 in
theorem refPut_not (A : Option Addr) (xs : List UInt8) (c : Nat) (x : Nat) (n : Int) (w : World) (hr : Rd bv w A xs) (hc : xs.length ≤ c) (hn : n < 0 ∨ 8 < n) (hl : (xs.length : Int) ≤ 1000000) :
    Calls Try.prog 14 #[.slice A xs.length c, .int .u64 x, .int .i64 n] w fun e w' => ∃ v', e = .returned v' ∧
      OwnG bv w' w.heap.size v' xs ∧ Below w.heap.size w w' := by
  rcases hn with h | h
  · go_enter Try.func14, Try.ntmps14
    go_wp2_with (at_builtin; refine wpList_app (f := bv) _ bT rfl _ _ rfl bv_one w.heap.size _ [] xs rfl (Own.empty w) _ _ rfl (hr.alloc _) (by simp [maxLen]; omega) (by simp; omega) (by simp) ?_; intro v1 w1 hown1 hbel1; rw [List.nil_append] at hown1; have hb1 : Below w.heap.size w w1 := (nx0 w _).trans hbel1; clear hbel1)
    go_ret
    exact ⟨_, rfl, hown1.gen, hb1⟩
  · have h0 : ¬ n < 0 := by omega
    go_enter Try.func14, Try.ntmps14
    go_wp2_with (at_builtin; refine wpList_app (f := bv) _ bT rfl _ _ rfl bv_one w.heap.size _ [] xs rfl (Own.empty w) _ _ rfl (hr.alloc _) (by simp [maxLen]; omega) (by simp; omega) (by simp) ?_; intro v1 w1 hown1 hbel1; rw [List.nil_append] at hown1; have hb1 : Below w.heap.size w w1 := (nx0 w _).trans hbel1; clear hbel1)
    go_ret
    exact ⟨_, rfl, hown1.gen, hb1⟩

theorem take_both (xs : List UInt8) (n : Int) : ∃ t e : Nat,
    (∀ A c w, Rd bv w A xs → xs.length ≤ c → c ≤ maxLen → Calls Try.prog 11 #[.slice A xs.length c, .int .i64 n] w fun r w' => r = .returned (.tuple #[.int .u64 t, .int .i64 e]) ∧ w = w') ∧
    (∀ A c w, Rd bv w A xs → xs.length ≤ c → c ≤ maxLen → Calls Try.prog 12 #[.slice A xs.length c, .int .i64 n] w fun r w' => r = .returned (.tuple #[.int .u64 t, .int .i64 e]) ∧ w = w') := by
  by_cases hn : n < 0 ∨ 8 < n
  · exact ⟨0, 1, fun A c w hr hc hm => take_arg A xs c n w hn, fun A c w hr hc hm => refTake_arg A xs c n w hn⟩
  · obtain ⟨m, rfl⟩ := Int.eq_ofNat_of_zero_le (a := n) (by omega)
    by_cases hl : m ≤ xs.length
    · exact ⟨_, 0, fun A c w hr hc hm => take_ok A xs c m w hr hc hm (by omega) hl, fun A c w hr hc hm => refTake_ok A xs c m w hr hc hm (by omega) hl⟩
    · exact ⟨0, 3, fun A c w hr hc hm => take_short A xs c m w (Nat.le_trans hc hm) (by omega) (by omega), fun A c w hr hc hm => refTake_short A xs c m w (Nat.le_trans hc hm) (by omega) (by omega)⟩

theorem put_both (xs : List UInt8) (x n : Int) (h0 : 0 ≤ x) (hx : x ≤ 18446744073709551615) (hl : (xs.length : Int) ≤ 30) : ∃ ys : List UInt8,
    (∀ A c w, Rd bv w A xs → xs.length ≤ c → c ≤ maxLen → Calls Try.prog 13 #[.slice A xs.length c, .int .u64 x, .int .i64 n] w fun e w' => ∃ v', e = .returned v' ∧ OwnG bv w' w.heap.size v' ys ∧ Below w.heap.size w w') ∧
    (∀ A c w, Rd bv w A xs → xs.length ≤ c → c ≤ maxLen → Calls Try.prog 14 #[.slice A xs.length c, .int .u64 x, .int .i64 n] w fun e w' => ∃ v', e = .returned v' ∧ OwnG bv w' w.heap.size v' ys ∧ Below w.heap.size w w') := by
  obtain ⟨x, rfl⟩ := Int.eq_ofNat_of_zero_le h0
  by_cases hn : n < 0 ∨ 8 < n
  · exact ⟨xs, fun A c w hr hc hm => (put_not A xs c x n w hr hc hn (by omega)).mono fun _ _ ⟨v, h1, h2, h3⟩ => ⟨v, h1, h2.gen, h3⟩, fun A c w hr hc hm => refPut_not A xs c x n w hr hc hn (by omega)⟩
  · obtain ⟨m, rfl⟩ := Int.eq_ofNat_of_zero_le (a := n) (by omega)
    exact ⟨xs ++ be m x, fun A c w hr hc hm => (put_any A xs c x m w hr hc (by omega) hx (by omega)).mono fun _ _ ⟨v, h1, h2, h3⟩ => ⟨v, h1, h2.gen, h3⟩, fun A c w hr hc hm => refPut_any A xs c x m w hr hc hm (by omega) hx (by omega)⟩

set_option maxHeartbeats 1000000 in
theorem OctetWords_walk (A : Option Addr) (xs : List UInt8) (c : Nat) (x n : Int) (w : World) (hr : Rd bv w A xs) (hc : xs.length ≤ c) (hm : c ≤ maxLen) (hx1 : 0 ≤ x) (hx2 : x ≤ 18446744073709551615) (hn1 : -9223372036854775808 ≤ n) (hn2 : n ≤ 9223372036854775807) :
    Calls Try.prog 3 #[.slice A xs.length c, .int .u64 x, .int .i64 n] w fun e w' => e = .returned (.bool true) ∧ Below w.heap.size w w' := by
  by_cases hlong : (xs.length : Int) ≤ 30
  · have hd : decide (30 < (xs.length : Int)) = false := decide_eq_false (by omega)
    obtain ⟨t, er, ht1, ht2⟩ := take_both xs n
    obtain ⟨ys, hp1, hp2⟩ := put_both xs x n hx1 hx2 hlong
    have HT1 := Lib.hid ht1
    have HT2 := Lib.hid ht2
    have HP1 := Lib.hid hp1
    have HP2 := Lib.hid hp2
    clear ht1 ht2 hp1 hp2
    go_enter Try.func3, Try.ntmps3
    go_wp2_with fail
    refine (begun_any _).mono ?_; rintro e w0 ⟨rfl, hb0⟩
    have hr0 := hr.below hb0
    go_wp2_with fail
    refine (twin_any A xs c _ hr0 hc (by omega)).mono ?_; rintro e w1 ⟨A1, c1, rfl, hc1a, hc1b, hr1, hb1⟩
    have hr01 := hr0.below hb1
    go_wp2_with fail
    refine (HT1.out A1 c1 _ hr1.pre (by omega) (by unfold maxLen; omega)).mono ?_; rintro e w' ⟨rfl, rfl⟩
    go_wp2_with fail
    refine (HT2.out A c _ hr01 hc hm).mono ?_; rintro e w' ⟨rfl, rfl⟩
    go_wp2_with fail
    refine (HP1.out A1 c1 _ hr1.pre (by omega) (by unfold maxLen; omega)).mono ?_; rintro e w2 ⟨v2, rfl, hg2, hb2⟩
    obtain ⟨A2, c2, W2, rfl, HW2, hl2a, hl2b, hc2, hm2, hr2, -⟩ := hg2.name ys.length rfl
    have hr02 := hr01.below hb2
    have hr12 := hr1.below hb2
    go_wp2_with fail
    have he : ((t : Int) == (t : Int)) = true := by simp
    have he2 : ((er : Int) == (er : Int)) = true := by simp
    have k1 : ∀ x : Gr w2, (convert 22 9 (.slice A2 W2.length c2)).run Try.prog x.1 = .ok (.string ⟨W2.toArray⟩) x.1 := fun x =>
      conv_str (P := Try.prog) x.1 22 9 5 Try.underlying22 Try.underlying5 Try.underlying9 (hr2.below x.2) c2
    refine wp_region_hyb [(0, true), (1, true), (2, true), (3, true), (4, true), (5, true), (6, true), (7, true), (8, true), (9, true), (10, true), (11, true), (12, true), (13, true), (14, false), (15, true), (16, true), (17, true), (18, true), (19, true), (20, true), (21, false), (22, true), (23, true)] (by kernel_rfl) (by kernel_rfl) ?_
    iterate 14 (refine hyb_calm rfl (fun K hK => ?_); go_simp; refine hK _ ?_; clear hK K)
    refine hyb_alone rfl (fun w3 hn K hK => ?_)
    go_simp
    refine (HP2.out A c _ (hr02.below hn) hc hm).mono ?_; rintro e w4 ⟨v4, rfl, hg4, hb4⟩
    refine hK _ _ hb4 ?_
    clear hK K k1
    obtain ⟨A4, c4, W4, rfl, HW4, hl4a, hl4b, hc4, hm4, hr4, -⟩ := hg4.name ys.length rfl
    have k2 : ∀ x : Gr w4, (convert 22 9 (.slice A4 W4.length c4)).run Try.prog x.1 = .ok (.string ⟨W4.toArray⟩) x.1 := fun x =>
      conv_str (P := Try.prog) x.1 22 9 5 Try.underlying22 Try.underlying5 Try.underlying9 (hr4.below x.2) c4
    have k3 : (W2 == W4) = true := by rw [HW2.out, HW4.out]; simp
    iterate 6 (refine hyb_calm rfl (fun K hK => ?_); go_simp; refine hK _ ?_; clear hK K)
    refine hyb_alone rfl (fun w5 hn5 K hK => ?_)
    go_simp
    refine (kept_any A1 A xs c1 c _ (((hr12.below hn).below hb4).below hn5) (((hr02.below hn).below hb4).below hn5) (by omega) (by unfold maxLen; omega)).mono ?_; rintro e w6 ⟨rfl, nn, rfl⟩
    refine hK _ _ (Nx.drewN _ _) ?_
    clear hK K
    iterate 2 (refine hyb_calm rfl (fun K hK => ?_); go_simp; refine hK _ ?_; clear hK K)
    refine hyb_nil (fun w7 hn7 => ?_)
    go_wp2
    go_ret
    exact ⟨rfl, nx (nx (nx (nx (nx (nx (nx hb0 hb1) hb2) hn) hb4) hn5) (Nx.drewN _ _)) hn7⟩
  · have hd : decide (30 < (xs.length : Int)) = true := decide_eq_true (by omega)
    go_enter Try.func3, Try.ntmps3
    go_wp2_with fail
    refine (begun_any _).mono ?_; rintro e w0 ⟨rfl, hb0⟩
    go_wp2_with fail
    go_ret
    exact ⟨rfl, hb0⟩
end Go.Proofs.Ytaoekeldokmmlaa
