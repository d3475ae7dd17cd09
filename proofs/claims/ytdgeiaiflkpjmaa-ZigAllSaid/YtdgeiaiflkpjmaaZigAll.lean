/- ZigAll: for all numbers, bytes and widths the law returns true and leaves memory as it was. No condition. -/
import Derived.Test.YtdgeiaiflkpjmaaZigBack
import Derived.Test.YtdgeiaiflkpjmaaZigForms
import Derived.Test.YtdgeiaiflkpjmaaTwin
import Derived.Test.YtdgeiaiflkpjmaaHyb
namespace Go.Proofs.Ytdgeiaiflkpjmaa
open Go.RowKit

theorem zTake_both (xs : List UInt8) (n : Int) (hl : (xs.length : Int) ≤ 20) : ∃ t k e : Nat,
    (∀ A c w, Rd bv w A xs → xs.length ≤ c → c ≤ maxLen → Calls Try.prog 10 #[.slice A xs.length c, .int .i64 n] w fun r w' => r = .returned (.tuple #[.int .u64 t, .int .i64 k, .int .i64 e]) ∧ w = w') ∧
    (∀ A c w, Rd bv w A xs → xs.length ≤ c → c ≤ maxLen → Calls Try.prog 11 #[.slice A xs.length c, .int .i64 n] w fun r w' => r = .returned (.tuple #[.int .u64 t, .int .i64 k, .int .i64 e]) ∧ w = w') := by
  by_cases hn : n < 1 ∨ 64 < n
  · exact ⟨0, 0, 1, fun A c w hr hc hm => take_arg A xs c n w hn, fun A c w hr hc hm => refTakeVar_arg A xs c n w hn⟩
  · obtain ⟨m, rfl⟩ := Int.eq_ofNat_of_zero_le (a := n) (by omega)
    refine ⟨(takeVarS m xs).1, (takeVarS m xs).2.1, (takeVarS m xs).2.2, fun A c w hr hc hm => take_is A xs c m _ _ _ w hr hc hm (by omega) (by omega) (by omega) rfl, fun A c w hr hc hm => ?_⟩
    refine (refTakeVar_any A xs c m w hr hc hm (by omega) (by omega) (by omega)).mono ?_
    rintro e w' ⟨v, k, er, rfl, rfl, H⟩
    rw [← H.out]
    exact ⟨rfl, rfl⟩

set_option maxHeartbeats 1600000 in
theorem ZigAll_walk (a b c d : Int) (A : Option Addr) (xs : List UInt8) (cp : Nat) (n : Int) (w : World) (ha1 : -2147483648 ≤ a) (ha2 : a ≤ 2147483647) (hb1 : 0 ≤ b) (hb2 : b ≤ 4294967295) (hc1 : -9223372036854775808 ≤ c) (hc2 : c ≤ 9223372036854775807) (hd1 : 0 ≤ d) (hd2 : d ≤ 18446744073709551615)
    (hr : Rd bv w A xs) (hc : xs.length ≤ cp) (hm : cp ≤ maxLen) (hn1 : -9223372036854775808 ≤ n) (hn2 : n ≤ 9223372036854775807) :
    Calls Try.prog 3 #[.int .i32 a, .int .u32 b, .int .i64 c, .int .u64 d, .slice A xs.length cp, .int .i64 n] w fun e w' => e = .returned (.bool true) ∧ Below w.heap.size w w' := by
  by_cases hlong : (xs.length : Int) ≤ 20
  · have hd : decide (20 < (xs.length : Int)) = false := decide_eq_false (by omega)
    obtain ⟨t, k, er, ht1, ht2⟩ := zTake_both xs n hlong
    have HT1 := Lib.hid ht1
    have HT2 := Lib.hid ht2
    clear ht1 ht2
    obtain ⟨x, rfl⟩ := Int.eq_ofNat_of_zero_le hd1
    go_enter Try.func3, Try.ntmps3
    go_wp2_with fail
    refine (zbegun_any _).mono ?_; rintro e w0 ⟨rfl, hb0⟩
    have hr0 := hr.below hb0
    go_wp2_with fail
    refine (twin_any A xs cp _ hr0 hc (by omega)).mono ?_; rintro e w1 ⟨A1, c1, rfl, hc1a, hc1b, hr1, hb01⟩
    have hr01 := hr0.below hb01
    go_wp2_with fail
    refine (HT1.out A1 c1 _ hr1.pre (by omega) (by unfold maxLen; omega)).mono ?_; rintro e w' ⟨rfl, rfl⟩
    go_wp2_with fail
    refine (HT2.out A cp _ hr01 hc hm).mono ?_; rintro e w' ⟨rfl, rfl⟩
    go_wp2_with fail
    have hb02 : Nx w1 w1 := Nx.refl _
    have e1 : (zigI a == zigI a) = true := by simp
    have e2 : (zagI b == zagI b) = true := by simp
    have e3 : (zigI c == zigI c) = true := by simp
    have e4 : (zagI (x : Int) == zagI (x : Int)) = true := by simp
    have e5 : ((t : Int) == (t : Int)) = true := by simp
    have e6 : ((k : Int) == (k : Int)) = true := by simp
    have e7 : ((er : Int) == (er : Int)) = true := by simp
    refine wp_region_hyb [(0, true), (2, true), (1, false), (3, false), (4, true), (5, true), (6, true), (8, true), (7, false), (9, false), (10, true), (11, true), (12, true), (13, true), (15, true), (14, false), (16, false), (17, true), (18, true), (19, true), (20, true), (22, true), (21, false), (23, false), (24, true), (25, true), (26, true), (27, true), (28, true), (29, true), (30, true), (31, true), (32, true), (33, true), (34, true), (35, true), (36, true), (37, true), (38, true), (39, true), (40, true), (41, true), (42, true), (43, true), (46, true), (47, true), (44, false), (45, true), (48, false), (49, true), (50, true), (51, true), (52, true), (53, true), (54, true), (55, false), (56, true), (57, true)] (by kernel_rfl) (by kernel_rfl) ?_
    iterate 2 (refine hyb_calm rfl (fun K hK => ?_); go_simp; refine hK _ ?_; clear hK K)
    refine hyb_alone rfl (fun w2 hn K hK => ?_)
    go_simp
    refine (zig32_any a _ ha1 ha2).mono ?_; rintro e w' ⟨rfl, rfl⟩
    refine hK _ _ (Nx.refl _) ?_
    clear hK K
    have hb02 := hb02.trans hn
    refine hyb_alone rfl (fun w2 hn K hK => ?_)
    go_simp
    refine (refZig32_any a _ ha1 ha2).mono ?_; rintro e w' ⟨rfl, rfl⟩
    refine hK _ _ (Nx.refl _) ?_
    clear hK K
    have hb02 := hb02.trans hn
    iterate 4 (refine hyb_calm rfl (fun K hK => ?_); go_simp; refine hK _ ?_; clear hK K)
    refine hyb_alone rfl (fun w2 hn K hK => ?_)
    go_simp
    refine (zag32_any b _ hb1 hb2).mono ?_; rintro e w' ⟨rfl, rfl⟩
    refine hK _ _ (Nx.refl _) ?_
    clear hK K
    have hb02 := hb02.trans hn
    refine hyb_alone rfl (fun w2 hn K hK => ?_)
    go_simp
    refine (refZag32_any b _ hb1 hb2).mono ?_; rintro e w' ⟨rfl, rfl⟩
    refine hK _ _ (Nx.refl _) ?_
    clear hK K
    have hb02 := hb02.trans hn
    iterate 5 (refine hyb_calm rfl (fun K hK => ?_); go_simp; refine hK _ ?_; clear hK K)
    refine hyb_alone rfl (fun w2 hn K hK => ?_)
    go_simp
    refine (zig64_any c _ hc1 hc2).mono ?_; rintro e w' ⟨rfl, rfl⟩
    refine hK _ _ (Nx.refl _) ?_
    clear hK K
    have hb02 := hb02.trans hn
    refine hyb_alone rfl (fun w2 hn K hK => ?_)
    go_simp
    refine (refZig64_any c _ hc1 hc2).mono ?_; rintro e w' ⟨rfl, rfl⟩
    refine hK _ _ (Nx.refl _) ?_
    clear hK K
    have hb02 := hb02.trans hn
    iterate 5 (refine hyb_calm rfl (fun K hK => ?_); go_simp; refine hK _ ?_; clear hK K)
    refine hyb_alone rfl (fun w2 hn K hK => ?_)
    go_simp
    refine (zag64_any x _ hd1 hd2).mono ?_; rintro e w' ⟨rfl, rfl⟩
    refine hK _ _ (Nx.refl _) ?_
    clear hK K
    have hb02 := hb02.trans hn
    refine hyb_alone rfl (fun w2 hn K hK => ?_)
    go_simp
    refine (refZag64_any x _ hd1 hd2).mono ?_; rintro e w' ⟨rfl, rfl⟩
    refine hK _ _ (Nx.refl _) ?_
    clear hK K
    have hb02 := hb02.trans hn
    iterate 22 (refine hyb_calm rfl (fun K hK => ?_); go_simp; refine hK _ ?_; clear hK K)
    refine hyb_alone rfl (fun w2 hn K hK => ?_)
    go_simp
    have hr02 := hr01.below (hb02.trans hn)
    have hr12 := hr1.below (hb02.trans hn)
    refine (put_any A xs cp x _ hr02 hc hm hd2 (by omega)).mono ?_; rintro e w3 ⟨v3, rfl, hown3, hb3⟩
    refine hK _ _ hb3 ?_
    clear hK K
    obtain ⟨A3, c3, W3, rfl, HW3, h3a, h3b, hc3, hm3, hr3, -⟩ := hown3.name (xs ++ varint x).length rfl
    have k1 : ∀ y : Gr w3, (convert 24 9 (.slice A3 W3.length c3)).run Try.prog y.1 = .ok (.string ⟨W3.toArray⟩) y.1 := fun y =>
      conv_str (P := Try.prog) y.1 24 9 5 Try.underlying24 Try.underlying5 Try.underlying9 (hr3.below y.2) c3
    refine hyb_calm rfl (fun K hK => ?_); go_simp; refine hK _ ?_; clear hK K k1
    refine hyb_alone rfl (fun w4 hn4 K hK => ?_)
    go_simp
    have hr04 := hr02.below (Nx.trans hb3 hn4)
    have hr14 := hr12.below (Nx.trans hb3 hn4)
    refine (refPutVar_any A xs cp x _ hr04 hc hm hd2 (by omega)).mono ?_; rintro e w5 ⟨v5, rfl, hown5, hb5⟩
    refine hK _ _ hb5 ?_
    clear hK K
    obtain ⟨A5, c5, W5, rfl, HW5, h5a, h5b, hc5, hm5, hr5, -⟩ := hown5.name (xs ++ varint x).length rfl
    have k2 : ∀ y : Gr w5, (convert 24 9 (.slice A5 W5.length c5)).run Try.prog y.1 = .ok (.string ⟨W5.toArray⟩) y.1 := fun y =>
      conv_str (P := Try.prog) y.1 24 9 5 Try.underlying24 Try.underlying5 Try.underlying9 (hr5.below y.2) c5
    have k3 : (W3 == W5) = true := by rw [HW3.out, HW5.out]; simp
    iterate 6 (refine hyb_calm rfl (fun K hK => ?_); go_simp; refine hK _ ?_; clear hK K)
    refine hyb_alone rfl (fun w6 hn6 K hK => ?_)
    go_simp
    refine (kept_any A1 A xs c1 cp _ (hr14.below (Nx.trans hb5 hn6)) (hr04.below (Nx.trans hb5 hn6)) (by omega) (by unfold maxLen; omega)).mono ?_; rintro e w7 ⟨rfl, nn, rfl⟩
    refine hK _ _ (Nx.drewN _ _) ?_
    clear hK K
    iterate 2 (refine hyb_calm rfl (fun K hK => ?_); go_simp; refine hK _ ?_; clear hK K)
    refine hyb_nil (fun w8 hn8 => ?_)
    go_wp2
    go_ret
    have hz : Nx w1 w8 := (hb02.trans (hn.trans (Nx.trans hb3 (hn4.trans (Nx.trans hb5 (hn6.trans ((Nx.drewN _ nn).trans hn8)))))))
    exact ⟨rfl, nx (nx hb0 hb01) hz⟩
  · have hd : decide (20 < (xs.length : Int)) = true := decide_eq_true (by omega)
    go_enter Try.func3, Try.ntmps3
    go_wp2_with fail
    refine (zbegun_any _).mono ?_; rintro e w0 ⟨rfl, hb0⟩
    go_wp2_with fail
    go_ret
    exact ⟨rfl, hb0⟩
end Go.Proofs.Ytdgeiaiflkpjmaa
