/- OctetSeals: for every two slices of bytes the law returns true and leaves memory as it was. No condition. -/
import Derived.Test.YtaoekeldokmmlaaBegun
import Derived.Test.YtaoekeldokmmlaaRefC
import Derived.Test.YtaoekeldokmmlaaHyb
namespace Go.Proofs.Ytaoekeldokmmlaa
open Go.RowKit

theorem own_str {v : Value} {w : World} {B : Nat} {ys : List UInt8} (h : OwnG bv w B v ys) : ∀ x : Gr w, (convert 22 9 v).run Try.prog x.1 = .ok (.string ⟨ys.toArray⟩) x.1 := fun x => by
  obtain ⟨A, c, rfl, _, _, hr⟩ := h.sl
  exact conv_str (P := Try.prog) x.1 22 9 5 Try.underlying22 Try.underlying5 Try.underlying9 (hr.below x.2) c

set_option maxHeartbeats 1000000 in
theorem OctetSeals_walk (A : Option Addr) (xs : List UInt8) (c : Nat) (B : Option Addr) (ys : List UInt8) (d : Nat) (w : World) (hr : Rd bv w A xs) (hc : xs.length ≤ c) (hm : c ≤ maxLen) (hs : Rd bv w B ys) (hd : ys.length ≤ d) (hn : d ≤ maxLen) :
    Calls Try.prog 6 #[.slice A xs.length c, .slice B ys.length d] w fun e w' => e = .returned (.bool true) ∧ Below w.heap.size w w' := by
  by_cases hx : xs.length ≤ 80
  · by_cases hy : ys.length ≤ 80
    · have d1 : decide (80 < (xs.length : Int)) = false := decide_eq_false (by omega)
      have d2 : decide (80 < (ys.length : Int)) = false := decide_eq_false (by omega)
      obtain ⟨us, n, er, hu1, hu2⟩ := unseal_both ys (by omega)
      have HU1 := Lib.hid hu1
      have HU2 := Lib.hid hu2
      clear hu1 hu2
      go_enter Try.func6, Try.ntmps6
      go_wp2_with fail
      refine (begun_any _).mono ?_; rintro e w0 ⟨rfl, hb0⟩
      go_wp2_with fail
      refine (HU1.out B d _ (hs.below hb0) hd hn).mono ?_; rintro e w1 ⟨v1, rfl, hg1, hb1⟩
      have hb01 := nx hb0 hb1
      go_wp2_with fail
      refine (HU2.out B d _ (hs.below hb01) hd hn).mono ?_; rintro e w2 ⟨v2, rfl, hg2, hb2⟩
      have hb02 := nx hb01 hb2
      go_wp2_with fail
      refine (seal_any A xs c _ (hr.below hb02) hc hm (by omega)).mono ?_; rintro e w3 ⟨v3, rfl, hown3, hb3⟩
      have hb03 := nx hb02 hb3
      have hg3 := hown3.gen
      have hr3 := hr.below hb03
      have hg1' := (hg1.below hb2).below hb3
      have hg2' := hg2.below hb3
      clear hown3 hg1 hg2 hb0 hb1 hb2 hb3 hb01 hb02
      go_wp2_with fail
      refine wp_region_hyb [(0, true), (2, true), (1, false), (3, false), (4, true), (5, true), (6, true), (7, true), (8, true), (9, false), (10, true), (11, true), (12, true), (13, true), (14, true), (15, true), (16, true), (17, true), (18, true), (19, true), (20, true), (21, true), (22, true), (23, true), (24, true), (25, true), (26, true), (27, true), (28, true), (29, true), (30, true)] (by kernel_rfl) (by kernel_rfl) ?_
      iterate 2 (refine hyb_calm rfl (fun K hK => ?_); go_simp; refine hK _ ?_; clear hK K)
      refine hyb_alone rfl (fun w4 hn4 K hK => ?_)
      go_simp
      refine (sum_any A xs c _ (hr3.below hn4) hc hm).mono ?_; rintro e w' ⟨rfl, rfl⟩
      refine hK _ _ (Nx.refl _) ?_
      clear hK K
      refine hyb_alone rfl (fun w5 hn5 K hK => ?_)
      go_simp
      refine (refSum_any A xs c _ ((hr3.below hn4).below hn5) hc (by omega)).mono ?_; rintro e w' ⟨rfl, rfl⟩
      refine hK _ _ (Nx.refl _) ?_
      clear hK K
      have hr5 := (hr3.below hn4).below hn5
      have hg5 := (hg3.below hn4).below hn5
      have k1 := own_str hg5
      iterate 5 (refine hyb_calm rfl (fun K hK => ?_); go_simp; refine hK _ ?_; clear hK K)
      refine hyb_alone rfl (fun w6 hn6 K hK => ?_)
      go_simp
      refine (refSeal_any A xs c _ (hr5.below hn6) hc hm (by omega)).mono ?_; rintro e w7 ⟨v7, rfl, hg7, hb7⟩
      refine hK _ _ hb7 ?_
      clear hK K k1
      have k2 := own_str hg7
      have k3 := own_str ((((hg1'.below hn4).below hn5).below hn6).below hb7)
      have k4 := own_str ((((hg2'.below hn4).below hn5).below hn6).below hb7)
      iterate 21 (refine hyb_calm rfl (fun K hK => ?_); go_simp; refine hK _ ?_; clear hK K)
      refine hyb_nil (fun w8 hn8 => ?_)
      go_wp2
      go_ret
      exact ⟨rfl, nx (nx (nx (nx (nx hb03 hn4) hn5) hn6) hb7) hn8⟩
    · have d1 : decide (80 < (xs.length : Int)) = false := decide_eq_false (by omega)
      have d2 : decide (80 < (ys.length : Int)) = true := decide_eq_true (by omega)
      go_enter Try.func6, Try.ntmps6
      go_wp2_with fail
      refine (begun_any _).mono ?_; rintro e w0 ⟨rfl, hb0⟩
      go_wp2_with fail
      go_ret
      exact ⟨rfl, hb0⟩
  · have d1 : decide (80 < (xs.length : Int)) = true := decide_eq_true (by omega)
    go_enter Try.func6, Try.ntmps6
    go_wp2_with fail
    refine (begun_any _).mono ?_; rintro e w0 ⟨rfl, hb0⟩
    go_wp2_with fail
    go_ret
    exact ⟨rfl, hb0⟩
end Go.Proofs.Ytaoekeldokmmlaa
