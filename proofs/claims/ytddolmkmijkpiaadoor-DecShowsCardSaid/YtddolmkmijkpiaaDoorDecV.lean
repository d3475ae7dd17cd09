/- The contracts of dec: the number that bits are, the logarithm of 10, the digits that are shown. -/
import Derived.Test.YtddolmkmijkpiaaDoorDecO
import Derived.Test.YtddolmkmijkpiaaDoorDecW
namespace Go.Proofs.YtddolmkmijkpiaaDoor
open Go.RowKit

theorem Tab.nx {w w' : World} (h : Tab w) (hb : Nx w w') : Tab w' := by
  unfold Tab Lib.TabIs at *
  unfold World.var? at *
  cases hg : Tryd.prog.globalNamed "internal/strconv.uint64pow10" with
  | none => rw [hg] at h; cases h
  | some g =>
    rw [hg] at h
    simp only [Option.bind_some] at h ⊢
    rcases Nat.lt_or_ge g w.heap.size with h1 | h1
    · rw [hb.block g h1]; exact h
    · rw [Array.getElem?_eq_none h1] at h; cases h

/-- a finite number's digits and power of two -/
def exM (b : Nat) : Nat := if b / 4503599627370496 = 0 then b % 4503599627370496 else b % 4503599627370496 + 4503599627370496
def exP (b : Nat) : Int := if b / 4503599627370496 = 0 then -1074 else ((b / 4503599627370496 : Nat) : Int) - 1075

set_option maxRecDepth 100000 in
set_option maxHeartbeats 1600000 in
theorem exact_any (b : Nat) (w : World) (hb : b < LIM) :
    Calls Tryd.prog 32 #[.int .u64 b] w fun e w' => ∃ r', e = .returned r' ∧ Ra w' r' (exM b * 2 ^ (exP b).toNat) (1 * 2 ^ (-exP b).toNat) (53 + (exP b).natAbs) ∧ Nx w w' := by
  obtain ⟨m, HM, hm⟩ : ∃ m : Nat, (b : Int) % 4503599627370496 = (m : Int) ∧ Hid (b % 4503599627370496 = m) := ⟨b % 4503599627370496, by omega, rfl⟩
  obtain ⟨x, HE, he⟩ : ∃ x : Nat, (b : Int) / 4503599627370496 = (x : Int) ∧ Hid (b / 4503599627370496 = x) := ⟨b / 4503599627370496, by omega, rfl⟩
  have hm2 : m < 4503599627370496 := by rw [← hm.out]; exact Nat.mod_lt _ (by decide)
  have hx2 : x < 2047 := by rw [← he.out]; unfold LIM at hb; omega
  have hb2 : (b : Int) ≤ 18446744073709551615 := by unfold LIM at hb; omega
  have h53 : m + 4503599627370496 < 2 ^ 53 := by omega
  have h53' : m < 2 ^ 53 := by omega
  have HB := Lib.hid hb
  clear hb
  obtain ⟨g, hg⟩ : ∃ g, w.heap.size = g := ⟨_, rfl⟩
  have hN0 : Nx w (w.alloc (Obj.cells #[.slice none 0 0, .slice none 0 0] 50)) := nx0 _ _
  have hB0 : Blk (w.alloc (Obj.cells #[.slice none 0 0, .slice none 0 0] 50)) g g #[.slice none 0 0, .slice none 0 0] 50 := by rw [← hg]; exact Blk.new w _ _
  by_cases h0 : x = 0
  · subst h0
    have hM : exM b = m := by unfold exM; rw [he.out, if_pos rfl, hm.out]
    have hP : exP b = -1074 := by unfold exP; rw [he.out, if_pos rfl]
    rw [hM, hP]
    clear hM hP
    go_enter Tryd.func32, Tryd.ntmps32
    go_wp2_with fail
    refine (of_any m _ (by omega)).mono ?_; rintro e w1 ⟨v1, rfl, hv1, hw1⟩
    obtain ⟨A1, l1, c1, rfl⟩ := hv1.sl
    go_wp2_with fail
    refine (of_any 1 _ (by decide)).mono ?_; rintro e w2 ⟨v2, rfl, hv2, hw2⟩
    obtain ⟨A2, l2, c2, rfl⟩ := hv2.sl
    go_wp2_with fail
    refine (timesTwo_any _ m 1 53 (-1074) _ ⟨_, _, rfl, hv1.below hw2, hv2, h53', by decide⟩ (by decide) (by decide) (by decide)).mono ?_; rintro e w3 ⟨r3, rfl, hr3, hw3⟩
    obtain ⟨v3, u3, rfl, hv3, hu3, hx3, hy3⟩ := hr3
    obtain ⟨A3, l3, c3, rfl⟩ := hv3.sl
    obtain ⟨A4, l4, c4, rfl⟩ := hu3.sl
    have hN3 := Nx.trans (Nx.trans (Nx.trans hN0 hw1) hw2) hw3
    have hB3 := ((hB0.below hw1).below hw2).below hw3
    have q0 : w3.cell? ⟨g, 0, none⟩ = some (.slice none 0 0) := hB3.cell 0
    have q1 : w3.cell? ⟨g, 1, none⟩ = some (.slice none 0 0) := hB3.cell 1
    have f0 := hB3.free 0
    have f1 := hB3.free 1
    have nu : NoU #[.slice none 0 0, .slice none 0 0] := two_slices _ _ _ _ _ _
    have hB4 := (hB3.put 0 (.slice A3 l3 c3)).put 1 (.slice A4 l4 c4)
    have hN4 := (hN3.put' (g := g) (by omega) 0 (.slice A3 l3 c3)).put' (g := g) (by omega) 1 (.slice A4 l4 c4)
    have hv4 := (hv3.put hB3 nu 0 (.slice A3 l3 c3)).put (hB3.put 0 (.slice A3 l3 c3)) (two_slices _ _ _ _ _ _) 1 (.slice A4 l4 c4)
    have hu4 := (hu3.put hB3 nu 0 (.slice A3 l3 c3)).put (hB3.put 0 (.slice A3 l3 c3)) (two_slices _ _ _ _ _ _) 1 (.slice A4 l4 c4)
    go_wp2_with fail
    try simp only [Exit.inBlock, Exit.then]
    refine bodyPost_ret (results_cell_row rfl _ _ g _ _ _ _ rfl hB4.2 Tryd.underlying50 rfl (by kernel_rfl)) rfl ?_
    exact ⟨_, rfl, ⟨_, _, rfl, hv4, hu4, hx3, hy3⟩, hN4⟩
  · have hg : decide (0 < (x : Int)) = true := decide_eq_true (by omega)
    have hM : exM b = m + 4503599627370496 := by unfold exM; rw [he.out, if_neg h0, hm.out]
    obtain ⟨P, hP'⟩ : ∃ P : Int, -1074 + (x : Int) - 1 = P := ⟨_, rfl⟩
    have hP : exP b = P := by unfold exP; rw [he.out, if_neg h0]; omega
    rw [hM, hP]
    have hP1 : -1074 ≤ P := by omega
    have hP2 : P ≤ 1100 := by omega
    obtain ⟨n, hn⟩ : ∃ n : Nat, (m : Int) + 4503599627370496 = (n : Int) ∧ Hid (m + 4503599627370496 = n) := ⟨m + 4503599627370496, by omega, rfl⟩
    have hn1 := hn.1
    have HN := hn.2
    rw [HN.out] at h53 ⊢
    have hnl : n < 18446744073709551616 := by omega
    clear hM hP hn h0 h53'
    go_enter Tryd.func32, Tryd.ntmps32
    go_wp2_with fail
    refine (of_any n _ (by omega)).mono ?_; rintro e w1 ⟨v1, rfl, hv1, hw1⟩
    obtain ⟨A1, l1, c1, rfl⟩ := hv1.sl
    go_wp2_with fail
    refine (of_any 1 _ (by decide)).mono ?_; rintro e w2 ⟨v2, rfl, hv2, hw2⟩
    obtain ⟨A2, l2, c2, rfl⟩ := hv2.sl
    go_wp2_with fail
    refine (timesTwo_any _ n 1 53 P _ ⟨_, _, rfl, hv1.below hw2, hv2, h53, by decide⟩ (by decide) (by omega) (by omega)).mono ?_; rintro e w3 ⟨r3, rfl, hr3, hw3⟩
    obtain ⟨v3, u3, rfl, hv3, hu3, hx3, hy3⟩ := hr3
    obtain ⟨A3, l3, c3, rfl⟩ := hv3.sl
    obtain ⟨A4, l4, c4, rfl⟩ := hu3.sl
    have hN3 := Nx.trans (Nx.trans (Nx.trans hN0 hw1) hw2) hw3
    have hB3 := ((hB0.below hw1).below hw2).below hw3
    have q0 : w3.cell? ⟨g, 0, none⟩ = some (.slice none 0 0) := hB3.cell 0
    have q1 : w3.cell? ⟨g, 1, none⟩ = some (.slice none 0 0) := hB3.cell 1
    have f0 := hB3.free 0
    have f1 := hB3.free 1
    have nu : NoU #[.slice none 0 0, .slice none 0 0] := two_slices _ _ _ _ _ _
    have hB4 := (hB3.put 0 (.slice A3 l3 c3)).put 1 (.slice A4 l4 c4)
    have hN4 := (hN3.put' (g := g) (by omega) 0 (.slice A3 l3 c3)).put' (g := g) (by omega) 1 (.slice A4 l4 c4)
    have hv4 := (hv3.put hB3 nu 0 (.slice A3 l3 c3)).put (hB3.put 0 (.slice A3 l3 c3)) (two_slices _ _ _ _ _ _) 1 (.slice A4 l4 c4)
    have hu4 := (hu3.put hB3 nu 0 (.slice A3 l3 c3)).put (hB3.put 0 (.slice A3 l3 c3)) (two_slices _ _ _ _ _ _) 1 (.slice A4 l4 c4)
    go_wp2_with fail
    try simp only [Exit.inBlock, Exit.then]
    refine bodyPost_ret (results_cell_row rfl _ _ g _ _ _ _ rfl hB4.2 Tryd.underlying50 rfl (by kernel_rfl)) rfl ?_
    exact ⟨_, rfl, ⟨_, _, rfl, hv4, hu4, hx3, hy3⟩, hN4⟩

/-- ten to the p is not above x over y -/
def GE10 (x y : Nat) (p : Int) : Prop := y * 10 ^ p.toNat ≤ x * 10 ^ (-p).toNat

theorem ge10_iff (x y : Nat) (p : Int) (a b : Nat) (h : (a : Int) - b = p) : GE10 x y p ↔ y * 10 ^ a ≤ x * 10 ^ b := by
  unfold GE10
  rcases Int.le_total 0 p with h0 | h0
  · obtain ⟨n, rfl⟩ := Int.eq_ofNat_of_zero_le h0
    obtain rfl : a = b + n := by omega
    rw [show ((n : Int)).toNat = n from by omega, show (-(n : Int)).toNat = 0 from by omega, Nat.pow_zero, Nat.mul_one, Nat.pow_add, Nat.mul_comm (10 ^ b), ← Nat.mul_assoc]
    exact (Nat.mul_le_mul_right_iff (Nat.pow_pos (by decide))).symm
  · obtain ⟨n, hn⟩ := Int.eq_ofNat_of_zero_le (a := -p) (by omega)
    obtain rfl : b = a + n := by omega
    rw [show p.toNat = 0 from by omega, show (-p).toNat = n from by omega, Nat.pow_zero, Nat.mul_one, Nat.pow_add, Nat.mul_comm (10 ^ a) (10 ^ n), ← Nat.mul_assoc]
    exact (Nat.mul_le_mul_right_iff (Nat.pow_pos (by decide))).symm
theorem ge10_mono {x y : Nat} {p q : Int} (h : GE10 x y q) (hpq : p ≤ q) : GE10 x y p := by
  obtain ⟨b, a, a', h1, h2, h3⟩ : ∃ b a a' : Nat, (a : Int) - b = p ∧ (a' : Int) - b = q ∧ a ≤ a' := ⟨p.natAbs + q.natAbs, (p + (p.natAbs + q.natAbs)).toNat, (q + (p.natAbs + q.natAbs)).toNat, by omega, by omega, by omega⟩
  rw [ge10_iff x y p a b h1]
  rw [ge10_iff x y q a' b h2] at h
  exact Nat.le_trans (Nat.mul_le_mul_left _ (Nat.pow_le_pow_right (by decide) h3)) h

set_option maxRecDepth 100000 in
set_option maxHeartbeats 1600000 in
theorem log10_any (r : Value) (x y j : Nat) (w : World) (h : Ra w r x y j) (hj : j ≤ 2000) (hx0 : x ≠ 0) (hy0 : y ≠ 0) (hlo : GE10 x y (-400)) (hhi : ¬ GE10 x y 400) :
    Calls Tryd.prog 58 #[r] w fun e w' => ∃ T : Int, e = .returned (.int .i64 T) ∧ Hid (GE10 x y T ∧ ¬ GE10 x y (T + 1)) ∧ -400 ≤ T ∧ T ≤ 400 ∧ Nx w w' := by
  have HX := Lib.hid h
  obtain ⟨v, u, rfl, hv, hu, hx, hy⟩ := h
  obtain ⟨Av, lv, cv, rfl⟩ := hv.sl
  obtain ⟨Au, lu, cu, rfl⟩ := hu.sl
  have HLO := Lib.hid hlo
  have HHI := Lib.hid hhi
  clear hlo hhi
  obtain ⟨g, hg⟩ : ∃ g, w.heap.size = g := ⟨_, rfl⟩
  have hN : Nx w (w.alloc (Obj.cells #[.slice Av lv cv, .slice Au lu cu] 50)) := nx0 _ _
  have hB1 : Blk (w.alloc (Obj.cells #[.slice Av lv cv, .slice Au lu cu] 50)) g g #[.slice Av lv cv, .slice Au lu cu] 50 := by rw [← hg]; exact Blk.new w _ _
  go_enter Tryd.func58, Tryd.ntmps58
  go_wp2_with fail
  refine (log2_any _ x y j _ (HX.out.below hN) (by omega) hx0 hy0).mono ?_; rintro e w1 ⟨L, rfl, HL, hL1, hL2, hw1⟩
  have hN1 := Nx.trans hN hw1
  have hB2 := hB1.below hw1
  have hL3 : -2001 ≤ L := by omega
  have hL4 : L ≤ 2000 := by omega
  obtain ⟨n0, hn0⟩ : ∃ n0, (L * 30103).tdiv 100000 = n0 := ⟨_, rfl⟩
  have hnb : -700 ≤ n0 ∧ n0 ≤ 700 := by
    rw [← hn0]
    rcases Int.le_total 0 L with h | h
    · rw [Int.tdiv_eq_ediv_of_nonneg (by omega)]; constructor <;> omega
    · obtain ⟨k, rfl⟩ : ∃ k, L = -k := ⟨-L, by omega⟩
      rw [Int.neg_mul, Int.neg_tdiv, Int.tdiv_eq_ediv_of_nonneg (by omega)]; constructor <;> omega
  go_wp2_with fail
  go_loopw [3] (fun v wr => ∃ n : Int, v = .int .i64 n ∧ -700 ≤ n ∧ n ≤ 700 ∧ Nx w1 wr) (fun v _ => (intOf v + 1000).toNat)
  case atStart => exact ⟨n0, rfl, hnb.1, hnb.2, Nx.refl _⟩
  case round =>
    obtain ⟨n, rfl, hn1, hn2, hb⟩ := hrel
    obtain ⟨b, HB⟩ : ∃ b, Hid (decide (x * 10 ^ (-n).toNat < y * 10 ^ (- -n).toNat) = b) := ⟨_, rfl⟩
    have HG : Hid (b = true ↔ ¬ GE10 x y n) := by
      unfold Hid GE10; rw [← HB.out, decide_eq_true_iff, Nat.not_le, Int.neg_neg]
    have hBr := hB2.below hb
    have c0 : wr.cell? ⟨g, 0, none⟩ = some (.slice Av lv cv) := hBr.cell 0
    have c1 : wr.cell? ⟨g, 1, none⟩ = some (.slice Au lu cu) := hBr.cell 1
    have hNr := Nx.trans hN1 hb
    go_wp2_with fail
    refine (timesTen_any _ x y j (-n) _ (HX.out.below hNr) (by omega) (by omega) (by omega)).mono ?_; rintro e w4 ⟨r4, rfl, hR4, hw4⟩
    obtain ⟨v4, u4, rfl, hv4, hu4, hx4, hy4⟩ := hR4
    have HR4 := Lib.hid (show Ra w4 (.agg #[v4, u4]) _ _ _ from ⟨v4, u4, rfl, hv4, hu4, hx4, hy4⟩)
    clear hv4 hu4 hx4 hy4
    go_wp2_with fail
    refine (below1_any _ _ _ _ _ HR4.out (by omega)).mono ?_; rintro e w5 ⟨rfl, hw5⟩
    rw [HB.out]
    have hb5 : Nx w1 w5 := Nx.trans (Nx.trans hb hw4) hw5
    clear c0 c1
    cases b
    · have hge : GE10 x y n := by
        have := HG.out
        apply Classical.byContradiction
        intro h; have := this.2 h; cases this
      have HGE := Lib.hid hge
      have hn4 : n < 400 := by
        rcases Int.lt_or_le n 400 with h | h
        · exact h
        · exact absurd (ge10_mono hge h) HHI.out
      clear hge
      go_wp2_with fail
      go_loopw [3] (fun v wr => ∃ n : Int, v = .int .i64 n ∧ -700 ≤ n ∧ n ≤ 400 ∧ Hid (GE10 x y n) ∧ Nx w1 wr) (fun v _ => (1000 - intOf v).toNat)
      case atStart => exact ⟨n, rfl, hn1, by omega, HGE, hb5⟩
      case round =>
        obtain ⟨n, rfl, hn1, hn2, HGE, hb⟩ := hrel
        obtain ⟨b, HB⟩ : ∃ b, Hid (decide (x * 10 ^ (-n - 1).toNat < y * 10 ^ (-(-n - 1)).toNat) = b) := ⟨_, rfl⟩
        have HG : Hid (b = true ↔ ¬ GE10 x y (n + 1)) := by
          unfold Hid GE10; rw [← HB.out, decide_eq_true_iff, Nat.not_le, show -(-n - 1) = n + 1 from by omega, show -(n + 1) = -n - 1 from by omega]
        have hBr := hB2.below hb
        have c0 : wr.cell? ⟨g, 0, none⟩ = some (.slice Av lv cv) := hBr.cell 0
        have c1 : wr.cell? ⟨g, 1, none⟩ = some (.slice Au lu cu) := hBr.cell 1
        have hNr := Nx.trans hN1 hb
        go_wp2_with fail
        refine (timesTen_any _ x y j (-n - 1) _ (HX.out.below hNr) (by omega) (by omega) (by omega)).mono ?_; rintro e w4 ⟨r4, rfl, hR4, hw4⟩
        obtain ⟨v4, u4, rfl, hv4, hu4, hx4, hy4⟩ := hR4
        have HR4 := Lib.hid (show Ra w4 (.agg #[v4, u4]) _ _ _ from ⟨v4, u4, rfl, hv4, hu4, hx4, hy4⟩)
        clear hv4 hu4 hx4 hy4
        go_wp2_with fail
        refine (below1_any _ _ _ _ _ HR4.out (by omega)).mono ?_; rintro e w5 ⟨rfl, hw5⟩
        rw [HB.out]
        have hb5 : Nx w1 w5 := Nx.trans (Nx.trans hb hw4) hw5
        clear c0 c1
        cases b
        · have hge : GE10 x y (n + 1) := by
            have := HG.out
            apply Classical.byContradiction
            intro h; have := this.2 h; cases this
          have HGE' := Lib.hid hge
          have hn4 : n + 1 < 400 := by
            rcases Int.lt_or_le (n + 1) 400 with h | h
            · exact h
            · exact absurd (ge10_mono hge h) HHI.out
          clear hge
          go_wp2_with fail
          go_roundw
          case rel => exact ⟨n + 1, by go_num, by omega, by omega, HGE', hb5⟩
          case measure => simp [intOf]; omega
        · have hge : ¬ GE10 x y (n + 1) := HG.out.1 rfl
          have hn4 : -400 ≤ n := by
            rcases Int.lt_or_le n (-400) with h | h
            · exact absurd (ge10_mono HLO.out (show n + 1 ≤ -400 by omega)) hge
            · exact h
          have HGE' := Lib.hid hge
          clear hge
          go_wp2_with fail
          go_ret
          exact ⟨n, rfl, ⟨HGE.out, HGE'.out⟩, hn4, hn2, Nx.trans hN1 hb5⟩
    · have hge : ¬ GE10 x y n := HG.out.1 rfl
      have hn4 : -400 < n := by
        rcases Int.lt_or_le (-400) n with h | h
        · exact h
        · exact absurd (ge10_mono HLO.out h) hge
      clear hge
      go_wp2_with fail
      go_roundw
      case rel => exact ⟨n - 1, by go_num, by omega, by omega, hb5⟩
      case measure => simp [intOf]; omega
end Go.Proofs.YtddolmkmijkpiaaDoor
