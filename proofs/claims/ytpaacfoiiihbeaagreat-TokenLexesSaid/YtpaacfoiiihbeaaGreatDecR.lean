/- The contracts of dec's numbers over one another. -/
import Derived.Test.YtpaacfoiiihbeaaGreatMBigG
import Derived.Test.YtpaacfoiiihbeaaGreatHybE
import Derived.Laws.Rows
namespace Go.Proofs.YtpaacfoiiihbeaaGreat
open Go.RowKit

def KB : Nat := 4800
theorem KB_le : (KB : Int) ≤ 5000 := by decide
/-- a number of fewer than so many bits is one of few entries -/
theorem pow_KB (j : Nat) (hj : j ≤ 150000) : 2 ^ j ≤ 4294967296 ^ KB := by
  have hk : KB = 4800 := rfl
  generalize KB = K at *
  rw [show (4294967296 : Nat) = 2 ^ 32 from rfl, ← Nat.pow_mul]
  exact Nat.pow_le_pow_right (by decide) (by omega)
theorem IsNum.few {w : World} {v : Value} {n j : Nat} (h : IsNum w v n) (hn : n < 2 ^ j) (hj : j ≤ 150000) : Num w v n KB :=
  h.num (Nat.lt_of_lt_of_le hn (pow_KB j hj))

theorem IsNum.sl {w : World} {v : Value} {n : Nat} (h : IsNum w v n) : ∃ A l c, v = .slice A l c := by
  obtain ⟨A, c, ys, h1, _⟩ := h
  exact ⟨A, _, c, h1⟩

/-- a fraction: both numbers are read, of fewer than j bits -/
def Ra (w : World) (r : Value) (x y j : Nat) : Prop := ∃ v u, r = .agg #[v, u] ∧ IsNum w v x ∧ IsNum w u y ∧ x < 2 ^ j ∧ y < 2 ^ j
theorem Ra.below {w w' : World} {r : Value} {x y j : Nat} (h : Ra w r x y j) (hb : Below w.heap.size w w') : Ra w' r x y j := by
  obtain ⟨v, u, h1, h2, h3, h4, h5⟩ := h
  exact ⟨v, u, h1, h2.below hb, h3.below hb, h4, h5⟩

theorem wrap64 (x : Int) (h1 : -9223372036854775808 ≤ x) (h2 : x ≤ 9223372036854775807) : IntKind.i64.wrap x = x := by
  rw [IntKind.wrap_i64]; omega
theorem ten_two (k : Nat) : 10 ^ k ≤ 2 ^ (4 * k) := by
  rw [Nat.pow_mul]; exact Nat.pow_le_pow_left (by decide) k
theorem ten_two' (x j k : Nat) (h : x < 2 ^ j) : x * 10 ^ k < 2 ^ (j + 4 * k) := by
  rw [Nat.pow_add]
  exact Nat.lt_of_lt_of_le (Nat.mul_lt_mul_of_pos_right h (Nat.pow_pos (by decide))) (Nat.mul_le_mul_left _ (ten_two k))
theorem two_two' (x j k : Nat) (h : x < 2 ^ j) : x * 2 ^ k < 2 ^ (j + k) := by
  rw [Nat.pow_add]
  exact Nat.mul_lt_mul_of_pos_right h (Nat.pow_pos (by decide))
theorem more_two (x j k : Nat) (h : x < 2 ^ j) : x < 2 ^ (j + k) := Nat.lt_of_lt_of_le h (Nat.pow_le_pow_right (by decide) (by omega))

set_option maxRecDepth 100000 in
set_option maxHeartbeats 1600000 in
theorem timesTen_any (r : Value) (x y j : Nat) (n : Int) (w : World) (h : Ra w r x y j) (hj : j ≤ 100000) (hn1 : -1000 ≤ n) (hn2 : n ≤ 1000) :
    Calls Tryz.prog 102 #[r, .int .i64 n] w fun e w' => ∃ r', e = .returned r' ∧ Ra w' r' (x * 10 ^ n.toNat) (y * 10 ^ (-n).toNat) (j + 4 * n.natAbs) ∧ Nx w w' := by
  obtain ⟨v, u, rfl, hv, hu, hx, hy⟩ := h
  obtain ⟨Av, lv, cv, rfl⟩ := hv.sl
  obtain ⟨Au, lu, cu, rfl⟩ := hu.sl
  by_cases hneg : n < 0
  · have b1 : decide (n < 0) = true := decide_eq_true hneg
    obtain ⟨k, hk, hk2⟩ : ∃ k : Nat, -n = (k : Int) ∧ n.natAbs = k := ⟨n.natAbs, by omega, rfl⟩
    have hk1 : (k : Int) ≤ 1000 := by omega
    have hwr : IntKind.i64.wrap (k : Int) = (k : Int) := wrap64 _ (by omega) (by omega)
    have HK := Lib.hid hk2
    have hres : Hid (n.toNat = 0 ∧ (-n).toNat = k) := ⟨by omega, by omega⟩
    clear hk2 hneg
    obtain ⟨g, hg⟩ : ∃ g, w.heap.size = g := ⟨_, rfl⟩
    go_enter Tryz.func102, Tryz.ntmps102
    go_wp2_with fail
    generalize hW : ((w.alloc (Obj.cells #[.slice Av lv cv, .slice Au lu cu] _)).alloc _) = W
    have hN : Nx w W := by rw [← hW]; exact Nx.al (nx0 _ _) _
    have hB1 : Blk W g g #[.slice Av lv cv, .slice Au lu cu] 140 := by rw [← hW, ← hg]; exact (Blk.new w _ _).alloc _
    have hB2 : Blk W g (g + 1) #[.slice none 0 0, .slice none 0 0] 140 := by
      rw [← hW, ← hg]
      exact ⟨by simp, by rw [show w.heap.size + 1 = (w.alloc (Obj.cells #[.slice Av lv cv, .slice Au lu cu] 140)).heap.size from by simp]; exact heap_alloc_new _ _⟩
    have q0 : ∀ x : Gr W, x.1.cell? ⟨g, 0, none⟩ = some (.slice Av lv cv) := fun x => (hB1.below x.2).cell 0
    have q1 : ∀ x : Gr W, x.1.cell? ⟨g, 1, none⟩ = some (.slice Au lu cu) := fun x => (hB1.below x.2).cell 1
    refine E.wp_region_hyb (st := 9) [(0, true), (1, true), (2, true), (3, true), (4, true), (5, true), (6, false), (7, false), (8, true), (9, false)] rfl (by kernel_rfl) ?_
    iterate 6 (refine E.hyb_calm rfl (fun K hK => ?_); go_simp; refine hK _ ?_; clear hK K)
    refine E.hyb_alone rfl (fun w1 hn1 K hK => ?_)
    go_simp
    refine (ten_any k _ (by omega)).mono ?_; rintro e w2 ⟨v2, rfl, hv2, hb2⟩
    refine hK _ _ (.inr hb2) ?_
    clear hK K
    refine E.hyb_alone rfl (fun w3 hn3 K hK => ?_)
    go_simp
    have hb13 : Nx W w3 := nx (nx hn1 hb2) hn3
    refine (mul_n _ v2 y (10 ^ k) KB _ ((hu.below (nx hN hb13)).few hy (by omega)) ((hv2.below hn3).few (by rw [← Nat.one_mul (10 ^ k)]; exact ten_two' 1 1 k (by decide)) (by omega)) KB_le).mono ?_; rintro e w4 ⟨v4, rfl, hv4, hb4⟩
    obtain ⟨A4, l4, c4, rfl⟩ := hv4.sl
    refine hK _ _ (.inr hb4) ?_
    clear hK K
    iterate 1 (refine E.hyb_calm rfl (fun K hK => ?_); go_simp; refine hK _ ?_; clear hK K)
    refine E.hyb_alone rfl (fun w5 hn5 K hK => ?_)
    have hW5 : Nx W w5 := nx (nx hb13 hb4) hn5
    have hB5 := hB2.below hW5
    have c0 : w5.cell? ⟨g + 1, 0, none⟩ = some (.slice none 0 0) := hB5.cell 0
    have c1 : w5.cell? ⟨g + 1, 1, none⟩ = some (.slice none 0 0) := hB5.cell 1
    have f0 := hB5.free 0
    have f1 := hB5.free 1
    have nu : NoU #[.slice none 0 0, .slice none 0 0] := two_slices _ _ _ _ _ _
    go_simp
    refine hK _ _ (.inl rfl) ?_
    clear hK K
    have hB6 := (hB5.put 0 (.slice Av lv cv)).put 1 (.slice A4 l4 c4)
    have hN6 : Nx w ((w5.setCell ⟨g + 1, 0, none⟩ (.slice Av lv cv)).setCell ⟨g + 1, 1, none⟩ (.slice A4 l4 c4)) := ((Nx.trans hN hW5).put' (by omega) 0 _).put' (by omega) 1 _
    have hv6 := ((hv4.below hn5).put hB5 nu 0 (.slice Av lv cv)).put (hB5.put 0 (.slice Av lv cv)) (two_slices _ _ _ _ _ _) 1 (.slice A4 l4 c4)
    generalize hW6 : (w5.setCell ⟨g + 1, 0, none⟩ (.slice Av lv cv)).setCell ⟨g + 1, 1, none⟩ (.slice A4 l4 c4) = W6 at *
    refine E.hyb_nil (fun w7 hn7 => ?_)
    have hB7 := hB6.below hn7
    clear c0 c1 f0 f1 q0 q1
    go_wp2_with fail
    try simp only [Exit.inBlock, Exit.then]
    refine bodyPost_ret (results_cell_row rfl _ _ (g + 1) _ _ _ _ rfl hB7.2 Tryz.underlying140 rfl (by kernel_rfl)) rfl ?_
    refine ⟨_, rfl, ⟨_, _, rfl, (hv.below (Nx.trans hN6 hn7)).cast ?_, (hv6.below hn7).cast ?_, ?_, ?_⟩, Nx.trans hN6 hn7⟩
    · rw [hres.out.1, Nat.pow_zero, Nat.mul_one]
    · rw [hres.out.2]
    · rw [hres.out.1, Nat.pow_zero, Nat.mul_one]; exact more_two _ _ _ hx
    · rw [hres.out.2, HK.out]; exact ten_two' _ _ _ hy
  · have b1 : decide (n < 0) = false := decide_eq_false hneg
    obtain ⟨k, rfl⟩ := Int.eq_ofNat_of_zero_le (a := n) (by omega)
    have HK : Hid ((k : Int).natAbs = k) := Int.natAbs_natCast k
    have hres : Hid ((k : Int).toNat = k ∧ (-(k : Int)).toNat = 0) := ⟨by omega, by omega⟩
    clear hneg
    obtain ⟨g, hg⟩ : ∃ g, w.heap.size = g := ⟨_, rfl⟩
    go_enter Tryz.func102, Tryz.ntmps102
    go_wp2_with fail
    generalize hW : ((w.alloc (Obj.cells #[.slice Av lv cv, .slice Au lu cu] _)).alloc _) = W
    have hN : Nx w W := by rw [← hW]; exact Nx.al (nx0 _ _) _
    have hB1 : Blk W g g #[.slice Av lv cv, .slice Au lu cu] 140 := by rw [← hW, ← hg]; exact (Blk.new w _ _).alloc _
    have hB2 : Blk W g (g + 1) #[.slice none 0 0, .slice none 0 0] 140 := by
      rw [← hW, ← hg]
      exact ⟨by simp, by rw [show w.heap.size + 1 = (w.alloc (Obj.cells #[.slice Av lv cv, .slice Au lu cu] 140)).heap.size from by simp]; exact heap_alloc_new _ _⟩
    have q0 : ∀ x : Gr W, x.1.cell? ⟨g, 0, none⟩ = some (.slice Av lv cv) := fun x => (hB1.below x.2).cell 0
    have q1 : ∀ x : Gr W, x.1.cell? ⟨g, 1, none⟩ = some (.slice Au lu cu) := fun x => (hB1.below x.2).cell 1
    refine E.wp_region_hyb (st := 8) [(0, true), (1, true), (2, true), (5, true), (6, true), (3, false), (4, false), (7, true), (8, false)] rfl (by kernel_rfl) ?_
    iterate 5 (refine E.hyb_calm rfl (fun K hK => ?_); go_simp; refine hK _ ?_; clear hK K)
    refine E.hyb_alone rfl (fun w1 hn1 K hK => ?_)
    go_simp
    refine (ten_any k _ (by omega)).mono ?_; rintro e w2 ⟨v2, rfl, hv2, hb2⟩
    refine hK _ _ (.inr hb2) ?_
    clear hK K
    refine E.hyb_alone rfl (fun w3 hn3 K hK => ?_)
    go_simp
    have hb13 : Nx W w3 := nx (nx hn1 hb2) hn3
    refine (mul_n _ v2 x (10 ^ k) KB _ ((hv.below (nx hN hb13)).few hx (by omega)) ((hv2.below hn3).few (by rw [← Nat.one_mul (10 ^ k)]; exact ten_two' 1 1 k (by decide)) (by omega)) KB_le).mono ?_; rintro e w4 ⟨v4, rfl, hv4, hb4⟩
    obtain ⟨A4, l4, c4, rfl⟩ := hv4.sl
    refine hK _ _ (.inr hb4) ?_
    clear hK K
    iterate 1 (refine E.hyb_calm rfl (fun K hK => ?_); go_simp; refine hK _ ?_; clear hK K)
    refine E.hyb_alone rfl (fun w5 hn5 K hK => ?_)
    have hW5 : Nx W w5 := nx (nx hb13 hb4) hn5
    have hB5 := hB2.below hW5
    have c0 : w5.cell? ⟨g + 1, 0, none⟩ = some (.slice none 0 0) := hB5.cell 0
    have c1 : w5.cell? ⟨g + 1, 1, none⟩ = some (.slice none 0 0) := hB5.cell 1
    have f0 := hB5.free 0
    have f1 := hB5.free 1
    have nu : NoU #[.slice none 0 0, .slice none 0 0] := two_slices _ _ _ _ _ _
    go_simp
    refine hK _ _ (.inl rfl) ?_
    clear hK K
    have hB6 := (hB5.put 0 (.slice A4 l4 c4)).put 1 (.slice Au lu cu)
    have hN6 : Nx w ((w5.setCell ⟨g + 1, 0, none⟩ (.slice A4 l4 c4)).setCell ⟨g + 1, 1, none⟩ (.slice Au lu cu)) := ((Nx.trans hN hW5).put' (by omega) 0 _).put' (by omega) 1 _
    have hv6 := ((hv4.below hn5).put hB5 nu 0 (.slice A4 l4 c4)).put (hB5.put 0 (.slice A4 l4 c4)) (two_slices _ _ _ _ _ _) 1 (.slice Au lu cu)
    generalize hW6 : (w5.setCell ⟨g + 1, 0, none⟩ (.slice A4 l4 c4)).setCell ⟨g + 1, 1, none⟩ (.slice Au lu cu) = W6 at *
    refine E.hyb_nil (fun w7 hn7 => ?_)
    have hB7 := hB6.below hn7
    clear c0 c1 f0 f1 q0 q1
    go_wp2_with fail
    try simp only [Exit.inBlock, Exit.then]
    refine bodyPost_ret (results_cell_row rfl _ _ (g + 1) _ _ _ _ rfl hB7.2 Tryz.underlying140 rfl (by kernel_rfl)) rfl ?_
    refine ⟨_, rfl, ⟨_, _, rfl, (hv6.below hn7).cast ?_, (hu.below (Nx.trans hN6 hn7)).cast ?_, ?_, ?_⟩, Nx.trans hN6 hn7⟩
    · rw [hres.out.1]
    · rw [hres.out.2, Nat.pow_zero, Nat.mul_one]
    · rw [hres.out.1, HK.out]; exact ten_two' _ _ _ hx
    · rw [hres.out.2, Nat.pow_zero, Nat.mul_one]; exact more_two _ _ _ hy

set_option maxRecDepth 100000 in
set_option maxHeartbeats 1600000 in
theorem timesTwo_any (r : Value) (x y j : Nat) (n : Int) (w : World) (h : Ra w r x y j) (hj : j ≤ 100000) (hn1 : -30000 ≤ n) (hn2 : n ≤ 30000) :
    Calls Tryz.prog 118 #[r, .int .i64 n] w fun e w' => ∃ r', e = .returned r' ∧ Ra w' r' (x * 2 ^ n.toNat) (y * 2 ^ (-n).toNat) (j + n.natAbs) ∧ Nx w w' := by
  obtain ⟨v, u, rfl, hv, hu, hx, hy⟩ := h
  obtain ⟨Av, lv, cv, rfl⟩ := hv.sl
  obtain ⟨Au, lu, cu, rfl⟩ := hu.sl
  by_cases hneg : n < 0
  · have b1 : decide (n < 0) = true := decide_eq_true hneg
    obtain ⟨k, hk, hk2⟩ : ∃ k : Nat, -n = (k : Int) ∧ n.natAbs = k := ⟨n.natAbs, by omega, rfl⟩
    have hk1 : (k : Int) ≤ 30000 := by omega
    have hwr : IntKind.i64.wrap (k : Int) = (k : Int) := wrap64 _ (by omega) (by omega)
    have HK := Lib.hid hk2
    have hres : Hid (n.toNat = 0 ∧ (-n).toNat = k) := ⟨by omega, by omega⟩
    clear hk2 hneg
    obtain ⟨g, hg⟩ : ∃ g, w.heap.size = g := ⟨_, rfl⟩
    go_enter Tryz.func118, Tryz.ntmps118
    go_wp2_with fail
    generalize hW : ((w.alloc (Obj.cells #[.slice Av lv cv, .slice Au lu cu] _)).alloc _) = W
    have hN : Nx w W := by rw [← hW]; exact Nx.al (nx0 _ _) _
    have hB1 : Blk W g g #[.slice Av lv cv, .slice Au lu cu] 140 := by rw [← hW, ← hg]; exact (Blk.new w _ _).alloc _
    have hB2 : Blk W g (g + 1) #[.slice none 0 0, .slice none 0 0] 140 := by
      rw [← hW, ← hg]
      exact ⟨by simp, by rw [show w.heap.size + 1 = (w.alloc (Obj.cells #[.slice Av lv cv, .slice Au lu cu] 140)).heap.size from by simp]; exact heap_alloc_new _ _⟩
    have q0 : ∀ x : Gr W, x.1.cell? ⟨g, 0, none⟩ = some (.slice Av lv cv) := fun x => (hB1.below x.2).cell 0
    have q1 : ∀ x : Gr W, x.1.cell? ⟨g, 1, none⟩ = some (.slice Au lu cu) := fun x => (hB1.below x.2).cell 1
    refine E.wp_region_hyb (st := 8) [(0, true), (1, true), (2, true), (3, true), (4, true), (5, true), (6, false), (7, true), (8, false)] rfl (by kernel_rfl) ?_
    iterate 6 (refine E.hyb_calm rfl (fun K hK => ?_); go_simp; refine hK _ ?_; clear hK K)
    refine E.hyb_alone rfl (fun w3 hn3 K hK => ?_)
    go_simp
    have hb13 : Nx W w3 := hn3
    refine (shl_n _ y KB (k : Int) _ ((hu.below (nx hN hb13)).few hy (by omega)) KB_le (by omega) (by omega)).mono ?_; rintro e w4 ⟨v4, rfl, hv4, hb4⟩
    have hv4 := hv4.cast (show shV y (k : Int) = y * 2 ^ k from by unfold shV; rw [if_pos (by omega), Int.toNat_natCast])
    obtain ⟨A4, l4, c4, rfl⟩ := hv4.sl
    refine hK _ _ (.inr hb4) ?_
    clear hK K
    iterate 1 (refine E.hyb_calm rfl (fun K hK => ?_); go_simp; refine hK _ ?_; clear hK K)
    refine E.hyb_alone rfl (fun w5 hn5 K hK => ?_)
    have hW5 : Nx W w5 := nx (nx hb13 hb4) hn5
    have hB5 := hB2.below hW5
    have c0 : w5.cell? ⟨g + 1, 0, none⟩ = some (.slice none 0 0) := hB5.cell 0
    have c1 : w5.cell? ⟨g + 1, 1, none⟩ = some (.slice none 0 0) := hB5.cell 1
    have f0 := hB5.free 0
    have f1 := hB5.free 1
    have nu : NoU #[.slice none 0 0, .slice none 0 0] := two_slices _ _ _ _ _ _
    go_simp
    refine hK _ _ (.inl rfl) ?_
    clear hK K
    have hB6 := (hB5.put 0 (.slice Av lv cv)).put 1 (.slice A4 l4 c4)
    have hN6 : Nx w ((w5.setCell ⟨g + 1, 0, none⟩ (.slice Av lv cv)).setCell ⟨g + 1, 1, none⟩ (.slice A4 l4 c4)) := ((Nx.trans hN hW5).put' (by omega) 0 _).put' (by omega) 1 _
    have hv6 := ((hv4.below hn5).put hB5 nu 0 (.slice Av lv cv)).put (hB5.put 0 (.slice Av lv cv)) (two_slices _ _ _ _ _ _) 1 (.slice A4 l4 c4)
    generalize hW6 : (w5.setCell ⟨g + 1, 0, none⟩ (.slice Av lv cv)).setCell ⟨g + 1, 1, none⟩ (.slice A4 l4 c4) = W6 at *
    refine E.hyb_nil (fun w7 hn7 => ?_)
    have hB7 := hB6.below hn7
    clear c0 c1 f0 f1 q0 q1
    go_wp2_with fail
    try simp only [Exit.inBlock, Exit.then]
    refine bodyPost_ret (results_cell_row rfl _ _ (g + 1) _ _ _ _ rfl hB7.2 Tryz.underlying140 rfl (by kernel_rfl)) rfl ?_
    refine ⟨_, rfl, ⟨_, _, rfl, (hv.below (Nx.trans hN6 hn7)).cast ?_, (hv6.below hn7).cast ?_, ?_, ?_⟩, Nx.trans hN6 hn7⟩
    · rw [hres.out.1, Nat.pow_zero, Nat.mul_one]
    · rw [hres.out.2]
    · rw [hres.out.1, Nat.pow_zero, Nat.mul_one]; exact more_two _ _ _ hx
    · rw [hres.out.2, HK.out]; exact two_two' _ _ _ hy
  · have b1 : decide (n < 0) = false := decide_eq_false hneg
    obtain ⟨k, rfl⟩ := Int.eq_ofNat_of_zero_le (a := n) (by omega)
    have HK : Hid ((k : Int).natAbs = k) := Int.natAbs_natCast k
    have hres : Hid ((k : Int).toNat = k ∧ (-(k : Int)).toNat = 0) := ⟨by omega, by omega⟩
    clear hneg
    obtain ⟨g, hg⟩ : ∃ g, w.heap.size = g := ⟨_, rfl⟩
    go_enter Tryz.func118, Tryz.ntmps118
    go_wp2_with fail
    generalize hW : ((w.alloc (Obj.cells #[.slice Av lv cv, .slice Au lu cu] _)).alloc _) = W
    have hN : Nx w W := by rw [← hW]; exact Nx.al (nx0 _ _) _
    have hB1 : Blk W g g #[.slice Av lv cv, .slice Au lu cu] 140 := by rw [← hW, ← hg]; exact (Blk.new w _ _).alloc _
    have hB2 : Blk W g (g + 1) #[.slice none 0 0, .slice none 0 0] 140 := by
      rw [← hW, ← hg]
      exact ⟨by simp, by rw [show w.heap.size + 1 = (w.alloc (Obj.cells #[.slice Av lv cv, .slice Au lu cu] 140)).heap.size from by simp]; exact heap_alloc_new _ _⟩
    have q0 : ∀ x : Gr W, x.1.cell? ⟨g, 0, none⟩ = some (.slice Av lv cv) := fun x => (hB1.below x.2).cell 0
    have q1 : ∀ x : Gr W, x.1.cell? ⟨g, 1, none⟩ = some (.slice Au lu cu) := fun x => (hB1.below x.2).cell 1
    refine E.wp_region_hyb (st := 7) [(0, true), (1, true), (2, true), (4, true), (5, true), (3, false), (6, true), (7, false)] rfl (by kernel_rfl) ?_
    iterate 5 (refine E.hyb_calm rfl (fun K hK => ?_); go_simp; refine hK _ ?_; clear hK K)
    refine E.hyb_alone rfl (fun w3 hn3 K hK => ?_)
    go_simp
    have hb13 : Nx W w3 := hn3
    refine (shl_n _ x KB (k : Int) _ ((hv.below (nx hN hb13)).few hx (by omega)) KB_le (by omega) (by omega)).mono ?_; rintro e w4 ⟨v4, rfl, hv4, hb4⟩
    have hv4 := hv4.cast (show shV x (k : Int) = x * 2 ^ k from by unfold shV; rw [if_pos (by omega), Int.toNat_natCast])
    obtain ⟨A4, l4, c4, rfl⟩ := hv4.sl
    refine hK _ _ (.inr hb4) ?_
    clear hK K
    iterate 1 (refine E.hyb_calm rfl (fun K hK => ?_); go_simp; refine hK _ ?_; clear hK K)
    refine E.hyb_alone rfl (fun w5 hn5 K hK => ?_)
    have hW5 : Nx W w5 := nx (nx hb13 hb4) hn5
    have hB5 := hB2.below hW5
    have c0 : w5.cell? ⟨g + 1, 0, none⟩ = some (.slice none 0 0) := hB5.cell 0
    have c1 : w5.cell? ⟨g + 1, 1, none⟩ = some (.slice none 0 0) := hB5.cell 1
    have f0 := hB5.free 0
    have f1 := hB5.free 1
    have nu : NoU #[.slice none 0 0, .slice none 0 0] := two_slices _ _ _ _ _ _
    go_simp
    refine hK _ _ (.inl rfl) ?_
    clear hK K
    have hB6 := (hB5.put 0 (.slice A4 l4 c4)).put 1 (.slice Au lu cu)
    have hN6 : Nx w ((w5.setCell ⟨g + 1, 0, none⟩ (.slice A4 l4 c4)).setCell ⟨g + 1, 1, none⟩ (.slice Au lu cu)) := ((Nx.trans hN hW5).put' (by omega) 0 _).put' (by omega) 1 _
    have hv6 := ((hv4.below hn5).put hB5 nu 0 (.slice A4 l4 c4)).put (hB5.put 0 (.slice A4 l4 c4)) (two_slices _ _ _ _ _ _) 1 (.slice Au lu cu)
    generalize hW6 : (w5.setCell ⟨g + 1, 0, none⟩ (.slice A4 l4 c4)).setCell ⟨g + 1, 1, none⟩ (.slice Au lu cu) = W6 at *
    refine E.hyb_nil (fun w7 hn7 => ?_)
    have hB7 := hB6.below hn7
    clear c0 c1 f0 f1 q0 q1
    go_wp2_with fail
    try simp only [Exit.inBlock, Exit.then]
    refine bodyPost_ret (results_cell_row rfl _ _ (g + 1) _ _ _ _ rfl hB7.2 Tryz.underlying140 rfl (by kernel_rfl)) rfl ?_
    refine ⟨_, rfl, ⟨_, _, rfl, (hv6.below hn7).cast ?_, (hu.below (Nx.trans hN6 hn7)).cast ?_, ?_, ?_⟩, Nx.trans hN6 hn7⟩
    · rw [hres.out.1]
    · rw [hres.out.2, Nat.pow_zero, Nat.mul_one]
    · rw [hres.out.1, HK.out]; exact two_two' _ _ _ hx
    · rw [hres.out.2, Nat.pow_zero, Nat.mul_one]; exact more_two _ _ _ hy
end Go.Proofs.YtpaacfoiiihbeaaGreat
