/- Of neighbours that are one, one is kept: slices.CompactFunc over a row of numbers, as values. -/
import Derived.Test.YtjeadmndnbggmaaOrJ
import Derived.Lib.SliceRun
set_option linter.unusedVariables false
set_option linter.unusedSimpArgs false
namespace Go.Proofs.Ytjeadmndnbggmaa
open Go.RowKit

set_option maxRecDepth 100000 in
theorem eq_any {x y : ValS} (hx : OkS x) (hy : OkS y) (w : World) : Calls Try.prog 24 #[.agg (valA x), .agg (valA y)] w fun e w' => e = .returned (.bool (decide (ky x = ky y))) ∧ Nx w w' := by
  have HCC : Hid (∀ wx, Calls Try.prog 8 #[.agg (valA x), .agg (valA y)] wx fun e w' => e = .returned (.int .i64 (cmpI (ky x) (ky y))) ∧ Nx wx w') := fun wx => leaf_cmp_any hx hy wx
  obtain ⟨⟨XA, Xu, Xc, hXl⟩, ⟨XD, Xe, Xf, hXd⟩⟩ := hx.slv
  obtain ⟨⟨YA, Yu, Yc, hYl⟩, ⟨YD, Ye, Yf, hYd⟩⟩ := hy.slv
  have hvx : valA x = #[.int .i64 (x.k : Int), .int .i64 x.n, .string ⟨x.s.toArray⟩, .slice XA Xu Xc, .slice XD Xe Xf] := by unfold valA; rw [hXl, hXd]
  have hvy : valA y = #[.int .i64 (y.k : Int), .int .i64 y.n, .string ⟨y.s.toArray⟩, .slice YA Yu Yc, .slice YD Ye Yf] := by unfold valA; rw [hYl, hYd]
  rw [hvx, hvy] at HCC ⊢
  obtain ⟨Xk, hXk⟩ : ∃ k, (x.k : Int) = k := ⟨_, rfl⟩
  obtain ⟨Xn, hXn⟩ : ∃ k, x.n = k := ⟨_, rfl⟩
  obtain ⟨Xs, hXs⟩ : ∃ s, ByteArray.mk x.s.toArray = s := ⟨_, rfl⟩
  obtain ⟨Yk, hYk⟩ : ∃ k, (y.k : Int) = k := ⟨_, rfl⟩
  obtain ⟨Yn, hYn⟩ : ∃ k, y.n = k := ⟨_, rfl⟩
  obtain ⟨Ys, hYs⟩ : ∃ s, ByteArray.mk y.s.toArray = s := ⟨_, rfl⟩
  obtain ⟨KX, hKX⟩ : ∃ z, ky x = z := ⟨_, rfl⟩
  obtain ⟨KY, hKY⟩ : ∃ z, ky y = z := ⟨_, rfl⟩
  rw [hXk, hXn, hXs, hYk, hYn, hYs, hKX, hKY] at HCC ⊢
  clear hXk hXn hXs hYk hYn hYs hXl hXd hYl hYd hvx hvy hx hy hKX hKY
  obtain ⟨g1, hg1⟩ : ∃ g, w.heap.size = g := ⟨_, rfl⟩
  obtain ⟨w1, hw1⟩ : ∃ x, w.alloc (.cells #[.int .i64 Xk, .int .i64 Xn, .string Xs, .slice XA Xu Xc, .slice XD Xe Xf] 29) = x := ⟨_, rfl⟩
  have hb1 : Blk w1 g1 g1 #[.int .i64 Xk, .int .i64 Xn, .string Xs, .slice XA Xu Xc, .slice XD Xe Xf] 29 := by rw [← hw1, ← hg1]; exact Blk.new w _ _
  have hn1 : Nx w w1 := by rw [← hw1]; exact nx0 _ _
  obtain ⟨g2, hg2⟩ : ∃ g, w1.heap.size = g := ⟨_, rfl⟩
  obtain ⟨w2, hw2⟩ : ∃ x, w1.alloc (.cells #[.int .i64 Yk, .int .i64 Yn, .string Ys, .slice YA Yu Yc, .slice YD Ye Yf] 29) = x := ⟨_, rfl⟩
  have hb2 : Blk w2 g2 g2 #[.int .i64 Yk, .int .i64 Yn, .string Ys, .slice YA Yu Yc, .slice YD Ye Yf] 29 := by rw [← hw2, ← hg2]; exact Blk.new w1 _ _
  have hn2 : Nx w1 w2 := by rw [← hw2]; exact nx0 _ _
  have hb1' := hb1.below hn2
  have HN2 := Lib.hid (hn1.trans hn2)
  have a0 : w2.cell? ⟨g1, 0, none⟩ = some (.int .i64 Xk) := hb1'.cell 0
  have a1 : w2.cell? ⟨g1, 1, none⟩ = some (.int .i64 Xn) := hb1'.cell 1
  have a2 : w2.cell? ⟨g1, 2, none⟩ = some (.string Xs) := hb1'.cell 2
  have a3 : w2.cell? ⟨g1, 3, none⟩ = some (.slice XA Xu Xc) := hb1'.cell 3
  have a4 : w2.cell? ⟨g1, 4, none⟩ = some (.slice XD Xe Xf) := hb1'.cell 4
  have b0 : w2.cell? ⟨g2, 0, none⟩ = some (.int .i64 Yk) := hb2.cell 0
  have b1 : w2.cell? ⟨g2, 1, none⟩ = some (.int .i64 Yn) := hb2.cell 1
  have b2 : w2.cell? ⟨g2, 2, none⟩ = some (.string Ys) := hb2.cell 2
  have b3 : w2.cell? ⟨g2, 3, none⟩ = some (.slice YA Yu Yc) := hb2.cell 3
  have b4 : w2.cell? ⟨g2, 4, none⟩ = some (.slice YD Ye Yf) := hb2.cell 4
  clear hb1 hn1 hb2 hn2 hb1'
  go_enter Try.func24, Try.ntmps24
  go_wp2_with fail
  clear hw1 hg1 hw2 hg2
  refine (HCC.out w2).mono ?_; rintro e w3 ⟨rfl, hn3⟩
  have HN3 := Lib.hid (HN2.out.trans hn3)
  clear a0 a1 a2 a3 a4 b0 b1 b2 b3 b4 hn3
  by_cases h : KX = KY
  · have e0 : cmpI KX KY = 0 := cmpI_eq.2 h
    have HD : Hid (decide (KX = KY) = true) := decide_eq_true h
    rw [e0]
    clear e0 h
    go_wp2_with fail
    go_ret
    exact ⟨by rw [HD.out]; rfl, HN3.out⟩
  · have e0 : (cmpI KX KY == 0) = false := by rw [beq_eq_false_iff_ne]; exact fun hh => h (cmpI_eq.1 hh)
    have HD : Hid (decide (KX = KY) = false) := decide_eq_false h
    clear h
    go_wp2_with fail
    go_ret
    exact ⟨by rw [HD.out]; rfl, HN3.out⟩
/-- each number once, as they rise -/
def Once (us xs : List ValS) : Prop := us.Pairwise (fun a b => ky a < ky b) ∧ (∀ t, (∃ y ∈ us, ky y = t) ↔ ∃ x ∈ xs, ky x = t) ∧ ∀ y ∈ us, y ∈ xs
theorem Once.same {us xs : List ValS} {x y : ValS} (h : Once us xs) (hy : y ∈ xs) (e : ky x = ky y) : (∀ t, (∃ y ∈ us, ky y = t) ↔ ∃ z ∈ xs ++ [x], ky z = t) := fun t => by
  rw [h.2.1 t]
  constructor
  · rintro ⟨z, hz, rfl⟩; exact ⟨z, by simp [hz], rfl⟩
  · rintro ⟨z, hz, rfl⟩
    rcases List.mem_append.1 hz with hz | hz
    · exact ⟨z, hz, rfl⟩
    · rw [List.mem_singleton.1 hz]; exact ⟨y, hy, e.symm⟩
theorem Once.keep {us xs : List ValS} {x y : ValS} (h : Once us xs) (hy : y ∈ xs) (e : ky x = ky y) : Once us (xs ++ [x]) := ⟨h.1, h.same hy e, fun z hz => by simp [h.2.2 z hz]⟩
theorem Once.more {us xs : List ValS} {x : ValS} (h : Once us xs) (hx : ∀ y ∈ xs, ky y < ky x) : Once (us ++ [x]) (xs ++ [x]) := by
  refine ⟨List.pairwise_append.2 ⟨h.1, List.pairwise_singleton _ _, fun a ha b hb => ?_⟩, fun t => ?_, fun z hz => ?_⟩
  · rw [List.mem_singleton.1 hb]; exact hx a (h.2.2 a ha)
  · constructor
    · rintro ⟨z, hz, rfl⟩
      rcases List.mem_append.1 hz with hz | hz
      · exact ⟨z, by simp [h.2.2 z hz], rfl⟩
      · exact ⟨z, by simp [List.mem_singleton.1 hz], rfl⟩
    · rintro ⟨z, hz, rfl⟩
      rcases List.mem_append.1 hz with hz | hz
      · obtain ⟨y, hy, e⟩ := (h.2.1 (ky z)).2 ⟨z, hz, rfl⟩
        exact ⟨y, by simp [hy], e⟩
      · exact ⟨z, by simp [List.mem_singleton.1 hz], rfl⟩
  · rcases List.mem_append.1 hz with hz | hz
    · simp [h.2.2 z hz]
    · simp [List.mem_singleton.1 hz]
theorem Once.self {xs : List ValS} (h : xs.Pairwise (fun a b => ky a < ky b)) : Once xs xs := ⟨h, fun _ => Iff.rfl, fun _ h => h⟩
/-- all ahead of a place are no more than what stands just ahead of it -/
theorem upto_le {xs : List ValS} (h : xs.Pairwise (fun a b => ky a ≤ ky b)) {q : Nat} (hq : q < xs.length) (h1 : 1 ≤ q) : ∀ y ∈ xs.take q, ky y ≤ ky (xs[q - 1]'(by omega)) := by
  intro y hy
  obtain ⟨i, hi, rfl⟩ := List.getElem_of_mem hy
  rw [List.getElem_take]
  have hi' : i < q := by rw [List.length_take] at hi; omega
  rcases Nat.lt_or_ge i (q - 1) with h2 | h2
  · exact List.pairwise_iff_getElem.1 h i (q - 1) (by omega) (by omega) h2
  · obtain rfl : i = q - 1 := by omega
    exact Int.le_refl _
theorem up_le {xs : List ValS} (h : xs.Pairwise (fun a b => ky a ≤ ky b)) {q : Nat} (hq : q < xs.length) (h1 : 1 ≤ q) : ky (xs[q - 1]'(by omega)) ≤ ky xs[q] :=
  List.pairwise_iff_getElem.1 h (q - 1) q (by omega) hq (by omega)
theorem setCells_puts (g : Nat) : ∀ (vs : List Value) (o : Nat) (w : World), w.setCells g o vs = wputs w g o vs
  | [], _, _ => rfl
  | v :: r, o, w => setCells_puts g r (o + 1) _
theorem run_clear5 (w : World) (ty : TypeId) (b o n c : Nat) (hn : 0 < n) (hc : ∀ j, j < n * 5 → (w.cell? ⟨b, o + j, none⟩).isSome = true) (hf : ∀ j, j < n * 5 → w.frozen? ⟨b, o + j, none⟩ = false) :
    (Builtin.clear_ #[25] ty #[.slice (some ⟨b, o, none⟩) n c]).run Try.prog w = .ok (.tuple #[]) (wputs w b o (rowL valA (List.replicate n zeroS))) := by
  obtain ⟨i, hi, hz, h1, h2⟩ := info_parts infoG
  have hv : ∀ w : World, (zeroValue 29).run Try.prog w = .ok valG w := fun w => by simp [zeroValue, typeInfo, hi, hz]
  have hzc : (Builtin.zeroCells valG.cells n).toList = rowL valA (List.replicate n zeroS) := by
    have := made_rows n
    have e : Builtin.zeroCells valG.cells n = madeCells valG.cells (n * 5) := rfl
    rw [e, this]
  have hl : (rowL valA (List.replicate n zeroS)).length = n * 5 := by rw [rowL_length valA_size, List.length_replicate]
  have hst := run_storeCells_cells (P := Try.prog) b o (rowL valA (List.replicate n zeroS)) 0 w (by rw [hl]; simpa using hc) (by rw [hl]; simpa using hf) (by
    intro v hv'
    obtain ⟨y, hy, hv2⟩ := List.mem_flatMap.1 hv'
    rw [List.eq_of_mem_replicate hy] at hv2
    have : v = .int .i64 0 ∨ v = .int .i64 0 ∨ v = .string ⟨#[]⟩ ∨ v = .slice none 0 0 ∨ v = .slice none 0 0 := by simpa [valA, zeroS] using hv2
    rcases this with rfl | rfl | rfl | rfl | rfl <;> rfl)
  simp only [Nat.add_zero] at hst
  rw [setCells_puts] at hst
  obtain ⟨m, rfl⟩ : ∃ m, n = m + 1 := ⟨n - 1, by omega⟩
  simp [Builtin.clear_, run_underlying Try.underlying25, hv, hzc, hst]
theorem RdO.blk' {w : World} {B g : Nat} {xs : List ValS} {T : TypeId} (h : Blk w B g (rowL valA xs).toArray T) : RdO w (some ⟨g, 0, none⟩) xs := fun _ =>
  ⟨g, 0, rfl, h.lt, fun i hi j hj => by rw [Nat.zero_add]; exact h.rcell hi hj⟩
set_option maxRecDepth 100000 in
set_option maxHeartbeats 12800000 in
theorem compact_any (w : World) (B gr n c : Nat) (xs : List ValS) (hn : xs.length = n) (hn9 : n ≤ 100) (hnc : n ≤ c)
    (hB : Blk w B gr (rowL valA xs).toArray 29) (hok : ∀ x ∈ xs, OkS x) (hs : xs.Pairwise (fun a b => ky a ≤ ky b)) (hc9 : c ≤ 100000) :
    Calls Try.prog 23 #[.slice (some ⟨gr, 0, none⟩) n c, .func (.func 24) #[] #[]] w fun e w' => ∃ us, e = .returned (.slice (some ⟨gr, 0, none⟩) us.length c) ∧ Once us xs ∧ RdO w' (some ⟨gr, 0, none⟩) us ∧ Oth gr w w' := by
  have HB := Lib.hid hB
  have HOK := Lib.hid hok
  have HN := Lib.hid hn
  have HS := Lib.hid hs
  clear hB hok hn hs
  go_enter Try.func23, Try.ntmps23
  by_cases h2 : n < 2
  · have q1 : decide ((n : Int) < 2) = true := decide_eq_true (by omega)
    have q2 : (n : Int) < 2 := by omega
    have q3 : decide (n < 2) = true := decide_eq_true h2
    have HO : Hid (Once xs xs) := Once.self (by
      cases xs with
      | nil => exact List.Pairwise.nil
      | cons x r =>
        have : r = [] := List.eq_nil_of_length_eq_zero (by have := HN.out; simp at this; omega)
        subst this
        exact List.pairwise_singleton _ _)
    clear h2
    go_wp2_with fail
    go_ret
    exact ⟨xs, by rw [HN.out]; rfl, HO.out, RdO.blk' HB.out, Oth.refl _ _⟩
  have q1 : decide ((n : Int) < 2) = false := decide_eq_false (by omega)
  have q2 : ¬ (n : Int) < 2 := by omega
  have q3 : decide (n < 2) = false := decide_eq_false h2
  have hn2 : (2 : Int) ≤ (n : Int) := by omega
  have hn9i : (n : Int) ≤ 100 := by omega
  clear h2
  go_wp2_with fail
  clear q1 q2 q3
  go_loopw [5] (fun x wr => ∃ k : Nat, x = .int .i64 (k : Int) ∧ 1 ≤ k ∧ k ≤ n ∧ Hid ((xs.take k).Pairwise (fun a b => ky a < ky b)) ∧ Hid (Blk wr B gr (rowL valA xs).toArray 29) ∧ Hid (Oth gr w wr)) (fun x _ => (n - intOf x).toNat)
  case atStart =>
    refine ⟨1, rfl, Nat.le_refl _, by omega, ?_, HB.out, Oth.refl _ _⟩
    unfold Hid
    obtain ⟨x, r, e⟩ : ∃ x r, xs = x :: r := by
      cases h : xs with
      | nil => have := HN.out; rw [h] at this; simp at this; omega
      | cons x r => exact ⟨x, r, rfl⟩
    rw [e]
    exact List.pairwise_singleton _ _
  case round =>
    obtain ⟨k, rfl, h1, hk, HP, HK, HT⟩ := hrel
    by_cases hlt : k < n
    · have q1 : decide ((k : Int) < (n : Int)) = true := decide_eq_true (by omega)
      have q2 : (k : Int) < (n : Int) := by omega
      have q3 : (0 : Int) ≤ (k : Int) := by omega
      have q4 : decide (k < n) = true := decide_eq_true hlt
      have hkx : k < xs.length := by rw [HN.out]; exact hlt
      obtain ⟨kp, hkp⟩ : ∃ kp : Nat, kp + 1 = k := ⟨k - 1, by omega⟩
      have hkpx : kp < xs.length := by omega
      have hkpi : (k : Int) - 1 = (kp : Int) := by omega
      have hwk : IntKind.i64.wrap (kp : Int) = (kp : Int) := by rw [IntKind.wrap_i64]; omega
      have kp0 : (0 : Int) ≤ (kp : Int) := by omega
      have kp1 : (kp : Int) < (n : Int) := by omega
      obtain ⟨X, hX⟩ : ∃ X, xs[k] = X := ⟨_, rfl⟩
      obtain ⟨Y, hY⟩ : ∃ Y, xs[kp] = Y := ⟨_, rfl⟩
      have HXY : Hid (OkS X ∧ OkS Y) := ⟨hX ▸ HOK.out _ (List.getElem_mem _), hY ▸ HOK.out _ (List.getElem_mem _)⟩
      have HTK : Hid (xs.take (k + 1) = xs.take k ++ [X]) := by unfold Hid; rw [List.take_succ_eq_append_getElem hkx, hX]
      have HYM : Hid (Y ∈ xs.take k) := by
        unfold Hid
        rw [← hY]
        exact List.mem_iff_getElem.2 ⟨kp, by rw [List.length_take]; omega, by rw [List.getElem_take]⟩
      have HLE : Hid (ky Y ≤ ky X ∧ ∀ y ∈ xs.take k, ky y ≤ ky Y) := by
        have e : xs[k - 1]'(by omega) = Y := by rw [← hY]; congr 1; omega
        have a := up_le HS.out hkx h1
        have b := upto_le HS.out hkx h1
        rw [e] at a b
        rw [hX] at a
        exact ⟨a, b⟩
      have HCC : Hid (∀ wx, Calls Try.prog 24 #[.agg (valA X), .agg (valA Y)] wx fun e w' => e = .returned (.bool (decide (ky X = ky Y))) ∧ Nx wx w') := fun wx => eq_any HXY.out.1 HXY.out.2 wx
      have HFX : Hid (∀ wx, Blk wx B gr (rowL valA xs).toArray 29 → (∀ q, q < 5 → wx.cell? ⟨gr, k * 5 + q, none⟩ = (valA X)[q]?) ∧ ∀ q, q < 5 → wx.cell? ⟨gr, kp * 5 + q, none⟩ = (valA Y)[q]?) := fun wx hb =>
        ⟨fun q hq => by rw [hb.rcell hkx hq, hX], fun q hq => by rw [hb.rcell hkpx hq, hY]⟩
      obtain ⟨⟨XA, Xu, Xc, hXl⟩, ⟨XD, Xe, Xf, hXd⟩⟩ := HXY.out.1.slv
      have HVX : Hid (valA X = #[.int .i64 (X.k : Int), .int .i64 X.n, .string ⟨X.s.toArray⟩, .slice XA Xu Xc, .slice XD Xe Xf]) := by unfold Hid valA; rw [hXl, hXd]
      obtain ⟨⟨YA, Yu, Yc, hYl⟩, ⟨YD, Ye, Yf, hYd⟩⟩ := HXY.out.2.slv
      have HVY : Hid (valA Y = #[.int .i64 (Y.k : Int), .int .i64 Y.n, .string ⟨Y.s.toArray⟩, .slice YA Yu Yc, .slice YD Ye Yf]) := by unfold Hid valA; rw [hYl, hYd]
      rw [HVX.out, HVY.out] at HFX HCC
      obtain ⟨Xk, hXk⟩ : ∃ k, (X.k : Int) = k := ⟨_, rfl⟩
      obtain ⟨Xn, hXn⟩ : ∃ k, X.n = k := ⟨_, rfl⟩
      obtain ⟨Xs, hXs⟩ : ∃ s, ByteArray.mk X.s.toArray = s := ⟨_, rfl⟩
      rw [hXk, hXn, hXs] at HVX HFX HCC
      clear hXk hXn hXs hXl hXd
      obtain ⟨Yk, hYk⟩ : ∃ k, (Y.k : Int) = k := ⟨_, rfl⟩
      obtain ⟨Yn, hYn⟩ : ∃ k, Y.n = k := ⟨_, rfl⟩
      obtain ⟨Ys, hYs⟩ : ∃ s, ByteArray.mk Y.s.toArray = s := ⟨_, rfl⟩
      rw [hYk, hYn, hYs] at HVY HFX HCC
      clear hYk hYn hYs hYl hYd
      have Lx0 : ∀ x : Gr wr, x.1.cell? ⟨gr, k * 5, none⟩ = some (.int .i64 Xk) := fun x => (HFX.out x.1 (HK.out.below x.2)).1 0 (by decide)
      have Lx1 : ∀ x : Gr wr, x.1.cell? ⟨gr, k * 5 + 1, none⟩ = some (.int .i64 Xn) := fun x => (HFX.out x.1 (HK.out.below x.2)).1 1 (by decide)
      have Lx2 : ∀ x : Gr wr, x.1.cell? ⟨gr, k * 5 + 2, none⟩ = some (.string Xs) := fun x => (HFX.out x.1 (HK.out.below x.2)).1 2 (by decide)
      have Lx3 : ∀ x : Gr wr, x.1.cell? ⟨gr, k * 5 + 3, none⟩ = some (.slice XA Xu Xc) := fun x => (HFX.out x.1 (HK.out.below x.2)).1 3 (by decide)
      have Lx4 : ∀ x : Gr wr, x.1.cell? ⟨gr, k * 5 + 4, none⟩ = some (.slice XD Xe Xf) := fun x => (HFX.out x.1 (HK.out.below x.2)).1 4 (by decide)
      have Ly0 : ∀ x : Gr wr, x.1.cell? ⟨gr, kp * 5, none⟩ = some (.int .i64 Yk) := fun x => (HFX.out x.1 (HK.out.below x.2)).2 0 (by decide)
      have Ly1 : ∀ x : Gr wr, x.1.cell? ⟨gr, kp * 5 + 1, none⟩ = some (.int .i64 Yn) := fun x => (HFX.out x.1 (HK.out.below x.2)).2 1 (by decide)
      have Ly2 : ∀ x : Gr wr, x.1.cell? ⟨gr, kp * 5 + 2, none⟩ = some (.string Ys) := fun x => (HFX.out x.1 (HK.out.below x.2)).2 2 (by decide)
      have Ly3 : ∀ x : Gr wr, x.1.cell? ⟨gr, kp * 5 + 3, none⟩ = some (.slice YA Yu Yc) := fun x => (HFX.out x.1 (HK.out.below x.2)).2 3 (by decide)
      have Ly4 : ∀ x : Gr wr, x.1.cell? ⟨gr, kp * 5 + 4, none⟩ = some (.slice YD Ye Yf) := fun x => (HFX.out x.1 (HK.out.below x.2)).2 4 (by decide)
      have HLT := Lib.hid hlt
      have HKP := Lib.hid hkp
      clear hkx hkpx hX hY hlt hkp
      go_upto_region 6 with (fail)
      refine wp_region_hyb [(0, true), (1, true), (2, true), (3, true), (4, true), (5, true), (6, true), (7, true), (8, true), (9, true), (10, false)] (by kernel_rfl) (by kernel_rfl) ?_
      iterate 10 (refine hyb_calm rfl (fun K hK => ?_); go_simp; refine hK _ ?_; clear hK K)
      clear Lx0 Lx1 Lx2 Lx3 Lx4 Ly0 Ly1 Ly2 Ly3 Ly4
      refine hyb_alone rfl (fun w2 hn2 K hK => ?_)
      go_simp
      refine (HCC.out w2).mono ?_; rintro e w3 ⟨rfl, hn3⟩
      refine hK _ _ hn3 ?_
      clear hK K
      refine hyb_nil (fun w4 hn4 => ?_)
      have HO4 := Lib.hid (HT.out.trans (Oth.nx (hn2.trans (hn3.trans hn4))))
      have HK4 := Lib.hid (HK.out.below (hn2.trans (hn3.trans hn4)))
      clear hn2 hn3 hn4 HT HK HCC HFX
      by_cases he : ky X = ky Y
      · have d1 : decide (ky X = ky Y) = true := decide_eq_true he
        have HON : Hid (Once (xs.take k) (xs.take (k + 1))) := by unfold Hid; rw [HTK.out]; exact (Once.self HP.out).keep HYM.out he
        have n1 : k ≤ c := by omega
        have n2 : ¬ c = k := by have := HLT.out; omega
        have n3 : k ≤ n := by omega
        have n4 : ¬ n = k := by have := HLT.out; omega
        have n5 : (k : Int) ≤ (c : Int) := by omega
        have n6 : (k : Int) ≤ (n : Int) := by omega
        obtain ⟨m, hm⟩ : ∃ m, n - k = m := ⟨_, rfl⟩
        have HM : Hid (n - k = m) := hm
        rw [d1]
        clear he
        go_wp2_with fail
        clear n1 n2 n3 n4 n5 n6
        have hki : (k : Int) ≤ (n : Int) := by omega
        have hmi : (m : Int) = (n : Int) - (k : Int) := by omega
        have HMI : Hid ((m : Int) = (n : Int) - (k : Int)) := hmi
        have hm100 : (m : Int) ≤ 100 := by omega
        have HM1 : Hid (1 ≤ m) := by unfold Hid; have := HLT.out; omega
        clear hm hmi d1
        go_loopw [5, 7] (fun x5 x7 wr => ∃ (kk k2 : Nat) (us : List ValS), x5 = .int .i64 (kk : Int) ∧ x7 = .int .i64 (k2 : Int) ∧ 1 ≤ k2 ∧ k2 ≤ m ∧ Hid (us.length = kk ∧ kk + 1 ≤ k + k2 ∧ Once us (xs.take (k + k2))) ∧ Hid (Blk wr B gr (rowL valA (us ++ xs.drop kk)).toArray 29) ∧ Hid (Oth gr w wr)) (fun _ x7 _ => (m - intOf x7).toNat)
        case atStart =>
          refine ⟨k, 1, xs.take k, rfl, rfl, Nat.le_refl _, HM1.out, ⟨by rw [List.length_take, HN.out]; omega, Nat.le_refl _, HON.out⟩, ?_, HO4.out⟩
          rw [List.take_append_drop]; exact HK4.out
        case round =>
          obtain ⟨kk, k2, us, rfl, rfl, h21, h2m, HU, HK5, HT5⟩ := hrel
          have hkkn : kk < n := by have := HU.out.2.1; have := HM.out; omega
          have hkk0 : (0 : Int) ≤ (kk : Int) := by omega
          have hkk1 : (kk : Int) < (n : Int) := by omega
          by_cases hl2 : k2 < m
          · have p1 : decide ((k2 : Int) < (m : Int)) = true := decide_eq_true (by omega)
            have p2 : (k2 : Int) < (m : Int) := by omega
            have p3 : (0 : Int) ≤ (k2 : Int) := by omega
            have p4 : decide (k2 < m) = true := decide_eq_true hl2
            have hqx : k + k2 < xs.length := by rw [HN.out]; have := HM.out; omega
            obtain ⟨kp2, hkp2⟩ : ∃ kp : Nat, kp + 1 = k2 := ⟨k2 - 1, by omega⟩
            have hkpx : k + kp2 < xs.length := by omega
            have hkpi2 : (k2 : Int) - 1 = (kp2 : Int) := by omega
            have hwk2 : IntKind.i64.wrap (kp2 : Int) = (kp2 : Int) := by rw [IntKind.wrap_i64]; omega
            have kp20 : (0 : Int) ≤ (kp2 : Int) := by omega
            have kp21 : (kp2 : Int) < (m : Int) := by omega
            obtain ⟨X, hX⟩ : ∃ X, xs[k + k2] = X := ⟨_, rfl⟩
            obtain ⟨Y, hY⟩ : ∃ Y, xs[k + kp2] = Y := ⟨_, rfl⟩
            have HXY : Hid (OkS X ∧ OkS Y) := ⟨hX ▸ HOK.out _ (List.getElem_mem _), hY ▸ HOK.out _ (List.getElem_mem _)⟩
            have HTK2 : Hid (xs.take (k + (k2 + 1)) = xs.take (k + k2) ++ [X]) := by unfold Hid; rw [← Nat.add_assoc, List.take_succ_eq_append_getElem hqx, hX]
            have HYM2 : Hid (Y ∈ xs.take (k + k2)) := by
              unfold Hid
              rw [← hY]
              exact List.mem_iff_getElem.2 ⟨k + kp2, by rw [List.length_take]; omega, by rw [List.getElem_take]⟩
            have HLE2 : Hid (ky Y ≤ ky X ∧ ∀ y ∈ xs.take (k + k2), ky y ≤ ky Y) := by
              have e : xs[k + k2 - 1]'(by omega) = Y := by rw [← hY]; congr 1; omega
              have a := up_le HS.out hqx (by omega)
              have b := upto_le HS.out hqx (by omega)
              rw [e] at a b
              rw [hX] at a
              exact ⟨a, b⟩
            have HCC : Hid (∀ wx, Calls Try.prog 24 #[.agg (valA X), .agg (valA Y)] wx fun e w' => e = .returned (.bool (decide (ky X = ky Y))) ∧ Nx wx w') := fun wx => eq_any HXY.out.1 HXY.out.2 wx
            have HLEN : Hid (k + k2 < (us ++ xs.drop kk).length ∧ k + kp2 < (us ++ xs.drop kk).length ∧ kk < (us ++ xs.drop kk).length) := by
              have := HU.out.1; have := HU.out.2.1
              unfold Hid
              rw [List.length_append, List.length_drop]; omega
            have HGX : Hid ((us ++ xs.drop kk)[k + k2]'HLEN.out.1 = X ∧ (us ++ xs.drop kk)[k + kp2]'HLEN.out.2.1 = Y) := by
              have := HU.out.1; have := HU.out.2.1
              refine ⟨?_, ?_⟩
              · rw [List.getElem_append_right (by omega), List.getElem_drop, ← hX]; congr 1; omega
              · rw [List.getElem_append_right (by omega), List.getElem_drop, ← hY]; congr 1; omega
            have HFX : Hid (∀ wx, Blk wx B gr (rowL valA (us ++ xs.drop kk)).toArray 29 → (∀ q, q < 5 → wx.cell? ⟨gr, k * 5 + k2 * 5 + q, none⟩ = (valA X)[q]?) ∧ ∀ q, q < 5 → wx.cell? ⟨gr, k * 5 + kp2 * 5 + q, none⟩ = (valA Y)[q]?) := fun wx hb =>
              ⟨fun q hq => by rw [← Nat.add_mul, hb.rcell HLEN.out.1 hq, HGX.out.1], fun q hq => by rw [← Nat.add_mul, hb.rcell HLEN.out.2.1 hq, HGX.out.2]⟩
            obtain ⟨⟨XA, Xu, Xc, hXl⟩, ⟨XD, Xe, Xf, hXd⟩⟩ := HXY.out.1.slv
            have HVX : Hid (valA X = #[.int .i64 (X.k : Int), .int .i64 X.n, .string ⟨X.s.toArray⟩, .slice XA Xu Xc, .slice XD Xe Xf]) := by unfold Hid valA; rw [hXl, hXd]
            obtain ⟨⟨YA, Yu, Yc, hYl⟩, ⟨YD, Ye, Yf, hYd⟩⟩ := HXY.out.2.slv
            have HVY : Hid (valA Y = #[.int .i64 (Y.k : Int), .int .i64 Y.n, .string ⟨Y.s.toArray⟩, .slice YA Yu Yc, .slice YD Ye Yf]) := by unfold Hid valA; rw [hYl, hYd]
            rw [HVX.out, HVY.out] at HFX HCC
            obtain ⟨Xk, hXk⟩ : ∃ k, (X.k : Int) = k := ⟨_, rfl⟩
            obtain ⟨Xn, hXn⟩ : ∃ k, X.n = k := ⟨_, rfl⟩
            obtain ⟨Xs, hXs⟩ : ∃ s, ByteArray.mk X.s.toArray = s := ⟨_, rfl⟩
            rw [hXk, hXn, hXs] at HVX HFX HCC
            clear hXk hXn hXs hXl hXd
            obtain ⟨Yk, hYk⟩ : ∃ k, (Y.k : Int) = k := ⟨_, rfl⟩
            obtain ⟨Yn, hYn⟩ : ∃ k, Y.n = k := ⟨_, rfl⟩
            obtain ⟨Ys, hYs⟩ : ∃ s, ByteArray.mk Y.s.toArray = s := ⟨_, rfl⟩
            rw [hYk, hYn, hYs] at HVY HFX HCC
            clear hYk hYn hYs hYl hYd
            have Lx0 : ∀ x : Gr wr, x.1.cell? ⟨gr, k * 5 + k2 * 5, none⟩ = some (.int .i64 Xk) := fun x => (HFX.out x.1 (HK5.out.below x.2)).1 0 (by decide)
            have Lx1 : ∀ x : Gr wr, x.1.cell? ⟨gr, k * 5 + k2 * 5 + 1, none⟩ = some (.int .i64 Xn) := fun x => (HFX.out x.1 (HK5.out.below x.2)).1 1 (by decide)
            have Lx2 : ∀ x : Gr wr, x.1.cell? ⟨gr, k * 5 + k2 * 5 + 2, none⟩ = some (.string Xs) := fun x => (HFX.out x.1 (HK5.out.below x.2)).1 2 (by decide)
            have Lx3 : ∀ x : Gr wr, x.1.cell? ⟨gr, k * 5 + k2 * 5 + 3, none⟩ = some (.slice XA Xu Xc) := fun x => (HFX.out x.1 (HK5.out.below x.2)).1 3 (by decide)
            have Lx4 : ∀ x : Gr wr, x.1.cell? ⟨gr, k * 5 + k2 * 5 + 4, none⟩ = some (.slice XD Xe Xf) := fun x => (HFX.out x.1 (HK5.out.below x.2)).1 4 (by decide)
            have Ly0 : ∀ x : Gr wr, x.1.cell? ⟨gr, k * 5 + kp2 * 5, none⟩ = some (.int .i64 Yk) := fun x => (HFX.out x.1 (HK5.out.below x.2)).2 0 (by decide)
            have Ly1 : ∀ x : Gr wr, x.1.cell? ⟨gr, k * 5 + kp2 * 5 + 1, none⟩ = some (.int .i64 Yn) := fun x => (HFX.out x.1 (HK5.out.below x.2)).2 1 (by decide)
            have Ly2 : ∀ x : Gr wr, x.1.cell? ⟨gr, k * 5 + kp2 * 5 + 2, none⟩ = some (.string Ys) := fun x => (HFX.out x.1 (HK5.out.below x.2)).2 2 (by decide)
            have Ly3 : ∀ x : Gr wr, x.1.cell? ⟨gr, k * 5 + kp2 * 5 + 3, none⟩ = some (.slice YA Yu Yc) := fun x => (HFX.out x.1 (HK5.out.below x.2)).2 3 (by decide)
            have Ly4 : ∀ x : Gr wr, x.1.cell? ⟨gr, k * 5 + kp2 * 5 + 4, none⟩ = some (.slice YD Ye Yf) := fun x => (HFX.out x.1 (HK5.out.below x.2)).2 4 (by decide)
            have HL2 := Lib.hid hl2
            have HKP2 := Lib.hid hkp2
            clear hqx hkpx hX hY hl2 hkp2
            go_upto_region 11 with (fail)
            refine wp_region_hyb [(0, true), (1, true), (2, true), (3, true), (4, true), (5, true), (6, true), (7, true), (8, true), (9, true), (10, false), (11, true)] (by kernel_rfl) (by kernel_rfl) ?_
            iterate 10 (refine hyb_calm rfl (fun K hK => ?_); go_simp; refine hK _ ?_; clear hK K)
            clear Lx0 Lx1 Lx2 Lx3 Lx4 Ly0 Ly1 Ly2 Ly3 Ly4
            refine hyb_alone rfl (fun w5 hn5 K hK => ?_)
            go_simp
            refine (HCC.out w5).mono ?_; rintro e w6 ⟨rfl, hn6⟩
            refine hK _ _ hn6 ?_
            clear hK K
            by_cases he2 : ky X = ky Y
            · have d1 : decide (ky X = ky Y) = true := decide_eq_true he2
              have HON2 : Hid (Once us (xs.take (k + (k2 + 1)))) := by unfold Hid; rw [HTK2.out]; exact HU.out.2.2.keep HYM2.out he2
              rw [d1]
              clear he2
              refine hyb_calm rfl (fun K hK => ?_); go_simp; refine hK _ ?_; clear hK K
              refine hyb_nil (fun w7 hn7 => ?_)
              have HO7 := Lib.hid (HT5.out.trans (Oth.nx (hn5.trans (hn6.trans hn7))))
              have HK7 := Lib.hid (HK5.out.below (hn5.trans (hn6.trans hn7)))
              clear hn5 hn6 hn7 HT5 HK5 HCC HFX d1
              go_wp2_with fail
              go_roundw
              case rel => exact ⟨kk, k2 + 1, us, rfl, by go_num, by omega, HL2.out, ⟨HU.out.1, by have := HU.out.2.1; omega, HON2.out⟩, HK7.out, HO7.out⟩
              case measure => have := HL2.out; simp [intOf]; omega
            · have d1 : decide (ky X = ky Y) = false := decide_eq_false he2
              have HON2 : Hid (Once (us ++ [X]) (xs.take (k + (k2 + 1)))) := by
                unfold Hid; rw [HTK2.out]
                exact HU.out.2.2.more fun y hy => by have := HLE2.out.2 y hy; have := HLE2.out.1; omega
              rw [d1]
              clear he2
              refine hyb_calm rfl (fun K hK => ?_); go_simp; refine hK _ ?_; clear hK K
              refine hyb_nil (fun w7 hn7 => ?_)
              have HO7 := Lib.hid (HT5.out.trans (Oth.nx (hn5.trans (hn6.trans hn7))))
              have HK7 := Lib.hid (HK5.out.below (hn5.trans (hn6.trans hn7)))
              have fx := (HFX.out w7 HK7.out).1
              have x0 := fx 0 (by decide)
              have x1 := fx 1 (by decide)
              have x2 := fx 2 (by decide)
              have x3 := fx 3 (by decide)
              have x4 := fx 4 (by decide)
              simp only [Nat.add_zero, List.getElem?_toArray, List.getElem?_cons_zero, List.getElem?_cons_succ] at x0 x1 x2 x3 x4
              obtain ⟨z0, hz0⟩ : ∃ z, w7.cell? ⟨gr, kk * 5, none⟩ = some z := ⟨_, HK7.out.rcell HLEN.out.2.2 (j := 0) (by decide)⟩
              have f0 := HK7.out.free (kk * 5)
              obtain ⟨z1, hz1⟩ : ∃ z, w7.cell? ⟨gr, kk * 5 + 1, none⟩ = some z := ⟨_, HK7.out.rcell HLEN.out.2.2 (j := 1) (by decide)⟩
              have f1 := HK7.out.free (kk * 5 + 1)
              obtain ⟨z2, hz2⟩ : ∃ z, w7.cell? ⟨gr, kk * 5 + 2, none⟩ = some z := ⟨_, HK7.out.rcell HLEN.out.2.2 (j := 2) (by decide)⟩
              have f2 := HK7.out.free (kk * 5 + 2)
              obtain ⟨z3, hz3⟩ : ∃ z, w7.cell? ⟨gr, kk * 5 + 3, none⟩ = some z := ⟨_, HK7.out.rcell HLEN.out.2.2 (j := 3) (by decide)⟩
              have f3 := HK7.out.free (kk * 5 + 3)
              obtain ⟨z4, hz4⟩ : ∃ z, w7.cell? ⟨gr, kk * 5 + 4, none⟩ = some z := ⟨_, HK7.out.rcell HLEN.out.2.2 (j := 4) (by decide)⟩
              have f4 := HK7.out.free (kk * 5 + 4)
              have HST : Hid (Blk (wputs w7 gr (kk * 5) [.int .i64 Xk, .int .i64 Xn, .string Xs, .slice XA Xu Xc, .slice XD Xe Xf]) B gr (rowL valA ((us ++ [X]) ++ xs.drop (kk + 1))).toArray 29) := by
                have h := HK7.out.row HLEN.out.2.2 X
                have hkx : kk < xs.length := by rw [HN.out]; omega
                rw [List.set_append, if_neg (by have := HU.out.1; omega), HU.out.1, Nat.sub_self, List.drop_eq_getElem_cons hkx, List.set_cons_zero, HVX.out] at h
                unfold Hid
                rw [List.append_assoc]
                exact h
              have HO8 : Hid (Oth gr w (wputs w7 gr (kk * 5) [.int .i64 Xk, .int .i64 Xn, .string Xs, .slice XA Xu Xc, .slice XD Xe Xf])) := Oth.owns _ _ HO7.out
              clear hn5 hn6 hn7 HT5 HK5 HCC HFX d1 fx
              go_upto_region 13 with (fail)
              change Code.wp _ _ _ _ (wputs w7 gr (kk * 5) [.int .i64 Xk, .int .i64 Xn, .string Xs, .slice XA Xu Xc, .slice XD Xe Xf])
              clear x0 hz0 f0 x1 hz1 f1 x2 hz2 f2 x3 hz3 f3 x4 hz4 f4
              generalize wputs w7 gr (kk * 5) [.int .i64 Xk, .int .i64 Xn, .string Xs, .slice XA Xu Xc, .slice XD Xe Xf] = w8 at *
              go_wp2_with fail
              go_roundw
              case rel => exact ⟨kk + 1, k2 + 1, us ++ [X], by go_num, by go_num, by omega, HL2.out, ⟨by rw [List.length_append, HU.out.1]; rfl, by have := HU.out.2.1; omega, HON2.out⟩, HST.out, HO8.out⟩
              case measure => have := HL2.out; simp [intOf]; omega
          · have p1 : decide ((k2 : Int) < (m : Int)) = false := decide_eq_false (by omega)
            have p2 : ¬ (k2 : Int) < (m : Int) := by omega
            have p4 : decide (k2 < m) = false := decide_eq_false hl2
            obtain rfl : k2 = m := by omega
            have HOE : Hid (Once us xs) := by
              have := HU.out.2.2
              rwa [List.take_of_length_le (by rw [HN.out]; have := HM.out; omega)] at this
            have n1 : kk ≤ c := by omega
            have n2 : ¬ c = kk := by omega
            have n3 : kk ≤ n := by omega
            have n4 : ¬ n = kk := by omega
            have n5 : (kk : Int) ≤ (c : Int) := by omega
            have n6 : (kk : Int) ≤ (n : Int) := by omega
            obtain ⟨m2, hm2⟩ : ∃ m, n - kk = m := ⟨_, rfl⟩
            obtain ⟨d2, hd2⟩ : ∃ m, c - kk = m := ⟨_, rfl⟩
            have hlen : (rowL valA (us ++ xs.drop kk)).length = n * 5 := by
              rw [rowL_length valA_size, List.length_append, List.length_drop, HU.out.1, HN.out]; omega
            have hcl : ∀ ty, (Builtin.clear_ #[25] ty #[.slice (some ⟨gr, kk * 5, none⟩) m2 d2]).run Try.prog wr = .ok (.tuple #[]) (wputs wr gr (kk * 5) (rowL valA (List.replicate m2 zeroS))) := fun ty =>
              run_clear5 wr ty gr (kk * 5) m2 d2 (by omega) (fun j hj => by
                rw [HK5.out.cell, Option.isSome_iff_exists]
                exact ⟨_, Array.getElem?_eq_getElem (show kk * 5 + j < (rowL valA (us ++ xs.drop kk)).toArray.size by simp only [List.size_toArray]; rw [hlen]; omega)⟩) (fun j _ => HK5.out.free _)
            have HRD : Hid (RdO (wputs wr gr (kk * 5) (rowL valA (List.replicate m2 zeroS))) (some ⟨gr, 0, none⟩) us) := by
              intro h0
              have hb := HK5.out.puts (rowL valA (List.replicate m2 zeroS)) (kk * 5)
              refine ⟨gr, 0, rfl, hb.lt, fun i hi j hj => ?_⟩
              rw [hb.cell, putC_get, if_neg (by have := HU.out.1; omega)]
              have := HK5.out.rcell (i := i) (by rw [List.length_append]; omega) hj
              rw [HK5.out.cell] at this
              rw [Nat.zero_add, this, List.getElem_append_left hi]
            have HOX : Hid (Oth gr w (wputs wr gr (kk * 5) (rowL valA (List.replicate m2 zeroS)))) := Oth.owns _ _ HT5.out
            clear hlen hl2 HK5 HT5
            generalize wputs wr gr (kk * 5) (rowL valA (List.replicate m2 zeroS)) = w8 at *
            go_wp2_with fail
            go_ret
            exact ⟨us, by rw [HU.out.1]; rfl, HOE.out, HRD.out, HOX.out⟩
      · have d1 : decide (ky X = ky Y) = false := decide_eq_false he
        have HPN : Hid ((xs.take (k + 1)).Pairwise (fun a b => ky a < ky b)) := by
          unfold Hid; rw [HTK.out]
          refine List.pairwise_append.2 ⟨HP.out, List.pairwise_singleton _ _, fun a ha b hb => ?_⟩
          rw [List.mem_singleton.1 hb]
          have := HLE.out.2 a ha
          have := HLE.out.1
          omega
        rw [d1]
        clear he
        go_wp2_with fail
        go_roundw
        case rel => exact ⟨k + 1, by go_num, by omega, HLT.out, HPN.out, HK4.out, HO4.out⟩
        case measure => have := HLT.out; simp [intOf]; omega
    · have q1 : decide ((k : Int) < (n : Int)) = false := decide_eq_false (by omega)
      have q2 : ¬ (k : Int) < (n : Int) := by omega
      have q4 : decide (k < n) = false := decide_eq_false hlt
      obtain rfl : k = n := by omega
      clear hlt
      have HO : Hid (Once xs xs) := Once.self (by have := HP.out; rwa [List.take_of_length_le (by rw [HN.out]; exact Nat.le_refl _)] at this)
      go_wp2_with fail
      go_ret
      exact ⟨xs, by rw [HN.out]; rfl, HO.out, RdO.blk' HK.out, HT.out⟩

end Go.Proofs.Ytjeadmndnbggmaa
