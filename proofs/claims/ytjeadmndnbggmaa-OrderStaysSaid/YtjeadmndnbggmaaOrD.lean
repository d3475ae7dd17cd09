/- The contract of order.Cmp, for values without fields. -/
import Derived.Test.YtjeadmndnbggmaaOrC
import Derived.Test.YtjeadmndnbggmaaOrS
import Derived.Deep.DeepCutAuto
set_option linter.unusedVariables false
set_option linter.unusedSimpArgs false
namespace Go.Proofs.Ytjeadmndnbggmaa
open Go.RowKit

set_option maxRecDepth 100000 in
set_option maxHeartbeats 12800000 in
theorem cmp_step (n : Nat) (ih : CmpC n) : CmpC (n + 1) := by
  intro w x y A B hx hy okA okB
  obtain ⟨k, a, s, l, d⟩ := A
  obtain ⟨k', a', s', m, f⟩ := B
  obtain ⟨xk, xn, xs, xl, xd⟩ := x
  obtain ⟨yk, yn, ys, yl, yd⟩ := y
  obtain ⟨h1, h2, h3, hl, hd⟩ := hx
  dsimp only at h1 h2 h3 hl hd
  subst h1 h2 h3
  obtain ⟨h1, h2, h3, hl', hd'⟩ := hy
  dsimp only at h1 h2 h3 hl' hd'
  subst h1 h2 h3
  obtain ⟨hk, h12, hxn, -, hokl⟩ := okA
  obtain ⟨hk', -, hyn, -, hokm⟩ := okB
  obtain ⟨dA, dc, rfl, hd1, hd2, hd3⟩ := hd
  obtain ⟨fA, fc, rfl, hf1, hf2, hf3⟩ := hd'
  have hv1 : ∃ A c, xl = .slice A l.length c := by obtain ⟨A, c, _, e, -⟩ := hl; exact ⟨A, c, e⟩
  have hv2 : ∃ A c, yl = .slice A m.length c := by obtain ⟨A, c, _, e, -⟩ := hl'; exact ⟨A, c, e⟩
  obtain ⟨lA, lc, rfl⟩ := hv1
  obtain ⟨mA, mc, rfl⟩ := hv2
  rw [valA_agg, valA_agg]
  simp only
  have HT : Hid (cmpV (n + 1) (.mk xk xn xs l d) (.mk yk yn ys m f) = if xk ≠ yk then cmpI xk yk
    else if intK xk = true then cmpI xn yn
    else if xk = 4 then cmpI (xn % 18446744073709551616) (yn % 18446744073709551616)
    else if strK xk = true then cmpB xs ys
    else if lstK xk = true then cmpL (cmpV n) l m
    else if xk = 12 then cmpF (cmpV n) d l f m
    else 0) := rfl
  obtain ⟨R, hR⟩ : ∃ R, cmpV (n + 1) (.mk xk xn xs l d) (.mk yk yn ys m f) = R := ⟨_, rfl⟩
  rw [hR] at HT ⊢
  obtain ⟨L, hL⟩ : ∃ L, l.length = L := ⟨_, rfl⟩
  obtain ⟨M, hM⟩ : ∃ M, m.length = M := ⟨_, rfl⟩
  obtain ⟨D, hD⟩ : ∃ D, d.length = D := ⟨_, rfl⟩
  obtain ⟨F, hF⟩ : ∃ F, f.length = F := ⟨_, rfl⟩
  rw [hL] at hl ⊢
  rw [hM] at hl' ⊢
  rw [hD, hF]
  have HL := Lib.hid hl
  have HM := Lib.hid hl'
  have HO : Hid ((∀ x ∈ l, okV n x) ∧ ∀ x ∈ m, okV n x) := ⟨hokl, hokm⟩
  have HB : Hid ((-9223372036854775808 ≤ xn ∧ xn ≤ 9223372036854775807) ∧ -9223372036854775808 ≤ yn ∧ yn ≤ 9223372036854775807) := ⟨hxn, hyn⟩
  have HK : Hid (xk < 32 ∧ yk < 32 ∧ xk ≠ 12) := ⟨hk, hk', h12⟩
  clear hl hl' hokl hokm hxn hyn hk hk' h12 hR hL hM hD hF hd1 hd2 hd3 hf1 hf2 hf3
  obtain ⟨g1, hg1⟩ : ∃ g, w.heap.size = g := ⟨_, rfl⟩
  obtain ⟨w1, hw1⟩ : ∃ x, w.alloc (.cells #[.int .i64 (xk : Int), .int .i64 xn, .string ⟨xs.toArray⟩, .slice lA L lc, .slice dA D dc] 29) = x := ⟨_, rfl⟩
  have hb1 : Blk w1 g1 g1 #[.int .i64 (xk : Int), .int .i64 xn, .string ⟨xs.toArray⟩, .slice lA L lc, .slice dA D dc] 29 := by rw [← hw1, ← hg1]; exact Blk.new w _ _
  have hn1 : Nx w w1 := by rw [← hw1]; exact nx0 _ _
  obtain ⟨g2, hg2⟩ : ∃ g, w1.heap.size = g := ⟨_, rfl⟩
  obtain ⟨w2, hw2⟩ : ∃ x, w1.alloc (.cells #[.int .i64 (yk : Int), .int .i64 yn, .string ⟨ys.toArray⟩, .slice mA M mc, .slice fA F fc] 29) = x := ⟨_, rfl⟩
  have hb2 : Blk w2 g2 g2 #[.int .i64 (yk : Int), .int .i64 yn, .string ⟨ys.toArray⟩, .slice mA M mc, .slice fA F fc] 29 := by rw [← hw2, ← hg2]; exact Blk.new w1 _ _
  have hn2 : Nx w1 w2 := by rw [← hw2]; exact nx0 _ _
  have HB1 := Lib.hid (hb1.below hn2)
  have HB2 := Lib.hid hb2
  have HN2 := Lib.hid (hn1.trans hn2)
  have a0 : w2.cell? ⟨g1, 0, none⟩ = some (.int .i64 (xk : Int)) := HB1.out.cell 0
  have a1 : w2.cell? ⟨g1, 1, none⟩ = some (.int .i64 xn) := HB1.out.cell 1
  have a2 : w2.cell? ⟨g1, 2, none⟩ = some (.string ⟨xs.toArray⟩) := HB1.out.cell 2
  have a3 : w2.cell? ⟨g1, 3, none⟩ = some (.slice lA L lc) := HB1.out.cell 3
  have a4 : w2.cell? ⟨g1, 4, none⟩ = some (.slice dA D dc) := HB1.out.cell 4
  have b0 : w2.cell? ⟨g2, 0, none⟩ = some (.int .i64 (yk : Int)) := HB2.out.cell 0
  have b1 : w2.cell? ⟨g2, 1, none⟩ = some (.int .i64 yn) := HB2.out.cell 1
  have b2 : w2.cell? ⟨g2, 2, none⟩ = some (.string ⟨ys.toArray⟩) := HB2.out.cell 2
  have b3 : w2.cell? ⟨g2, 3, none⟩ = some (.slice mA M mc) := HB2.out.cell 3
  have b4 : w2.cell? ⟨g2, 4, none⟩ = some (.slice fA F fc) := HB2.out.cell 4
  clear hb1 hn1 hb2 hn2
  go_enter Try.func8, Try.ntmps8
  go_wp2_with fail
  clear hw1 hg1 hw2 hg2
  refine (cmpi_any w2 (xk : Int) (yk : Int)).mono ?_; rintro e w' ⟨rfl, hw⟩; obtain rfl := hw.symm
  by_cases e1 : xk = yk
  case neg =>
    obtain rfl : cmpI xk yk = R := by rw [HT.out, if_pos e1]
    have q1 : (cmpI (xk : Int) (yk : Int) == 0) = false := by rw [beq_eq_false_iff_ne]; intro h; exact e1 (by have := cmpI_eq.1 h; omega)
    clear HT e1
    go_wp2_with fail
    go_ret
    exact ⟨rfl, HN2.out⟩
  subst e1
  rw [show cmpI (xk : Int) (xk : Int) = 0 from cmpI_self _]
  have HT1 : Hid (R = if intK xk = true then cmpI xn yn
    else if xk = 4 then cmpI (xn % 18446744073709551616) (yn % 18446744073709551616)
    else if strK xk = true then cmpB xs ys
    else if lstK xk = true then cmpL (cmpV n) l m
    else if xk = 12 then cmpF (cmpV n) d l f m
    else 0) := HT.out.trans (if_neg fun h => h rfl)
  clear HT
  have i1 := in_any w2 132444 xk (intK xk || decide (xk = 4)) (by decide) HK.out.1 (in_num ⟨xk, HK.out.1⟩)
  have i2 := in_any w2 67584 xk (strK xk) (by decide) HK.out.1 (in_str ⟨xk, HK.out.1⟩)
  have i3 := in_any w2 57344 xk (lstK xk) (by decide) HK.out.1 (in_lst ⟨xk, HK.out.1⟩)
  have i4 := in_any w2 4096 xk (decide (xk = 12)) (by decide) HK.out.1 (in_stc ⟨xk, HK.out.1⟩)
  rw [decide_eq_false HK.out.2.2] at i4
  have I2 := Lib.hid i2
  have I3 := Lib.hid i3
  have I4 := Lib.hid i4
  clear i2 i3 i4
  by_cases hi : intK xk = true
  case pos =>
    rw [hi, Bool.true_or] at i1
    obtain rfl : cmpI xn yn = R := by rw [HT1.out, if_pos hi]
    have HN4 : Hid (xk ≠ 4) := (intK_lt hi).2.2.1
    have I1 := Lib.hid i1
    clear HT1 hi i1 I2 I3 I4
    go_wp2_with fail
    refine I1.out.mono ?_; rintro e w' ⟨rfl, hw⟩; obtain rfl := hw.symm
    go_upto_region 5 with (fail)
    have La0 : ∀ x : Gr w2, x.1.cell? ⟨g1, 0, none⟩ = some (.int .i64 (xk : Int)) := fun x => (HB1.out.below x.2).cell 0
    have La1 : ∀ x : Gr w2, x.1.cell? ⟨g1, 1, none⟩ = some (.int .i64 xn) := fun x => (HB1.out.below x.2).cell 1
    have La2 : ∀ x : Gr w2, x.1.cell? ⟨g1, 2, none⟩ = some (.string ⟨xs.toArray⟩) := fun x => (HB1.out.below x.2).cell 2
    have La3 : ∀ x : Gr w2, x.1.cell? ⟨g1, 3, none⟩ = some (.slice lA L lc) := fun x => (HB1.out.below x.2).cell 3
    have La4 : ∀ x : Gr w2, x.1.cell? ⟨g1, 4, none⟩ = some (.slice dA D dc) := fun x => (HB1.out.below x.2).cell 4
    have Lb0 : ∀ x : Gr w2, x.1.cell? ⟨g2, 0, none⟩ = some (.int .i64 (xk : Int)) := fun x => (HB2.out.below x.2).cell 0
    have Lb1 : ∀ x : Gr w2, x.1.cell? ⟨g2, 1, none⟩ = some (.int .i64 yn) := fun x => (HB2.out.below x.2).cell 1
    have Lb2 : ∀ x : Gr w2, x.1.cell? ⟨g2, 2, none⟩ = some (.string ⟨ys.toArray⟩) := fun x => (HB2.out.below x.2).cell 2
    have Lb3 : ∀ x : Gr w2, x.1.cell? ⟨g2, 3, none⟩ = some (.slice mA M mc) := fun x => (HB2.out.below x.2).cell 3
    have Lb4 : ∀ x : Gr w2, x.1.cell? ⟨g2, 4, none⟩ = some (.slice fA F fc) := fun x => (HB2.out.below x.2).cell 4
    refine wp_region_hyb [(0, true), (2, true), (1, false), (3, false), (4, false), (5, true)] (by kernel_rfl) (by kernel_rfl) ?_
    iterate 2 (refine hyb_calm rfl (fun K hK => ?_); go_simp; refine hK _ ?_; clear hK K)
    clear La0 La1 La2 La3 La4 Lb0 Lb1 Lb2 Lb3 Lb4
    refine hyb_alone rfl (fun w3 hn3 K hK => ?_)
    go_simp
    refine (rank_any w3 ⟨xk, xn, xs, .slice lA L lc, .slice dA D dc⟩ HB.out.1 HN4.out).mono ?_; rintro e w4 ⟨rfl, hn4⟩
    refine hK _ _ hn4 ?_
    clear hK K
    refine hyb_alone rfl (fun w5 hn5 K hK => ?_)
    go_simp
    refine (rank_any w5 ⟨xk, yn, ys, .slice mA M mc, .slice fA F fc⟩ HB.out.2 HN4.out).mono ?_; rintro e w6 ⟨rfl, hn6⟩
    refine hK _ _ hn6 ?_
    clear hK K
    refine hyb_alone rfl (fun w7 hn7 K hK => ?_)
    go_simp
    refine (cmpu_any w7 (xn + 9223372036854775808) (yn + 9223372036854775808)).mono ?_; rintro e w8 ⟨rfl, hw⟩; obtain rfl := hw.symm
    refine hK _ _ (Nx.refl _) ?_
    clear hK K
    refine hyb_calm rfl (fun K hK => ?_); go_simp; refine hK _ ?_; clear hK K
    refine hyb_nil (fun w9 hn9 => ?_)
    have HN9 := Lib.hid (HN2.out.trans (hn3.trans (hn4.trans (hn5.trans (hn6.trans (hn7.trans hn9))))))
    have HE : Hid (cmpI (xn + 9223372036854775808) (yn + 9223372036854775808) = cmpI xn yn) := by
      unfold Hid cmpI
      by_cases h1 : xn < yn
      · rw [if_pos h1, if_pos (by omega)]
      · rw [if_neg h1, if_neg (by omega)]
        by_cases h2 : yn < xn
        · rw [if_pos h2, if_pos (by omega)]
        · rw [if_neg h2, if_neg (by omega)]
    rw [HE.out]
    clear hn3 hn4 hn5 hn6 hn7 hn9 HE
    go_wp2_with fail
    go_ret
    exact ⟨rfl, HN9.out⟩
  have HT2 : Hid (R = if xk = 4 then cmpI (xn % 18446744073709551616) (yn % 18446744073709551616)
    else if strK xk = true then cmpB xs ys
    else if lstK xk = true then cmpL (cmpV n) l m
    else if xk = 12 then cmpF (cmpV n) d l f m
    else 0) := HT1.out.trans (if_neg hi)
  rw [Bool.eq_false_iff.2 hi, Bool.false_or] at i1
  clear HT1 hi
  by_cases h4 : xk = 4
  case pos =>
    obtain rfl : cmpI (xn % 18446744073709551616) (yn % 18446744073709551616) = R := by rw [HT2.out, if_pos h4]
    rw [decide_eq_true h4] at i1
    have HN4 : Hid (xk = 4) := h4
    have I1 := Lib.hid i1
    clear HT2 i1 h4 I2 I3 I4
    go_wp2_with fail
    refine I1.out.mono ?_; rintro e w' ⟨rfl, hw⟩; obtain rfl := hw.symm
    go_upto_region 5 with (fail)
    have La0 : ∀ x : Gr w2, x.1.cell? ⟨g1, 0, none⟩ = some (.int .i64 (xk : Int)) := fun x => (HB1.out.below x.2).cell 0
    have La1 : ∀ x : Gr w2, x.1.cell? ⟨g1, 1, none⟩ = some (.int .i64 xn) := fun x => (HB1.out.below x.2).cell 1
    have La2 : ∀ x : Gr w2, x.1.cell? ⟨g1, 2, none⟩ = some (.string ⟨xs.toArray⟩) := fun x => (HB1.out.below x.2).cell 2
    have La3 : ∀ x : Gr w2, x.1.cell? ⟨g1, 3, none⟩ = some (.slice lA L lc) := fun x => (HB1.out.below x.2).cell 3
    have La4 : ∀ x : Gr w2, x.1.cell? ⟨g1, 4, none⟩ = some (.slice dA D dc) := fun x => (HB1.out.below x.2).cell 4
    have Lb0 : ∀ x : Gr w2, x.1.cell? ⟨g2, 0, none⟩ = some (.int .i64 (xk : Int)) := fun x => (HB2.out.below x.2).cell 0
    have Lb1 : ∀ x : Gr w2, x.1.cell? ⟨g2, 1, none⟩ = some (.int .i64 yn) := fun x => (HB2.out.below x.2).cell 1
    have Lb2 : ∀ x : Gr w2, x.1.cell? ⟨g2, 2, none⟩ = some (.string ⟨ys.toArray⟩) := fun x => (HB2.out.below x.2).cell 2
    have Lb3 : ∀ x : Gr w2, x.1.cell? ⟨g2, 3, none⟩ = some (.slice mA M mc) := fun x => (HB2.out.below x.2).cell 3
    have Lb4 : ∀ x : Gr w2, x.1.cell? ⟨g2, 4, none⟩ = some (.slice fA F fc) := fun x => (HB2.out.below x.2).cell 4
    refine wp_region_hyb [(0, true), (2, true), (1, false), (3, false), (4, false), (5, true)] (by kernel_rfl) (by kernel_rfl) ?_
    iterate 2 (refine hyb_calm rfl (fun K hK => ?_); go_simp; refine hK _ ?_; clear hK K)
    clear La0 La1 La2 La3 La4 Lb0 Lb1 Lb2 Lb3 Lb4
    refine hyb_alone rfl (fun w3 hn3 K hK => ?_)
    go_simp
    refine (rank4_any w3 ⟨xk, xn, xs, .slice lA L lc, .slice dA D dc⟩ HN4.out).mono ?_; rintro e w4 ⟨rfl, hn4⟩
    refine hK _ _ hn4 ?_
    clear hK K
    refine hyb_alone rfl (fun w5 hn5 K hK => ?_)
    go_simp
    refine (rank4_any w5 ⟨xk, yn, ys, .slice mA M mc, .slice fA F fc⟩ HN4.out).mono ?_; rintro e w6 ⟨rfl, hn6⟩
    refine hK _ _ hn6 ?_
    clear hK K
    refine hyb_alone rfl (fun w7 hn7 K hK => ?_)
    go_simp
    refine (cmpu_any w7 (xn % 18446744073709551616) (yn % 18446744073709551616)).mono ?_; rintro e w8 ⟨rfl, hw⟩; obtain rfl := hw.symm
    refine hK _ _ (Nx.refl _) ?_
    clear hK K
    refine hyb_calm rfl (fun K hK => ?_); go_simp; refine hK _ ?_; clear hK K
    refine hyb_nil (fun w9 hn9 => ?_)
    have HN9 := Lib.hid (HN2.out.trans (hn3.trans (hn4.trans (hn5.trans (hn6.trans (hn7.trans hn9))))))
    clear hn3 hn4 hn5 hn6 hn7 hn9
    go_wp2_with fail
    go_ret
    exact ⟨rfl, HN9.out⟩
  have HT3 : Hid (R = if strK xk = true then cmpB xs ys
    else if lstK xk = true then cmpL (cmpV n) l m
    else if xk = 12 then cmpF (cmpV n) d l f m
    else 0) := HT2.out.trans (if_neg h4)
  rw [decide_eq_false h4] at i1
  have I1 := Lib.hid i1
  clear HT2 h4 i1
  by_cases hs : strK xk = true
  case pos =>
    have i2 := I2.out
    rw [hs] at i2
    obtain rfl : cmpB xs ys = R := by rw [HT3.out, if_pos hs]
    have I2' := Lib.hid i2
    clear HT3 i2 hs I2 I3 I4
    go_wp2_with fail
    refine I1.out.mono ?_; rintro e w' ⟨rfl, hw⟩; obtain rfl := hw.symm
    go_wp2_with fail
    refine I2'.out.mono ?_; rintro e w' ⟨rfl, hw⟩; obtain rfl := hw.symm
    go_wp2_with fail
    refine (cmps_any _ xs ys).mono ?_; rintro e w' ⟨rfl, hw⟩; obtain rfl := hw.symm
    go_wp2_with fail
    go_ret
    exact ⟨rfl, HN2.out⟩
  have HT4 : Hid (R = if lstK xk = true then cmpL (cmpV n) l m
    else if xk = 12 then cmpF (cmpV n) d l f m
    else 0) := HT3.out.trans (if_neg hs)
  have i2 := I2.out
  rw [Bool.eq_false_iff.2 hs] at i2
  have I2' := Lib.hid i2
  clear HT3 hs I2 i2
  by_cases hl : lstK xk = true
  case pos =>
    have i3 := I3.out
    rw [hl] at i3
    obtain rfl : cmpL (cmpV n) l m = R := by rw [HT4.out, if_pos hl]
    have I3' := Lib.hid i3
    have HCF := Lib.hid (cfn_any n ih w2 (.slice lA L lc) (.slice mA M mc) l m (HL.out.nx (fun x y h => RdV.nx HN2.out n h) HN2.out) (HM.out.nx (fun x y h => RdV.nx HN2.out n h) HN2.out) HO.out.1 HO.out.2)
    clear HT4 i3 hl I3 I4
    go_wp2_with fail
    refine I1.out.mono ?_; rintro e w' ⟨rfl, hw⟩; obtain rfl := hw.symm
    go_wp2_with fail
    refine I2'.out.mono ?_; rintro e w' ⟨rfl, hw⟩; obtain rfl := hw.symm
    go_wp2_with fail
    refine I3'.out.mono ?_; rintro e w' ⟨rfl, hw⟩; obtain rfl := hw.symm
    go_wp2_with fail
    refine HCF.out.mono ?_; rintro e w3 ⟨rfl, hn3⟩
    have HN3 := Lib.hid (HN2.out.trans hn3)
    clear a0 a1 a2 a3 a4 b0 b1 b2 b3 b4 hn3
    go_wp2_with fail
    go_ret
    exact ⟨rfl, HN3.out⟩
  obtain rfl : R = 0 := by rw [HT4.out, if_neg hl, if_neg HK.out.2.2]
  have i3 := I3.out
  rw [Bool.eq_false_iff.2 hl] at i3
  have I3' := Lib.hid i3
  clear HT4 i3 hl I3
  go_wp2_with fail
  refine I1.out.mono ?_; rintro e w' ⟨rfl, hw⟩; obtain rfl := hw.symm
  go_wp2_with fail
  refine I2'.out.mono ?_; rintro e w' ⟨rfl, hw⟩; obtain rfl := hw.symm
  go_wp2_with fail
  refine I3'.out.mono ?_; rintro e w' ⟨rfl, hw⟩; obtain rfl := hw.symm
  go_wp2_with fail
  refine I4.out.mono ?_; rintro e w' ⟨rfl, hw⟩; obtain rfl := hw.symm
  go_wp2_with fail
  go_ret
  exact ⟨rfl, HN2.out⟩
theorem Cmp_any : ∀ n, CmpC n
  | 0 => fun _ _ _ _ _ h => h.elim
  | n + 1 => cmp_step n (Cmp_any n)
end Go.Proofs.Ytjeadmndnbggmaa
