/- Normal forms of sets of up to 39 numbers (made by mkWh.py). -/
import Derived.Test.YtjeadmndnbggmaaOrNm
import Derived.Test.YtjeadmndnbggmaaOrWh
import Derived.Test.YtjeadmndnbggmaaOrWu
import Derived.Deep.DeepCutAuto
set_option linter.unusedVariables false
set_option linter.unusedSimpArgs false
namespace Go.Proofs.Ytjeadmndnbggmaa
open Go.RowKit

set_option maxRecDepth 100000 in
set_option maxHeartbeats 12800000 in
theorem norm14_more (n : Nat) (w : World) (x : ValS) (l : List Val) (is : List Int) (hx : RdV (n + 1) w x (.mk 14 0 [] l is)) (hl : ∀ y ∈ l, leafOk y) (h20 : l.length ≤ 39) (hi : is = []) :
    Calls Try.prog 5 #[.agg (valA x)] w fun e w' => ∃ y, e = .returned (.tuple #[.agg (valA y), .int .i64 ((normV (n + 1) (.mk 14 0 [] l is)).2 : Int)]) ∧ ((normV (n + 1) (.mk 14 0 [] l is)).2 = 0 → RdV (n + 1) w' y (normV (n + 1) (.mk 14 0 [] l is)).1) ∧ IsSlv y.l ∧ IsSlv y.ids ∧ Nx w w' := by
  obtain ⟨xk, xn, xs, xl, xd⟩ := x
  obtain ⟨h1, h2, h3, hxl, hxd⟩ := hx
  dsimp only at h1 h2 h3 hxl hxd
  subst h1 h2 h3
  have hn0 : n = 0 → l = [] := fun e => by
    subst e
    obtain ⟨A, c, ys, -, -, -, -, h4, h5⟩ := hxl
    cases l with
    | nil => rfl
    | cons z r => exact (h5 0 (by rw [h4]; simp) (by simp)).elim
  have HN0 := Lib.hid hn0
  have HPR : Hid (prtV (normV n) l = (l, 0)) := prt_leafs n hl
  have HL := Lib.hid hl
  have HRD := Lib.hid hxl
  obtain ⟨lA, lc, lus, hv1, -, -, -⟩ := id hxl
  obtain ⟨dA, dc, hv2, hd1, hd2, hd3⟩ := id hxd
  subst hv1
  subst hv2
  obtain ⟨N, hN⟩ : ∃ N, l.length = N := ⟨_, rfl⟩
  obtain ⟨D, hD⟩ : ∃ D, is.length = D := ⟨_, rfl⟩
  have HNL := Lib.hid hN
  have HDL := Lib.hid hD
  have HRDI : Hid (D ≤ dc ∧ dc ≤ maxLen ∧ Rd (Value.int .i64) w dA is) := ⟨by rw [← hD]; exact hd1, hd2, hd3⟩
  rw [valA_agg]
  simp only
  rw [hN] at HRD h20 ⊢
  rw [hD]
  rw [show ([] : List UInt8).toArray = #[] from rfl]
  have HN20 := Lib.hid h20
  have hN20 : (N : Int) ≤ 39 := by omega
  obtain ⟨E, hE⟩ : ∃ E, normV (n + 1) (.mk 14 0 [] l is) = E := ⟨_, rfl⟩
  rw [hE]
  have HE := Lib.hid hE
  have I1 : Hid (∀ wx, Calls Try.prog 10 #[.int .u32 61440, .int .i64 (14 : Int)] wx fun e w' => e = .returned (.bool true) ∧ w' = wx) := fun wx => in_any wx 61440 14 true (by decide) (by decide) (by decide +kernel)
  clear hE hn0 hl hxl hxd hd1 hd2 hd3 hN hD h20
  rw [show (((14 : Nat)) : Int) = 14 from rfl]
  obtain ⟨g1, hg1⟩ : ∃ g, w.heap.size = g := ⟨_, rfl⟩
  obtain ⟨w1, hw1⟩ : ∃ x, w.alloc (.cells #[.int .i64 14, .int .i64 0, .string ⟨#[]⟩, .slice lA N lc, .slice dA D dc] 29) = x := ⟨_, rfl⟩
  have hb1 : Blk w1 g1 g1 #[.int .i64 14, .int .i64 0, .string ⟨#[]⟩, .slice lA N lc, .slice dA D dc] 29 := by rw [← hw1, ← hg1]; exact Blk.new w _ _
  have hn1 : Nx w w1 := by rw [← hw1]; exact nx0 _ _
  obtain ⟨g2, hg2⟩ : ∃ g, w1.heap.size = g := ⟨_, rfl⟩
  obtain ⟨w2, hw2⟩ : ∃ x, w1.alloc (.cells #[.int .i64 0, .int .i64 0, .string ⟨#[]⟩, .slice none 0 0, .slice none 0 0] 29) = x := ⟨_, rfl⟩
  have hb2 : Blk w2 g2 g2 #[.int .i64 0, .int .i64 0, .string ⟨#[]⟩, .slice none 0 0, .slice none 0 0] 29 := by rw [← hw2, ← hg2]; exact Blk.new w1 _ _
  have hn2 : Nx w1 w2 := by rw [← hw2]; exact nx0 _ _
  have HG : Hid (w.heap.size ≤ g2 ∧ g1 < g2 ∧ g2 < w2.heap.size) := by
    have h1 := hb1.lt
    have h2 := hb2.lt
    refine ⟨by rw [hg1, ← hg2]; omega, by omega, h2⟩
  have hb1' := hb1.below hn2
  have hne : ¬ g1 = g2 := by have := HG.out.2.1; omega
  have a0 : w2.cell? ⟨g1, 0, none⟩ = some (.int .i64 14) := hb1'.cell 0
  have y0 : w2.cell? ⟨g2, 0, none⟩ = some (.int .i64 0) := hb2.cell 0
  have r0 := hb2.free 0
  have HB1 : Hid (Blk (w2.setCell ⟨g2, 0, none⟩ (.int .i64 14)) g1 g1 #[.int .i64 14, .int .i64 0, .string ⟨#[]⟩, .slice lA N lc, .slice dA D dc] 29) := hb1'.other (Ne.symm hne) 0 _
  have HB2 : Hid (Blk (w2.setCell ⟨g2, 0, none⟩ (.int .i64 14)) g2 g2 #[.int .i64 14, .int .i64 0, .string ⟨#[]⟩, .slice none 0 0, .slice none 0 0] 29) := hb2.put 0 (.int .i64 14)
  have HN3 : Hid (Nx w (w2.setCell ⟨g2, 0, none⟩ (.int .i64 14))) := (hn1.trans hn2).put' HG.out.1 0 _
  clear hb1 hn1 hb2 hn2 hb1'
  go_enter Try.func5, Try.ntmps5
  go_wp2_with fail
  clear hw1 hg1 hw2 hg2
  refine (I1.out w2).mono ?_; rintro e w' ⟨rfl, hw⟩; obtain rfl := hw.symm
  go_upto_region 4 with (fail)
  clear a0 y0 r0
  have HGS : Hid (g2 < (w2.setCell ⟨g2, 0, none⟩ (.int .i64 14)).heap.size) := HB2.out.lt
  generalize w2.setCell ⟨g2, 0, none⟩ (.int .i64 14) = w3 at *
  have HPA := Lib.hid (parts_more n w3 (.slice lA N lc) l (HRD.out.nx (fun x y h => RdV.nx HN3.out n h) HN3.out) HL.out (by rw [HNL.out]; exact HN20.out))
  rw [HNL.out] at HPA
  have a3 : w3.cell? ⟨g1, 3, none⟩ = some (.slice lA N lc) := HB1.out.cell 3
  go_wp2_with fail
  refine HPA.out.mono ?_; rintro e w4 ⟨gp, ys, rfl, hbp, hyok, hyl, hn4⟩
  have HBP := Lib.hid hbp
  have HYS : Hid ((∀ y ∈ ys, OkS y) ∧ ys.map lfV = l ∧ ys.length = N) := ⟨hyok, hyl, by rw [← HNL.out, ← hyl, List.length_map]⟩
  have HN4 := Lib.hid (HN3.out.trans hn4)
  have HGP : Hid (g2 ≠ gp ∧ g1 ≠ gp) := by
    have := hbp.1; have := HGS.out; have := HG.out.2.1
    exact ⟨by omega, by omega⟩
  have hb2 := HB2.out.below hn4
  have hb1 := HB1.out.below hn4
  have y3 : w4.cell? ⟨g2, 3, none⟩ = some (.slice none 0 0) := hb2.cell 3
  have r3 := hb2.free 3
  have b0 : w4.cell? ⟨g1, 0, none⟩ = some (.int .i64 14) := hb1.cell 0
  have HB25 : Hid (Blk (w4.setCell ⟨g2, 3, none⟩ (.slice (some ⟨gp, 0, none⟩) N N)) g2 g2 #[.int .i64 14, .int .i64 0, .string ⟨#[]⟩, .slice (some ⟨gp, 0, none⟩) N N, .slice none 0 0] 29) := hb2.put 3 _
  have HB15 : Hid (Blk (w4.setCell ⟨g2, 3, none⟩ (.slice (some ⟨gp, 0, none⟩) N N)) g1 g1 #[.int .i64 14, .int .i64 0, .string ⟨#[]⟩, .slice lA N lc, .slice dA D dc] 29) := hb1.other (Ne.symm hne) 3 _
  have HBP5 : Hid (Blk (w4.setCell ⟨g2, 3, none⟩ (.slice (some ⟨gp, 0, none⟩) N N)) w3.heap.size gp (rowL valA ys).toArray 29) := hbp.other HGP.out.1 3 _
  have HN5 : Hid (Nx w (w4.setCell ⟨g2, 3, none⟩ (.slice (some ⟨gp, 0, none⟩) N N))) := HN4.out.put' HG.out.1 3 _
  clear a3 hbp hyok hyl hn4 hb2 hb1 HPA HBP HB1 HB2
  go_upto_region 5 with (fail)
  clear y3 r3 b0
  have HGS5 : Hid (g2 < (w4.setCell ⟨g2, 3, none⟩ (.slice (some ⟨gp, 0, none⟩) N N)).heap.size) := HB25.out.lt
  generalize w4.setCell ⟨g2, 3, none⟩ (.slice (some ⟨gp, 0, none⟩) N N) = w5 at *
  have b0 : w5.cell? ⟨g1, 0, none⟩ = some (.int .i64 14) := HB15.out.cell 0
  have HSE := Lib.hid (se_more w5 w3.heap.size gp N ys HYS.out.2.2 (Nat.lt_succ_of_le HN20.out) HBP5.out HYS.out.1)
  have b23 : w5.cell? ⟨g2, 3, none⟩ = some (.slice (some ⟨gp, 0, none⟩) N N) := HB25.out.cell 3
  go_wp2_with fail
  refine HSE.out.mono ?_; rintro e w6 ⟨us, rfl, hon, hrd6, hot6⟩
  have HON := Lib.hid hon
  have hul : us.length ≤ N := by
    have := hon.len
    rw [HYS.out.2.2] at this; exact this
  have HUL := Lib.hid hul
  have hb26 := hot6.blk HB25.out HGP.out.1
  have hn6 : Nx w w6 := hot6.to HN5.out (by have := HBP5.out.1; have := HN3.out.size; omega)
  obtain ⟨U, hU⟩ : ∃ U, us.length = U := ⟨_, rfl⟩
  have HUU := Lib.hid hU
  rw [hU]
  have y3 : w6.cell? ⟨g2, 3, none⟩ = some (.slice (some ⟨gp, 0, none⟩) N N) := hb26.cell 3
  have r3 := hb26.free 3
  have HB27 : Hid (Blk (w6.setCell ⟨g2, 3, none⟩ (.slice (some ⟨gp, 0, none⟩) U N)) g2 g2 #[.int .i64 14, .int .i64 0, .string ⟨#[]⟩, .slice (some ⟨gp, 0, none⟩) U N, .slice none 0 0] 29) := hb26.put 3 _
  have HN7 : Hid (Nx w (w6.setCell ⟨g2, 3, none⟩ (.slice (some ⟨gp, 0, none⟩) U N))) := hn6.put' HG.out.1 3 _
  have HRD7 : Hid (RdO (w6.setCell ⟨g2, 3, none⟩ (.slice (some ⟨gp, 0, none⟩) U N)) (some ⟨gp, 0, none⟩) us) := hrd6.oth (Oth.set _ _ _ _) (fun g off e => by cases e; exact Ne.symm HGP.out.1)
  clear b0 b23 hon hrd6 hot6 hb26 hn6 hul hU HSE
  go_upto_region 14 with (fail)
  clear y3 r3
  generalize w6.setCell ⟨g2, 3, none⟩ (.slice (some ⟨gp, 0, none⟩) U N) = w7 at *
  have HUO : Hid (∀ x ∈ us, OkS x) := fun x hx => HYS.out.1 x (HON.out.2.2 x hx)
  have HEQ : Hid (E = (.mk 14 0 [] (us.map lfV) [], 0)) := by
    unfold Hid
    rw [← HE.out, hi]
    unfold normV
    rw [if_neg (by decide), HPR.out]
    dsimp only
    rw [if_neg (by decide), if_neg (by decide), if_pos rfl, set_c (n := n) HN0.out, ← HYS.out.2.1, ← once_set HON.out HYS.out.1 (n - 1)]
  have z0 : w7.cell? ⟨g2, 0, none⟩ = some (.int .i64 14) := HB27.out.cell 0
  have r0 := HB27.out.free 0
  have z1 : w7.cell? ⟨g2, 1, none⟩ = some (.int .i64 0) := HB27.out.cell 1
  have r1 := HB27.out.free 1
  have z2 : w7.cell? ⟨g2, 2, none⟩ = some (.string ⟨#[]⟩) := HB27.out.cell 2
  have r2 := HB27.out.free 2
  have z3 : w7.cell? ⟨g2, 3, none⟩ = some (.slice (some ⟨gp, 0, none⟩) U N) := HB27.out.cell 3
  have r3 := HB27.out.free 3
  have z4 : w7.cell? ⟨g2, 4, none⟩ = some (.slice none 0 0) := HB27.out.cell 4
  have r4 := HB27.out.free 4
  go_wp2_with fail
  have HBC : Hid (Blk (wputs w7 g2 0 [.int .i64 14, .int .i64 0, .string ⟨#[]⟩, .slice (some ⟨gp, 0, none⟩) U N, .slice none 0 0]) g2 g2 #[.int .i64 14, .int .i64 0, .string ⟨#[]⟩, .slice (some ⟨gp, 0, none⟩) U N, .slice none 0 0] 29) := HB27.out.putAll [.int .i64 14, .int .i64 0, .string ⟨#[]⟩, .slice (some ⟨gp, 0, none⟩) U N, .slice none 0 0] rfl
  have HNC : Hid (Nx w (wputs w7 g2 0 [.int .i64 14, .int .i64 0, .string ⟨#[]⟩, .slice (some ⟨gp, 0, none⟩) U N, .slice none 0 0])) := Nx.puts HG.out.1 [.int .i64 14, .int .i64 0, .string ⟨#[]⟩, .slice (some ⟨gp, 0, none⟩) U N, .slice none 0 0] 0 HN7.out
  have HOC : Hid (Oth g2 w7 (wputs w7 g2 0 [.int .i64 14, .int .i64 0, .string ⟨#[]⟩, .slice (some ⟨gp, 0, none⟩) U N, .slice none 0 0])) := Oth.owns _ _ (Oth.refl _ _)
  refine bodyPost_ret (results_ct rfl _ _ g2 _ _ _ _ rfl HBC.out.2 Try.underlying29 rfl (by kernel_rfl)) rfl ?_
  change ∃ y, _ ∧ (_ → RdV (n + 1) (wputs w7 g2 0 [.int .i64 14, .int .i64 0, .string ⟨#[]⟩, .slice (some ⟨gp, 0, none⟩) U N, .slice none 0 0]) y _) ∧ _ ∧ _ ∧ Nx w (wputs w7 g2 0 [.int .i64 14, .int .i64 0, .string ⟨#[]⟩, .slice (some ⟨gp, 0, none⟩) U N, .slice none 0 0])
  generalize wputs w7 g2 0 [.int .i64 14, .int .i64 0, .string ⟨#[]⟩, .slice (some ⟨gp, 0, none⟩) U N, .slice none 0 0] = wz at *
  rw [HEQ.out]
  refine ⟨⟨14, 0, [], .slice (some ⟨gp, 0, none⟩) U N, .slice none 0 0⟩, rfl, fun _ => ⟨rfl, rfl, rfl, ?_, RdI.nil_ _⟩, ⟨_, _, _, rfl⟩, ⟨_, _, _, rfl⟩, HNC.out⟩
  have hr := rdl_of (w := wz) (A := some ⟨gp, 0, none⟩) (c := N) (n := n) (HRD7.out.oth HOC.out (fun g off e => by cases e; exact Ne.symm HGP.out.1)) HUL.out (by have := HN20.out; simp only [maxLen]; omega) HUO.out (fun e => by
    have := HN0.out e
    have h := HYS.out.2.2
    rw [← HNL.out, this] at h
    have hy : ys = [] := List.eq_nil_of_length_eq_zero h
    cases us with
    | nil => rfl
    | cons a r => have := HON.out.2.2 a (by simp); rw [hy] at this; cases this)
  rw [HUU.out] at hr
  exact hr

end Go.Proofs.Ytjeadmndnbggmaa
