/- The contract of order.Copy, for values without parts. -/
import Derived.Test.YtjeadmndnbggmaaOrB0
import Derived.Test.YtjeadmndnbggmaaPuts
import Derived.Test.YtjeadmndnbggmaaHybF
import Derived.Deep.DeepCutAuto
set_option linter.unusedVariables false
set_option linter.unusedSimpArgs false
namespace Go.Proofs.Ytjeadmndnbggmaa
open Go.RowKit

theorem elN : ElT Try.prog 27 3 8 := by
  obtain ⟨i, h1, h2, h3, h4⟩ := info_parts (show (Try.prog.info? 3).map (fun i => (i.zero, i.size, i.bytes)) = some (some (.int .i64 0), 1, 8) by kernel_rfl)
  exact ⟨Try.underlying27, i, _, h1, h2, h3, h4, rfl⟩
def ivN (n : Int) : Value := .int .i64 n
theorem clone0_any (w : World) : Calls Try.prog 21 #[.string ⟨#[]⟩] w fun e w' => e = .returned (.string ⟨#[]⟩) ∧ w' = w := by
  have h1 : Calls Try.prog 31 #[.string ⟨#[]⟩] w fun e w' => e = .returned (.string ⟨#[]⟩) ∧ w' = w := by
    go_enter Try.func31, Try.ntmps31
    go_wp2_with fail
    go_ret
    exact ⟨rfl, rfl⟩
  have H1 := Lib.hid h1
  clear h1
  go_enter Try.func21, Try.ntmps21
  go_wp2_with fail
  refine H1.out.mono ?_; rintro e w' ⟨rfl, hw⟩; obtain rfl := hw.symm
  go_wp2_with fail
  go_ret
  exact ⟨rfl, rfl⟩
set_option maxRecDepth 100000 in
set_option maxHeartbeats 12800000 in
theorem Copy_any (n : Nat) : CopyC n := by
  intro w x A hx hA
  cases n with
  | zero => exact hx.elim
  | succ n =>
  obtain ⟨k, a, s, l, d⟩ := A
  obtain ⟨xk, xn, xs, xl, xd⟩ := x
  obtain ⟨rfl, rfl, rfl⟩ := hA
  obtain ⟨h1, h2, h3, hl, hd⟩ := hx
  dsimp only at h1 h2 h3 hl hd
  subst h1 h2 h3
  obtain ⟨dA, dc, rfl, hd1, hd2, hd3⟩ := hd
  obtain ⟨lA, lc, ys, rfl, hl1, hl2, -⟩ := hl
  rw [valA_agg]
  simp only [List.length_nil] at hd1 hl1 ⊢
  rw [show ([] : List UInt8).toArray = #[] from rfl]
  obtain ⟨g1, hg1⟩ : ∃ g, w.heap.size = g := ⟨_, rfl⟩
  obtain ⟨w1, hw1⟩ : ∃ x, w.alloc (.cells #[.int .i64 (xk : Int), .int .i64 xn, .string ⟨#[]⟩, .slice lA 0 lc, .slice dA 0 dc] 29) = x := ⟨_, rfl⟩
  have hb1 : Blk w1 g1 g1 #[.int .i64 (xk : Int), .int .i64 xn, .string ⟨#[]⟩, .slice lA 0 lc, .slice dA 0 dc] 29 := by rw [← hw1, ← hg1]; exact Blk.new w _ _
  have hn1 : Nx w w1 := by rw [← hw1]; exact nx0 _ _
  obtain ⟨g2, hg2⟩ : ∃ g, w1.heap.size = g := ⟨_, rfl⟩
  obtain ⟨w2, hw2⟩ : ∃ x, w1.alloc (.cells #[.int .i64 0, .int .i64 0, .string ⟨#[]⟩, .slice none 0 0, .slice none 0 0] 29) = x := ⟨_, rfl⟩
  have hb2 : Blk w2 g2 g2 #[.int .i64 0, .int .i64 0, .string ⟨#[]⟩, .slice none 0 0, .slice none 0 0] 29 := by rw [← hw2, ← hg2]; exact Blk.new w1 _ _
  have hn2 : Nx w1 w2 := by rw [← hw2]; exact nx0 _ _
  have HB1 := Lib.hid (hb1.below hn2)
  have HB2 := Lib.hid hb2
  have HN2 := Lib.hid (hn1.trans hn2)
  have HG : Hid (g1 ≤ w2.heap.size ∧ w.heap.size ≤ g2 ∧ g1 < g2) := by
    unfold Hid
    have h1 := hb1.lt
    have h2 := hn2.size
    refine ⟨by omega, by rw [hg1, ← hg2]; omega, by omega⟩
  clear hb1 hn1 hb2 hn2
  go_enter Try.func9, Try.ntmps9
  go_upto_region 1 with (fail)
  clear hw1 hg1 hw2 hg2
  have La0 : ∀ x : Gr w2, x.1.cell? ⟨g1, 0, none⟩ = some (.int .i64 (xk : Int)) := fun x => (HB1.out.below x.2).cell 0
  have La1 : ∀ x : Gr w2, x.1.cell? ⟨g1, 1, none⟩ = some (.int .i64 xn) := fun x => (HB1.out.below x.2).cell 1
  have La2 : ∀ x : Gr w2, x.1.cell? ⟨g1, 2, none⟩ = some (.string ⟨#[]⟩) := fun x => (HB1.out.below x.2).cell 2
  refine EF.wp_region_hyb (st := 9) [(0, true), (1, true), (2, true), (3, true), (4, true), (5, true), (6, true), (7, true), (8, false), (9, false)] (by kernel_rfl) (by kernel_rfl) ?_
  iterate 6 (refine EF.hyb_calm rfl (fun K hK => ?_); go_simp; refine hK _ ?_; clear hK K)
  clear La0 La1 La2
  refine EF.hyb_calm rfl (fun K hK => ?_); go_simp
  refine ⟨.string ⟨#[]⟩, fun a ha => clone0_any a, hK _ ?_⟩
  clear hK K
  refine EF.hyb_calm rfl (fun K hK => ?_); go_simp; refine hK _ ?_; clear hK K
  refine EF.hyb_alone rfl (fun w5 hn5 K hK => ?_)
  go_simp
  refine hK _ _ (.inr (nx0 _ _)) ?_
  clear hK K
  obtain ⟨g3, hg3⟩ : ∃ g, w5.heap.size = g := ⟨_, rfl⟩
  have hb6 : Blk (w5.alloc (.cells #[.int .i64 0, .int .i64 0, .string ⟨#[]⟩, .slice none 0 0, .slice none 0 0] 29)) g3 g3 #[.int .i64 0, .int .i64 0, .string ⟨#[]⟩, .slice none 0 0, .slice none 0 0] 29 := by rw [← hg3]; exact Blk.new w5 _ _
  have hn6 : Nx w2 (w5.alloc (.cells #[.int .i64 0, .int .i64 0, .string ⟨#[]⟩, .slice none 0 0, .slice none 0 0] 29)) := hn5.trans (nx0 _ _)
  have HG3 : Hid (w2.heap.size ≤ g3) := by unfold Hid; rw [← hg3]; exact hn5.size
  rw [hg3]
  generalize w5.alloc (.cells #[.int .i64 0, .int .i64 0, .string ⟨#[]⟩, .slice none 0 0, .slice none 0 0] 29) = w6 at *
  have HB6 := Lib.hid hb6
  have HN6 := Lib.hid hn6
  clear hb6 hn6 hn5 hg3
  refine EF.hyb_alone rfl (fun w7 hn7 K hK => ?_)
  have hb7 := HB6.out.below hn7
  have HB7 := Lib.hid hb7
  have HN7 := Lib.hid (HN6.out.trans hn7)
  have y0 : w7.cell? ⟨g3, 0, none⟩ = some (.int .i64 0) := hb7.cell 0
  have r0 := hb7.free 0
  have y1 : w7.cell? ⟨g3, 1, none⟩ = some (.int .i64 0) := hb7.cell 1
  have r1 := hb7.free 1
  have y2 : w7.cell? ⟨g3, 2, none⟩ = some (.string ⟨#[]⟩) := hb7.cell 2
  have r2 := hb7.free 2
  have y3 : w7.cell? ⟨g3, 3, none⟩ = some (.slice none 0 0) := hb7.cell 3
  have r3 := hb7.free 3
  have y4 : w7.cell? ⟨g3, 4, none⟩ = some (.slice none 0 0) := hb7.cell 4
  have r4 := hb7.free 4
  clear hb7 hn7 HN6 HB6
  go_simp
  refine hK _ _ (.inl rfl) ?_
  clear hK K y0 y1 y2 y3 y4 r0 r1 r2 r3 r4
  obtain ⟨w8, hw8⟩ : ∃ w8, w8 = wputs w7 g3 0 [.int .i64 (xk : Int), .int .i64 xn, .string ⟨#[]⟩, .slice none 0 0, .slice none 0 0] := ⟨_, rfl⟩
  show EF.Hyb _ _ _ _ _ _ (wputs w7 g3 0 [.int .i64 (xk : Int), .int .i64 xn, .string ⟨#[]⟩, .slice none 0 0, .slice none 0 0])
  rw [← hw8]
  have HB8 : Hid (Blk w8 g3 g3 #[.int .i64 (xk : Int), .int .i64 xn, .string ⟨#[]⟩, .slice none 0 0, .slice none 0 0] 29) := by unfold Hid; rw [hw8]; exact HB7.out.putAll [.int .i64 (xk : Int), .int .i64 xn, .string ⟨#[]⟩, .slice none 0 0, .slice none 0 0] rfl
  have HN8 : Hid (Nx w2 w8) := by unfold Hid; rw [hw8]; exact Nx.puts HG3.out [.int .i64 (xk : Int), .int .i64 xn, .string ⟨#[]⟩, .slice none 0 0, .slice none 0 0] 0 HN7.out
  clear hw8 HB7 HN7
  refine EF.hyb_nil (fun w9 hn9 => ?_)
  have HB9 := Lib.hid (HB8.out.below hn9)
  have HN9 := Lib.hid (HN8.out.trans hn9)
  clear HB8 HN8 hn9
  have a3 : w9.cell? ⟨g1, 3, none⟩ = some (.slice lA 0 lc) := (HB1.out.below HN9.out).cell 3
  go_wp2_with fail
  go_loopw [17] (fun v wr => v = .int .i64 0 ∧ wr = w9) (fun v _ => 0)
  case atStart => exact ⟨rfl, rfl⟩
  case round =>
    obtain ⟨rfl, rfl⟩ := hrel
    have a4 : wr.cell? ⟨g1, 4, none⟩ = some (.slice dA 0 dc) := (HB1.out.below HN9.out).cell 4
    have b4 : wr.cell? ⟨g3, 4, none⟩ = some (.slice none 0 0) := HB9.out.cell 4
    go_upto_region 8 with (at_builtin; go_must (refine wpList_app (f := ivN) _ elN rfl _ _ rfl (fun _ => rfl) wr.heap.size (.slice none 0 0) [] [] rfl Own.nil_ dA dc rfl Rd.nil (Nat.zero_le _) (Nat.zero_le _) (Nat.le_refl _) ?_; intro v' wA hownA hbelA; obtain ⟨vA, vc, rfl, hv1, hv2, hv3⟩ := hownA.sl; have y4 : wA.cell? ⟨g3, 4, none⟩ = some (.slice none 0 0) := (HB9.out.below hbelA).cell 4; have r4 := (HB9.out.below hbelA).free 4))
    simp only [List.append_nil, List.length_nil] at hv1 hv2 hv3 ⊢
    have HBA : Hid (Blk (wA.setCell ⟨g3, 4, none⟩ (.slice vA 0 vc)) g3 g3 #[.int .i64 (xk : Int), .int .i64 xn, .string ⟨#[]⟩, .slice none 0 0, .slice vA 0 vc] 29) := (HB9.out.below hbelA).put 4 (.slice vA 0 vc)
    have HNA : Hid (Nx w2 (wA.setCell ⟨g3, 4, none⟩ (.slice vA 0 vc))) := (HN9.out.trans hbelA).put' HG3.out 4 _
    clear y4 r4 hownA hbelA a3 a4 b4 hv1
    generalize wA.setCell ⟨g3, 4, none⟩ (.slice vA 0 vc) = wB at *
    have HZB := Lib.hid (HB2.out.below HNA.out)
    have y0 : wB.cell? ⟨g3, 0, none⟩ = some (.int .i64 (xk : Int)) := HBA.out.cell 0
    have y1 : wB.cell? ⟨g3, 1, none⟩ = some (.int .i64 xn) := HBA.out.cell 1
    have y2 : wB.cell? ⟨g3, 2, none⟩ = some (.string ⟨#[]⟩) := HBA.out.cell 2
    have y3 : wB.cell? ⟨g3, 3, none⟩ = some (.slice none 0 0) := HBA.out.cell 3
    have y4 : wB.cell? ⟨g3, 4, none⟩ = some (.slice vA 0 vc) := HBA.out.cell 4
    have z0 : wB.cell? ⟨g2, 0, none⟩ = some (.int .i64 0) := HZB.out.cell 0
    have r0 := HZB.out.free 0
    have z1 : wB.cell? ⟨g2, 1, none⟩ = some (.int .i64 0) := HZB.out.cell 1
    have r1 := HZB.out.free 1
    have z2 : wB.cell? ⟨g2, 2, none⟩ = some (.string ⟨#[]⟩) := HZB.out.cell 2
    have r2 := HZB.out.free 2
    have z3 : wB.cell? ⟨g2, 3, none⟩ = some (.slice none 0 0) := HZB.out.cell 3
    have r3 := HZB.out.free 3
    have z4 : wB.cell? ⟨g2, 4, none⟩ = some (.slice none 0 0) := HZB.out.cell 4
    have r4 := HZB.out.free 4
    go_wp2_with fail
    have HBC : Hid (Blk (wputs wB g2 0 [.int .i64 (xk : Int), .int .i64 xn, .string ⟨#[]⟩, .slice none 0 0, .slice vA 0 vc]) g2 g2 #[.int .i64 (xk : Int), .int .i64 xn, .string ⟨#[]⟩, .slice none 0 0, .slice vA 0 vc] 29) := HZB.out.putAll [.int .i64 (xk : Int), .int .i64 xn, .string ⟨#[]⟩, .slice none 0 0, .slice vA 0 vc] rfl
    have HNC : Hid (Nx w (wputs wB g2 0 [.int .i64 (xk : Int), .int .i64 xn, .string ⟨#[]⟩, .slice none 0 0, .slice vA 0 vc])) := Nx.puts HG.out.2.1 [.int .i64 (xk : Int), .int .i64 xn, .string ⟨#[]⟩, .slice none 0 0, .slice vA 0 vc] 0 (HN2.out.trans HNA.out)
    refine bodyPost_ret (results_cell_row rfl _ _ g2 _ _ _ _ rfl HBC.out.2 Try.underlying29 rfl (by kernel_rfl)) rfl ?_
    exact ⟨⟨xk, xn, [], .slice none 0 0, .slice vA 0 vc⟩, rfl, ⟨rfl, rfl, rfl, RdL.nil_ _ _, ⟨vA, vc, rfl, Nat.zero_le _, hv2, Rd.nil⟩⟩, ⟨_, _, _, rfl⟩, ⟨_, _, _, rfl⟩, HNC.out⟩
end Go.Proofs.Ytjeadmndnbggmaa
