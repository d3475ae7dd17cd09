/- What the laws of order begin with. -/
import Derived.Test.YtjeadmndnbggmaaOrB0
import Derived.Test.YtjeadmndnbggmaaOrT
import Derived.Deep.DeepCutAuto
set_option linter.unusedVariables false
set_option linter.unusedSimpArgs false
namespace Go.Proofs.Ytjeadmndnbggmaa
open Go.RowKit

def NormC (n : Nat) : Prop := ∀ (w : World) (x : ValS) (A : Val), RdV n w x A → netV n A →
  Calls Try.prog 5 #[.agg (valA x)] w fun e w' => ∃ y, e = .returned (.tuple #[.agg (valA y), .int .i64 ((normV n A).2 : Int)]) ∧ ((normV n A).2 = 0 → RdV n w' y (normV n A).1) ∧ IsSlv y.l ∧ IsSlv y.ids ∧ Nx w w'
def IsC (n : Nat) : Prop := ∀ (w : World) (x : ValS) (A : Val), RdV n w x A → netV n A → okV n A →
  Calls Try.prog 7 #[.agg (valA x)] w fun e w' => e = .returned (.bool (decide ((normV n A).2 = 0) && decide (cmpV n A (normV n A).1 = 0))) ∧ Nx w w'
set_option maxRecDepth 100000 in
set_option maxHeartbeats 6400000 in
theorem orbegun_of (hC : ∀ n, CmpC n) (hN : ∀ n, NormC n) (hI : ∀ n, IsC n) (hK : ∀ n, CopyC n) (w : World) :
    Calls Try.prog 4 #[] w fun e w' => e = .returned (.bool true) ∧ Nx w w' := by
  obtain ⟨g1, hg1⟩ : ∃ g, w.heap.size = g := ⟨_, rfl⟩
  obtain ⟨w1, hw1⟩ : ∃ x, w.alloc (.cells #[.int .i64 8, .int .i64 1, .string ⟨#[]⟩, .slice none 0 0, .slice none 0 0] 29) = x := ⟨_, rfl⟩
  obtain ⟨g2, hg2⟩ : ∃ g, g1 + 1 = g := ⟨_, rfl⟩
  have hs1 : w1.heap.size = g2 := by rw [← hw1, ← hg2, ← hg1]; exact Array.size_push _
  obtain ⟨w2, hw2⟩ : ∃ x, w1.alloc (.cells #[.int .i64 8, .int .i64 2, .string ⟨#[]⟩, .slice none 0 0, .slice none 0 0] 29) = x := ⟨_, rfl⟩
  have hb1 : Blk w2 g1 g1 #[.int .i64 8, .int .i64 1, .string ⟨#[]⟩, .slice none 0 0, .slice none 0 0] 29 := by rw [← hw2, ← hw1, ← hg1]; exact (Blk.new w _ _).alloc _
  have hb2 : Blk w2 g2 g2 #[.int .i64 8, .int .i64 2, .string ⟨#[]⟩, .slice none 0 0, .slice none 0 0] 29 := by rw [← hw2, ← hs1]; exact Blk.new w1 _ _
  have hn1 : Nx w w1 := by rw [← hw1]; exact nx0 _ _
  have hn12 : Nx w1 w2 := by rw [← hw2]; exact nx0 _ _
  have hn2 : Nx w w2 := hn1.trans hn12
  clear hn1 hn12
  obtain ⟨g3, hg3⟩ : ∃ g, w2.heap.size = g := ⟨_, rfl⟩
  obtain ⟨w3, hw3⟩ : ∃ x, w2.alloc (.cells #[.int .i64 8, .int .i64 2, .string ⟨#[]⟩, .slice none 0 0, .slice none 0 0, .int .i64 8, .int .i64 1, .string ⟨#[]⟩, .slice none 0 0, .slice none 0 0, .int .i64 8, .int .i64 2, .string ⟨#[]⟩, .slice none 0 0, .slice none 0 0] 29) = x := ⟨_, rfl⟩
  have hb3 : Blk w3 g3 g3 (rowL valA ([2, 1, 2].map (leafS 8))).toArray 29 := by rw [← hw3, ← hg3]; exact Blk.new w2 _ _
  have hn3 : Nx w2 w3 := by rw [← hw3]; exact nx0 _ _
  have hrd : RdV 2 w3 ⟨14, 0, [], .slice (some ⟨g3, 0, none⟩) 3 3, .slice none 0 0⟩ (.mk 14 0 [] ([2, 1, 2].map (leafV 8)) []) := ⟨rfl, rfl, rfl, RdL.leafs hb3 (by decide), RdI.nil_ _⟩
  have hnm : normV 2 (.mk 14 0 [] ([2, 1, 2].map (leafV 8)) []) = (.mk 14 0 [] ([1, 2].map (leafV 8)) [], 0) := norm_set 0 (by decide) [2, 1, 2]
  have hnet : netV 2 (.mk 14 0 [] ([2, 1, 2].map (leafV 8)) []) := ⟨by decide, rfl, by decide, .inr (.inr rfl), .inr rfl, .inl rfl, by decide, leafs_ok (by decide) (by decide)⟩
  have hno := hN 2 w3 _ _ hrd hnet
  rw [hnm] at hno
  have HNO := Lib.hid hno
  have HB1 := Lib.hid (hb1.below hn3)
  have HB2 := Lib.hid (hb2.below hn3)
  have HN3 := Lib.hid (hn2.trans hn3)
  have HC := Lib.hid hC
  have HI := Lib.hid hI
  have HK := Lib.hid hK
  have a0 : w2.cell? ⟨g1, 0, none⟩ = some (.int .i64 8) := hb1.cell 0
  have a1 : w2.cell? ⟨g1, 1, none⟩ = some (.int .i64 1) := hb1.cell 1
  have a2 : w2.cell? ⟨g1, 2, none⟩ = some (.string ⟨#[]⟩) := hb1.cell 2
  have a3 : w2.cell? ⟨g1, 3, none⟩ = some (.slice none 0 0) := hb1.cell 3
  have a4 : w2.cell? ⟨g1, 4, none⟩ = some (.slice none 0 0) := hb1.cell 4
  have b0 : w2.cell? ⟨g2, 0, none⟩ = some (.int .i64 8) := hb2.cell 0
  have b1 : w2.cell? ⟨g2, 1, none⟩ = some (.int .i64 2) := hb2.cell 1
  have b2 : w2.cell? ⟨g2, 2, none⟩ = some (.string ⟨#[]⟩) := hb2.cell 2
  have b3 : w2.cell? ⟨g2, 3, none⟩ = some (.slice none 0 0) := hb2.cell 3
  have b4 : w2.cell? ⟨g2, 4, none⟩ = some (.slice none 0 0) := hb2.cell 4
  clear hC hI hK hN hno hnm hnet hrd hb1 hb2 hb3 hn2 hn3
  have HW1 := Lib.hid hw1
  have HW2 := Lib.hid hw2
  have HG2 := Lib.hid hg2
  clear hw1 hw2 hs1 hg2
  go_enter Try.func4, Try.ntmps4
  go_upto_region 2 with (fail)
  rw [HW1.out, HW2.out, HG2.out]
  clear HW1 HW2 HG2 hg1
  go_wp2_with fail
  refine HNO.out.mono ?_
  rintro e w4 ⟨⟨yk, yn, ys, yl, yd⟩, rfl, hrd, ⟨lA, lu, lc, rfl⟩, ⟨dA, du, dc, rfl⟩, hn4⟩
  have hrd0 := hrd trivial
  obtain ⟨h1, h2, h3, hl, hd⟩ := hrd0
  dsimp only at h1 h2 h3 hl hd
  subst h1 h2 h3
  obtain ⟨gl, off, c, hv, hc1, hgl, hcell⟩ := RdL.leaf_at (l := [1, 2]) hl (by decide)
  simp only [Value.slice.injEq] at hv
  obtain ⟨rfl, rfl, rfl⟩ := hv
  rw [valA_agg]
  simp only [List.length_cons, List.length_nil, Nat.zero_add, Nat.reduceAdd] at hrd hl hc1 ⊢
  obtain ⟨g5, hg5⟩ : ∃ g, w4.heap.size = g := ⟨_, rfl⟩
  obtain ⟨w5, hw5⟩ : ∃ x, w4.alloc (.cells #[.int .i64 14, .int .i64 0, .string ⟨#[]⟩, .slice (some ⟨gl, off, none⟩) 2 lc, .slice dA du dc] 29) = x := ⟨_, rfl⟩
  have hb5 : Blk w5 g5 g5 #[.int .i64 14, .int .i64 0, .string ⟨#[]⟩, .slice (some ⟨gl, off, none⟩) 2 lc, .slice dA du dc] 29 := by rw [← hw5, ← hg5]; exact Blk.new w4 _ _
  have hn5 : Nx w4 w5 := by rw [← hw5]; exact nx0 _ _
  have HB5 := Lib.hid hb5
  have HRD5 := Lib.hid ((hrd trivial).nx hn5)
  have HB1' := Lib.hid ((HB1.out.below hn4).below hn5)
  have HB2' := Lib.hid ((HB2.out.below hn4).below hn5)
  have HN5 := Lib.hid ((HN3.out.trans hn4).trans hn5)
  have hc5 := hcell 0 (by decide)
  have HC5 : Hid (w5.cell? ⟨gl, off + 0 * 5 + 1, none⟩ = some (.int .i64 1) ∧ gl < w5.heap.size) := ⟨(hn5.cell (p := ⟨gl, off + 0 * 5 + 1, none⟩) hgl).trans hc5, Nat.lt_of_lt_of_le hgl hn5.size⟩
  clear hrd hl hd hcell hc5 hgl hn4 hn5 hb5 HB1 HB2 HN3 HNO a0 a1 a2 a3 a4 b0 b1 b2 b3 b4 hw3 hg3
  go_upto_region 3 with (fail)
  clear hw5 hg5
  have c0 : w5.cell? ⟨g1, 0, none⟩ = some (.int .i64 8) := HB1'.out.cell 0
  have c1 : w5.cell? ⟨g1, 1, none⟩ = some (.int .i64 1) := HB1'.out.cell 1
  have c2 : w5.cell? ⟨g1, 2, none⟩ = some (.string ⟨#[]⟩) := HB1'.out.cell 2
  have c3 : w5.cell? ⟨g1, 3, none⟩ = some (.slice none 0 0) := HB1'.out.cell 3
  have c4 : w5.cell? ⟨g1, 4, none⟩ = some (.slice none 0 0) := HB1'.out.cell 4
  have d0 : w5.cell? ⟨g2, 0, none⟩ = some (.int .i64 8) := HB2'.out.cell 0
  have d1 : w5.cell? ⟨g2, 1, none⟩ = some (.int .i64 2) := HB2'.out.cell 1
  have d2 : w5.cell? ⟨g2, 2, none⟩ = some (.string ⟨#[]⟩) := HB2'.out.cell 2
  have d3 : w5.cell? ⟨g2, 3, none⟩ = some (.slice none 0 0) := HB2'.out.cell 3
  have d4 : w5.cell? ⟨g2, 4, none⟩ = some (.slice none 0 0) := HB2'.out.cell 4
  go_wp2_with fail
  refine (HC.out 1 w5 (leafS 8 1) (leafS 8 2) (leafV 8 1) (leafV 8 2) (RdV.leaf 0 w5 8 1) (RdV.leaf 0 w5 8 2) (leaf_okV 0 (by decide) (by decide) (by decide)) (leaf_okV 0 (by decide) (by decide) (by decide))).mono ?_
  rintro e w6 ⟨rfl, hn6⟩
  rw [show cmpV 1 (leafV 8 1) (leafV 8 2) = -1 from rfl]
  have HN6 := Lib.hid (HN5.out.trans hn6)
  have HRD6 := Lib.hid (HRD5.out.nx hn6)
  have hb5 := HB5.out.below hn6
  have x0 : w6.cell? ⟨g5, 0, none⟩ = some (.int .i64 14) := hb5.cell 0
  have x1 : w6.cell? ⟨g5, 1, none⟩ = some (.int .i64 0) := hb5.cell 1
  have x2 : w6.cell? ⟨g5, 2, none⟩ = some (.string ⟨#[]⟩) := hb5.cell 2
  have x3 : w6.cell? ⟨g5, 3, none⟩ = some (.slice (some ⟨gl, off, none⟩) 2 lc) := hb5.cell 3
  have x4 : w6.cell? ⟨g5, 4, none⟩ = some (.slice dA du dc) := hb5.cell 4
  have hcc := HC5.out
  simp only [Nat.zero_mul, Nat.add_zero] at hcc
  have x5 : w6.cell? ⟨gl, off + 1, none⟩ = some (.int .i64 1) := (hn6.cell (p := ⟨gl, off + 1, none⟩) hcc.2).trans hcc.1
  have HB16 := Lib.hid (HB1'.out.below hn6)
  clear c0 c1 c2 c3 c4 d0 d1 d2 d3 d4 hb5 hn6 hcc HB2'
  go_wp2_with fail
  refine (HI.out 2 w6 ⟨14, 0, [], .slice (some ⟨gl, off, none⟩) 2 lc, .slice dA du dc⟩ (.mk 14 0 [] ([1, 2].map (leafV 8)) []) HRD6.out ⟨by decide, rfl, by decide, .inr (.inr rfl), .inr rfl, .inl rfl, by decide, leafs_ok (by decide) (by decide)⟩ (leafs_okV 0 (by decide) (by decide) (by decide) (by decide) [])).mono ?_
  rintro e w7 ⟨rfl, hn7⟩
  rw [show (decide ((normV 2 (.mk 14 0 [] ([1, 2].map (leafV 8)) [])).2 = 0) && decide (cmpV 2 (.mk 14 0 [] ([1, 2].map (leafV 8)) []) (normV 2 (.mk 14 0 [] ([1, 2].map (leafV 8)) [])).1 = 0)) = true from by
    rw [norm_set 0 (k := 8) (by decide) [1, 2]]; rfl]
  have HN7 := Lib.hid (HN6.out.trans hn7)
  have hb1 := HB16.out.below hn7
  have c0 : w7.cell? ⟨g1, 0, none⟩ = some (.int .i64 8) := hb1.cell 0
  have c1 : w7.cell? ⟨g1, 1, none⟩ = some (.int .i64 1) := hb1.cell 1
  have c2 : w7.cell? ⟨g1, 2, none⟩ = some (.string ⟨#[]⟩) := hb1.cell 2
  have c3 : w7.cell? ⟨g1, 3, none⟩ = some (.slice none 0 0) := hb1.cell 3
  have c4 : w7.cell? ⟨g1, 4, none⟩ = some (.slice none 0 0) := hb1.cell 4
  clear x0 x1 x2 x3 x4 x5 hb1 hn7
  go_wp2_with fail
  refine (HK.out 1 w7 (leafS 8 1) (leafV 8 1) (RdV.leaf 0 w7 8 1) ⟨rfl, rfl, rfl⟩).mono ?_
  rintro e w8 ⟨⟨zk, zn, zs, zl, zd⟩, rfl, hz, ⟨zA, zu, zc, rfl⟩, ⟨yA, yu, yc, rfl⟩, hn8⟩
  obtain ⟨h1, h2, h3, -, -⟩ := hz
  dsimp only at h1 h2 h3
  subst h1 h2 h3
  have HN8 := Lib.hid (HN7.out.trans hn8)
  rw [valA_agg]
  have hf : Sem.run Try.prog (Instr.field 29 (Value.agg #[.int .i64 8, .int .i64 1, .string ⟨#[]⟩, .slice zA zu zc, .slice yA yu yc]) 1) w8 = Result.ok (.int .i64 1) w8 := by kernel_rfl
  clear hn8 c0 c1 c2 c3 c4
  go_wp2_with fail
  go_ret
  exact ⟨rfl, HN8.out⟩
end Go.Proofs.Ytjeadmndnbggmaa
