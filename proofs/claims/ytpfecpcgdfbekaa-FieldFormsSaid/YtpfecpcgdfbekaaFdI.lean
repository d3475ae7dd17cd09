/- The walk of FieldForms. -/
import Derived.Test.YtpfecpcgdfbekaaFdH
set_option linter.unusedVariables false
set_option linter.unusedSimpArgs false
namespace Go.Proofs.Ytpfecpcgdfbekaa
open Go.RowKit

theorem fd_allocs : ∀ (os : List Obj) (w : World), Nx w (os.foldl World.alloc w) ∧ (os.foldl World.alloc w).heap.size = w.heap.size + os.length ∧ ∀ k (h : k < os.length), (os.foldl World.alloc w).heap[w.heap.size + k]? = some os[k]
  | [], w => ⟨Nx.refl _, rfl, fun k h => absurd h (by simp)⟩
  | o :: os, w => by
    obtain ⟨h1, h2, h3⟩ := fd_allocs os (w.alloc o)
    have hs : (w.alloc o).heap.size = w.heap.size + 1 := by simp
    refine ⟨Nx.trans (nx0 w o) h1, ?_, fun k h => ?_⟩
    · show (List.foldl World.alloc (w.alloc o) os).heap.size = _
      rw [h2, hs]; simp only [List.length_cons]; omega
    · cases k with
      | zero =>
        show (List.foldl World.alloc (w.alloc o) os).heap[w.heap.size]? = _
        rw [h1.block _ (by omega)]; exact heap_alloc_new w o
      | succ k =>
        have := h3 k (by simpa using h)
        rw [hs] at this
        show (List.foldl World.alloc (w.alloc o) os).heap[w.heap.size + (k + 1)]? = _
        rw [show w.heap.size + (k + 1) = w.heap.size + 1 + k by omega]; exact this
def ffA : Fd := ⟨false, 0, [97]⟩
def ffB : Fd := ⟨true, 32767, [98]⟩
def ffC : Fd := ⟨true, 32768, [99]⟩
def ffD : Fd := ⟨true, -1, [100]⟩
def ffG : Fd := ⟨true, 5, [97]⟩
def ffH : Fd := ⟨false, 0, [104]⟩
def ffO (g : Nat) : List Obj := [.cells (fdV ffA fz) 39, .cells (fdV ffB fz) 39, .cells (fdV ffC fz) 39, .cells (fdV ffD fz) 39, .cells (fdV ffG fz) 39, .cells (fdV ffH fz) 39,
  .cells (rowL (fun f => fdV f fz) []).toArray 39, .cells (rowL (fun f => fdV f fz) [ffA, ffB, ffH]).toArray 39, .cells (rowL (fun f => fdV f fz) [ffC]).toArray 39, .cells (rowL (fun f => fdV f fz) [ffD]).toArray 39, .cells (rowL (fun f => fdV f fz) [ffA, ffG]).toArray 39, .cells (rowL (fun f => fdV f fz) [ffB, ffB]).toArray 39, .cells (rowL (fun f => fdV f fz) [ffC, ffA, ffA]).toArray 39, .cells (rowL (fun f => fdV f fz) [ffA, ffA, ffC]).toArray 39,
  .cells #[.slice (some ⟨g + 6, 0, none⟩) 0 0, .slice (some ⟨g + 7, 0, none⟩) 3 3, .slice (some ⟨g + 8, 0, none⟩) 1 1, .slice (some ⟨g + 9, 0, none⟩) 1 1, .slice (some ⟨g + 10, 0, none⟩) 2 2, .slice (some ⟨g + 11, 0, none⟩) 2 2, .slice (some ⟨g + 12, 0, none⟩) 3 3, .slice (some ⟨g + 13, 0, none⟩) 3 3] 22,
  .cells #[.int .i64 0, .int .i64 0, .int .i64 5, .int .i64 5, .int .i64 8, .int .i64 8, .int .i64 5, .int .i64 8] 25]
/-- each list of fields, and what is told of it -/
def FfL (W : World) (gF : Nat) : Prop := ∀ i, i < 8 → ∃ h n fs ids e0, W.cell? ⟨gF, i, none⟩ = some (.slice (some ⟨h, 0, none⟩) n n) ∧ Blk W h h ((rowL (fun f => fdV f fz) fs).toArray) 39 ∧ fs.length = n ∧ n ≤ 100 ∧ (∀ f ∈ fs, f.nm.length ≤ 100) ∧ idsP fs (-1) [] [] = (ids, e0) ∧ W.cell? ⟨gF + 1, i, none⟩ = some (.int .i64 e0)
theorem ff_lie {W : World} {g : Nat} (hk : ∀ k (h : k < (ffO g).length), W.heap[g + k]? = some (ffO g)[k]) : FfL W (g + 14) := by
  have b14 : Blk W (g + 14) (g + 14) _ _ := ⟨Nat.le_refl _, hk 14 (show 14 < 16 by decide)⟩
  have b15 : Blk W (g + 14 + 1) (g + 14 + 1) _ _ := ⟨Nat.le_refl _, hk 15 (show 15 < 16 by decide)⟩
  intro i hi
  match i, hi with
  | 0, _ => exact ⟨g + 6, 0, [], [], 0, b14.cell 0, ⟨Nat.le_refl _, hk 6 (show 6 < 16 by decide)⟩, rfl, by decide, by decide, by decide, b15.cell 0⟩
  | 1, _ => exact ⟨g + 7, 3, [ffA, ffB, ffH], [-1, 32767, -2], 0, b14.cell 1, ⟨Nat.le_refl _, hk 7 (show 7 < 16 by decide)⟩, rfl, by decide, by decide, by decide, b15.cell 1⟩
  | 2, _ => exact ⟨g + 8, 1, [ffC], [], 5, b14.cell 2, ⟨Nat.le_refl _, hk 8 (show 8 < 16 by decide)⟩, rfl, by decide, by decide, by decide, b15.cell 2⟩
  | 3, _ => exact ⟨g + 9, 1, [ffD], [], 5, b14.cell 3, ⟨Nat.le_refl _, hk 9 (show 9 < 16 by decide)⟩, rfl, by decide, by decide, by decide, b15.cell 3⟩
  | 4, _ => exact ⟨g + 10, 2, [ffA, ffG], [], 8, b14.cell 4, ⟨Nat.le_refl _, hk 10 (show 10 < 16 by decide)⟩, rfl, by decide, by decide, by decide, b15.cell 4⟩
  | 5, _ => exact ⟨g + 11, 2, [ffB, ffB], [], 8, b14.cell 5, ⟨Nat.le_refl _, hk 11 (show 11 < 16 by decide)⟩, rfl, by decide, by decide, by decide, b15.cell 5⟩
  | 6, _ => exact ⟨g + 12, 3, [ffC, ffA, ffA], [], 5, b14.cell 6, ⟨Nat.le_refl _, hk 12 (show 12 < 16 by decide)⟩, rfl, by decide, by decide, by decide, b15.cell 6⟩
  | 7, _ => exact ⟨g + 13, 3, [ffA, ffA, ffC], [], 8, b14.cell 7, ⟨Nat.le_refl _, hk 13 (show 13 < 16 by decide)⟩, rfl, by decide, by decide, by decide, b15.cell 7⟩
theorem ff_one {W : World} {g : Nat} (hk : ∀ k (h : k < (ffO g).length), W.heap[g + k]? = some (ffO g)[k]) : ∃ h, W.cell? ⟨g + 14, 1, none⟩ = some (.slice (some ⟨h, 0, none⟩) 3 3) ∧ Blk W h h ((rowL (fun f => fdV f fz) [ffA, ffB, ffH]).toArray) 39 :=
  ⟨g + 7, (show Blk W (g + 14) (g + 14) _ _ from ⟨Nat.le_refl _, hk 14 (show 14 < 16 by decide)⟩).cell 1, ⟨Nat.le_refl _, hk 7 (show 7 < 16 by decide)⟩⟩
theorem ffOrd : Ord (fun i => [(3 : Int), -1, 3, 0].getD i 0) 4 [1, 3, 0, 2] := ⟨by decide, by simp [lx, List.getD]⟩
set_option maxRecDepth 100000 in
set_option maxHeartbeats 6400000 in
theorem FieldForms_walk (w : World) : Calls Try.prog 5 #[] w fun e w' => e = .returned (.bool true) ∧ Below w.heap.size w w' := by
  have HBG := Lib.hid (fdbegun_any w)
  go_enter Try.func5, Try.ntmps5
  go_wp2_with fail
  refine HBG.out.mono ?_; rintro e w1 ⟨rfl, hn1⟩
  have HN1 := Lib.hid hn1
  clear hn1 HBG
  go_upto_region 11 with (fail)
  obtain ⟨g, hg⟩ : ∃ g, w1.heap.size = g := ⟨_, rfl⟩
  rw [hg]
  obtain ⟨gF, hgF⟩ : ∃ x, g + 1 + 1 + 1 + 1 + 1 + 1 + 1 + 1 + 1 + 1 + 1 + 1 + 1 + 1 = x := ⟨_, rfl⟩
  rw [hgF]
  generalize hW : (((((((((((((((w1.alloc _).alloc _).alloc _).alloc _).alloc _).alloc _).alloc _).alloc _).alloc _).alloc _).alloc _).alloc _).alloc _).alloc _).alloc _).alloc _ = W
  have hA : W = (ffO g).foldl World.alloc w1 := hW.symm
  obtain ⟨hn, hsz, hk⟩ := fd_allocs (ffO g) w1
  rw [← hA] at hn hsz hk
  rw [hg] at hk hsz
  have hgF' : gF = g + 14 := hgF.symm
  have hl := ff_lie hk
  have hl1 := ff_one hk
  rw [← hgF'] at hl hl1
  have HL := Lib.hid hl
  have HL1 := Lib.hid hl1
  have HWN := Lib.hid (HN1.out.trans hn)
  clear hA hn hsz hk hW hgF' hgF hg hl hl1
  go_wp2_with fail
  go_loopw [9] (fun v wr => ∃ i : Nat, v = .int .i64 (i : Int) ∧ i ≤ 8 ∧ Hid (Nx W wr)) (fun v _ => (8 - intOf v).toNat)
  case atStart => exact ⟨0, rfl, by decide, Lib.hid (Nx.refl _)⟩
  case round =>
    obtain ⟨i, rfl, hi, HN⟩ := hrel
    by_cases hlt : i < 8
    · obtain ⟨h, n, fs, ids, e0, c0, hb, hln, hn9, hnm, hids, c1⟩ := HL.out i hlt
      have q1 : decide ((i : Int) < 8) = true := decide_eq_true (by omega)
      have q2 : (i : Int) < 8 := by omega
      have q3 : (0 : Int) ≤ (i : Int) := by omega
      have HC := Lib.hid (ids_w wr h n fs ids e0 (hb.below HN.out) hln hn9 hnm hids)
      have lt0 := World.block_lt_of_cell? W _ c0
      have lt1 := World.block_lt_of_cell? W _ c1
      have d0 : wr.cell? ⟨gF, i, none⟩ = some (.slice (some ⟨h, 0, none⟩) n n) := (HN.out.cell (p := ⟨gF, i, none⟩) lt0).trans c0
      have C1 := Lib.hid c1
      have LT := Lib.hid lt1
      have HLT := Lib.hid hlt
      have b1 : (e0 != e0) = false := by simp
      clear c0 c1 hb hids hnm lt0 lt1 hlt
      go_wp2_with fail
      refine HC.out.mono ?_; rintro e w2 ⟨A2, m2, rfl, -, -, -, hn2⟩
      have HN2 := Lib.hid (HN.out.trans hn2)
      have d1 : w2.cell? ⟨gF + 1, i, none⟩ = some (.int .i64 e0) := (HN2.out.cell (p := ⟨gF + 1, i, none⟩) LT.out).trans C1.out
      clear d0 hn2 HC
      go_wp2_with fail
      go_roundw
      case rel => exact ⟨i + 1, by go_num, HLT.out, HN2⟩
      case measure => have := HLT.out; simp [intOf]; omega
    · obtain rfl : i = 8 := by omega
      rw [show ((8 : Nat) : Int) = 8 from rfl]
      have q1 : decide ((8 : Int) < 8) = false := by decide
      obtain ⟨h, c0, hb⟩ := HL1.out
      have HC := Lib.hid (ids_w wr h 3 [ffA, ffB, ffH] [-1, 32767, -2] 0 (hb.below HN.out) rfl (by decide) (by decide) (by decide))
      have lt0 := World.block_lt_of_cell? W _ c0
      have d0 : wr.cell? ⟨gF, 1, none⟩ = some (.slice (some ⟨h, 0, none⟩) 3 3) := (HN.out.cell (p := ⟨gF, 1, none⟩) lt0).trans c0
      clear c0 hb lt0
      go_wp2_with fail
      refine HC.out.mono ?_; rintro e w2 ⟨A2, m2, rfl, -, -, ho2, hn2⟩
      dsimp only [List.length]
      have HN2 := Lib.hid (HN.out.trans hn2)
      obtain ⟨A2', m2', e2, -, -, hr2⟩ := ho2.sl
      have hA : A2' = A2 := by injection e2 with h1 h2 h3; exact h1.symm
      subst hA
      obtain ⟨g3, hg3⟩ : ∃ g, w2.heap.size = g := ⟨_, rfl⟩
      obtain ⟨w3, hw3⟩ : ∃ x, w2.alloc (.cells #[.int .i64 (-1), .int .i64 32767, .int .i64 (-2)] 3) = x := ⟨_, rfl⟩
      have hb3 : Blk w3 g3 g3 (([(-1 : Int), 32767, -2].map iv).toArray) 3 := by rw [← hw3, ← hg3]; exact Blk.new w2 _ _
      have hn3 : Nx w2 w3 := by rw [← hw3]; exact nx0 w2 _
      have HN3 := Lib.hid (HN2.out.trans hn3)
      have HS3 := Lib.hid (same_true w3 A2' (some ⟨g3, 0, none⟩) m2 3 3 [-1, 32767, -2] rfl (hr2.below hn3) (Rd.blk hb3) (by decide))
      clear d0 hn2 HC ho2 e2 hr2 hb3 hn3
      go_wp2_with fail
      refine HS3.out.mono ?_; rintro e w4 ⟨rfl, hn4⟩
      have HN4 := Lib.hid (HN3.out.trans hn4)
      obtain ⟨g5, hg5⟩ : ∃ g, w4.heap.size = g := ⟨_, rfl⟩
      obtain ⟨w5, hw5⟩ : ∃ x, w4.alloc (.cells #[.int .i64 3, .int .i64 (-1), .int .i64 3, .int .i64 0] 3) = x := ⟨_, rfl⟩
      have hb5 : Blk w5 g5 g5 (([(3 : Int), -1, 3, 0].map iv).toArray) 3 := by rw [← hw5, ← hg5]; exact Blk.new w4 _ _
      have hn5 : Nx w4 w5 := by rw [← hw5]; exact nx0 w4 _
      have HC5 := Lib.hid (order_w w5 _ 4 [3, -1, 3, 0] 4 [1, 3, 0, 2] (Rd.blk hb5) rfl (by decide) (by decide) (by decide) ffOrd)
      have HN5 := Lib.hid (HN4.out.trans hn5)
      clear hw3 hg3 hb5 hn5 hn4 HS3
      go_wp2_with fail
      refine HC5.out.mono ?_; rintro e w6 ⟨gr, rfl, hb6, hn6⟩
      have HN6 := Lib.hid (HN5.out.trans hn6)
      have hr6 : Rd iv w6 (some ⟨gr, 0, none⟩) [1, 3, 0, 2] := Rd.blk (xs := [1, 3, 0, 2]) hb6
      obtain ⟨g7, hg7⟩ : ∃ g, w6.heap.size = g := ⟨_, rfl⟩
      obtain ⟨w7, hw7⟩ : ∃ x, w6.alloc (.cells #[.int .i64 1, .int .i64 3, .int .i64 0, .int .i64 2] 3) = x := ⟨_, rfl⟩
      have hb7 : Blk w7 g7 g7 (([(1 : Int), 3, 0, 2].map iv).toArray) 3 := by rw [← hw7, ← hg7]; exact Blk.new w6 _ _
      have hn7 : Nx w6 w7 := by rw [← hw7]; exact nx0 w6 _
      have HN7 := Lib.hid (HN6.out.trans hn7)
      have HS7 := Lib.hid (same_true w7 (some ⟨gr, 0, none⟩) (some ⟨g7, 0, none⟩) 4 4 4 [1, 3, 0, 2] rfl (hr6.below hn7) (Rd.blk hb7) (by decide))
      clear hw5 hg5 hb6 hn6 hr6 hb7 hn7 HC5
      go_wp2_with fail
      refine HS7.out.mono ?_; rintro e w8 ⟨rfl, hn8⟩
      have HN8 := Lib.hid (HN7.out.trans hn8)
      clear hw7 hg7 hn8 HS7
      go_wp2_with fail
      go_ret
      exact ⟨rfl, HWN.out.trans HN8.out⟩
end Go.Proofs.Ytpfecpcgdfbekaa
