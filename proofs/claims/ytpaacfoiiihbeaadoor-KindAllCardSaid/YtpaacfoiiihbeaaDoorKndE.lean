/- The contracts of the document's reading of kinds: Head, Wire, Depth. -/
import Derived.Test.YtpaacfoiiihbeaaDoorKndD
set_option linter.unusedVariables false
set_option linter.unusedSimpArgs false
namespace Go.Proofs.YtpaacfoiiihbeaaDoor
open Go.RowKit

theorem Blk.put4n {w : World} {B g : Nat} {T : TypeId} {a0 a1 a2 a3 v0 v1 v2 v3 : Value} (h : Blk w B g #[a0, a1, a2, a3] T) :
    Blk ((((w.setCell ⟨g, 0, none⟩ v0).setCell ⟨g, 1, none⟩ v1).setCell ⟨g, 2, none⟩ v2).setCell ⟨g, 3, none⟩ v3) B g #[v0, v1, v2, v3] T := h.put4

set_option maxRecDepth 100000 in
set_option maxHeartbeats 6400000 in
theorem rhead_any (w : World) (s : ByteArray) (l : List UInt8) (hl : Tx s l) (hs : (l.length : Int) ≤ 8000) :
    Calls Tryd.prog 10 #[.string s] w fun e w' => e = .returned (.tuple #[.agg #[.int .i64 ((headW l).1 : Nat), .string (bA (headW l).2.1), .string (bA (headW l).2.2.1), .string (bA (headW l).2.2.2)], .int .i64 ((wholeT l).1 : Nat)]) ∧ Nx w w' := by
  have hz : (s.size : Int) = (l.length : Int) := by rw [hl.size]
  obtain ⟨g, hg⟩ : ∃ g, w.heap.size = g := ⟨_, rfl⟩
  have hT0 := Blk.new w #[.int .i64 0, .string ⟨#[]⟩, .string ⟨#[]⟩, .string ⟨#[]⟩] 27
  have hN0 : Nx w (w.alloc (Obj.cells #[.int .i64 0, .string ⟨#[]⟩, .string ⟨#[]⟩, .string ⟨#[]⟩] 27)) := nx0 _ _
  have hC0 := Blk.new (w.alloc (Obj.cells #[.int .i64 0, .string ⟨#[]⟩, .string ⟨#[]⟩, .string ⟨#[]⟩] 27)) #[.string s, .int .i64 0, .int .i64 0] 51
  have hT1 := hT0.alloc (.cells #[.string s, .int .i64 0, .int .i64 0] 51)
  have hN1 := hN0.al (.cells #[.string s, .int .i64 0, .int .i64 0] 51)
  have e1 : (w.alloc (Obj.cells #[.int .i64 0, .string ⟨#[]⟩, .string ⟨#[]⟩, .string ⟨#[]⟩] 27)).heap.size = g + 1 := by simp [← hg]
  rw [e1] at hC0
  rw [hg] at hT1
  obtain ⟨b, hb⟩ : ∃ b, g + 1 = b := ⟨_, rfl⟩
  rw [hb] at hC0
  have hgb : g ≠ b := by omega
  have hbg : b ≠ g := by omega
  have HC1 := Lib.hid hC0
  have HT1 := Lib.hid hT1
  have HN1 := Lib.hid hN1
  have HG := Lib.hid hg
  have HB := Lib.hid hb
  have HL := Lib.hid hl
  have hn := fun w' (h : TyC w' b s 0 0) => node_all 12 b s l 0 w' 1 rfl (by decide) h hl (Nat.zero_le _) hs
  rw [List.drop_zero] at hn
  obtain ⟨P, hP⟩ : ∃ P, Hid (parT 12 l = P) := ⟨_, rfl⟩
  have hWT : wholeT l = if P.1 ≠ 0 then (P.1, .bs 0) else if P.2.2 < l.length then (2, .bs 0) else (0, P.2.1) := by unfold wholeT; rw [hP.out]
  rw [hP.out] at hn
  have HNn := Lib.hid hn
  have HWT := Lib.hid hWT
  clear hT0 hN0 hC0 hT1 hN1 e1 hl hn hWT
  go_enter Tryd.func10, Tryd.ntmps10
  go_wp2_with fail
  generalize hW : World.alloc (World.alloc _ _) _ = w1
  rw [hW] at HC1 HT1 HN1
  clear hW
  refine (HNn.out w1 ⟨Nat.zero_le _, HC1.out.2⟩).mono ?_; rintro e w3 ⟨k, N, A, B, o', rfl, hC3, -, ho', hO3, hok⟩
  have HC3 := Lib.hid hC3
  have HO3 := Lib.hid hO3
  have HOK := Lib.hid hok
  have HT3 := Lib.hid (hO3.blk HT1.out hgb)
  clear hC3 hO3 hok hg hb
  obtain ⟨g5, hg5⟩ : ∃ g5, w3.heap.size = g5 := ⟨_, rfl⟩
  have hB4 := Blk.new w3 #[.int .i64 k, .string N, .string A, .string B] 27
  rw [hg5] at hB4
  have HB4 := Lib.hid hB4
  have HC4 : Hid (TyC (w3.alloc (.cells #[.int .i64 k, .string N, .string A, .string B] 27)) b s o' P.1) := HC3.out.below (nx0 _ _)
  have HT4 := Lib.hid (HT3.out.alloc (.cells #[.int .i64 k, .string N, .string A, .string B] 27))
  have HO4 : Hid (Oth b w1 (w3.alloc (.cells #[.int .i64 k, .string N, .string A, .string B] 27))) := HO3.out.trans (Oth.nx (nx0 _ _))
  have hg5b : g5 ≠ b := by have := HC3.out.lt; omega
  have hg5g : g5 ≠ g := by have := HT3.out.lt; omega
  have hbg5 := Ne.symm hg5b
  have hgg5 := Ne.symm hg5g
  clear hB4
  go_upto_region 3 with fail
  generalize hW4 : World.alloc w3 _ = w4
  rw [hW4] at HB4 HC4 HT4 HO4
  clear hW4
  have hNw : Nx w w4 := HO4.out.to HN1.out (by have := HG.out; have := HB.out; omega)
  have HNW := Lib.hid hNw
  have hgw : w.heap.size ≤ g := by rw [HG.out]; exact Nat.le_refl _
  have hbw : w.heap.size ≤ b := by have := HG.out; have := HB.out; omega
  have HGW := Lib.hid hgw
  have HBW := Lib.hid hbw
  clear hNw hgw hbw
  obtain ⟨c0, c1, c2, f1, f2⟩ := HC4.out.cells
  obtain ⟨n0, n1, n2, n3, m0, m1, m2, m3⟩ := cells4 HT4.out
  obtain ⟨p0, p1, p2, p3, q0, q1, q2, q3⟩ := cells4 HB4.out
  by_cases hp1 : P.1 = 0
  · obtain ⟨h1, h2⟩ := HOK.out hp1
    rw [Nat.zero_add] at h1
    rw [hp1] at c2
    have c2 : w4.cell? ⟨b, 2, none⟩ = some (.int .i64 0) := c2
    by_cases hlt : P.2.2 < l.length
    · have b3 : decide ((o' : Int) < (l.length : Int)) = true := decide_eq_true (by omega)
      have b4 : o' < l.length := by omega
      have HR : Hid (wholeT l = (2, .bs 0)) := by unfold Hid; rw [HWT.out, if_neg (by simpa using hp1), if_pos hlt]
      clear hp1 hlt h1 h2
      go_wp2_with fail
      all_goals go_region
      all_goals go_wp2_with fail
      all_goals
        have hB5 := HT4.out.other hbg 2 (.int .i64 2)
        refine bodyPost_ret (results_cell_tmp_rowK rfl _ _ g _ _ _ _ rfl (hB5.put4.drew 1).2 Tryd.underlying27 rfl (by kernel_rfl)) rfl ?_
        refine ⟨?_, (((HNW.out.put' HBW.out 2 _).put4 HGW.out).dr 1)⟩
        unfold headW
        rw [HR.out]
        rfl
    · have b3 : decide ((o' : Int) < (l.length : Int)) = false := decide_eq_false (by omega)
      have b4 : ¬ o' < l.length := by omega
      have HR : Hid (wholeT l = (0, P.2.1)) := by unfold Hid; rw [HWT.out, if_neg (by simpa using hp1), if_neg hlt]
      have HH := Lib.hid h2
      clear hp1 hlt h1 h2
      go_wp2_with fail
      refine bodyPost_ret (results_cell_tmp_rowK rfl _ _ g _ _ _ _ rfl HT4.out.put4.2 Tryd.underlying27 rfl (by kernel_rfl)) rfl ?_
      refine ⟨?_, HNW.out.put4 HGW.out⟩
      obtain ⟨h1, h2, h3, h4⟩ := HH.out
      unfold headW
      rw [HR.out, if_neg (by simp)]
      dsimp only
      rw [← h1, ← bA_tx h2, ← bA_tx h3, ← bA_tx h4]
      rfl
  · have b1 : ((P.1 : Int) == 0) = false := by rw [beq_eq_false_iff_ne]; omega
    have b2 : ((P.1 : Int) != 0) = true := by rw [bne_iff_ne]; omega
    have HR : Hid (wholeT l = (P.1, .bs 0)) := by unfold Hid; rw [HWT.out, if_pos hp1]
    have HP1 := Lib.hid hp1
    clear hp1
    go_wp2_with fail
    all_goals go_region
    all_goals go_wp2_with fail
    all_goals
      refine bodyPost_ret (results_cell_tmp_rowK rfl _ _ g _ _ _ _ rfl (HT4.out.put4.drew 1).2 Tryd.underlying27 rfl (by kernel_rfl)) rfl ?_
      refine ⟨?_, (HNW.out.put4 HGW.out).dr 1⟩
      unfold headW
      rw [HR.out, if_pos HP1.out]
      rfl

set_option maxRecDepth 100000 in
set_option maxHeartbeats 6400000 in
theorem rwire_any (k : Int) (w : World) :
    Calls Tryd.prog 17 #[.int .i64 k] w fun e w' => e = .returned (.int .i64 (wireS k)) ∧ w' = w := by
  go_enter Tryd.func17, Tryd.ntmps17
  go_wp2_with fail
  all_goals
    go_ret
    refine ⟨congrArg (fun z => Ending.returned (Value.int .i64 z)) ?_, rfl⟩
    simp only [beq_iff_eq, beq_eq_false_iff_ne, ne_eq] at *
    unfold wireS
    repeat' split
    all_goals omega
end Go.Proofs.YtpaacfoiiihbeaaDoor
