/- The contract of next. -/
import Derived.Test.YtpaacfoiiihbeaaDoorKinG
set_option linter.unusedVariables false
set_option linter.unusedSimpArgs false
namespace Go.Proofs.YtpaacfoiiihbeaaDoor
open Go.RowKit

theorem Blk.put4 {w : World} {B g : Nat} {T : TypeId} {a0 a1 a2 a3 v0 v1 v2 v3 : Value} (h : Blk w B g #[a0, a1, a2, a3] T) :
    Blk ((((w.setCell ⟨g, 0, none⟩ v0).setCell ⟨g, 1, none⟩ v1).setCell ⟨g, 2, none⟩ v2).setCell ⟨g, 3, none⟩ v3) B g #[v0, v1, v2, v3] T := (((h.put 0 v0).put 1 v1).put 2 v2).put 3 v3
theorem Fr.put4 {b g : Nat} {v v' v0 v1 v2 v3 : Value} {w w' : World} (h : Fr b v w v' w') (hg : w.heap.size ≤ g) : Fr b v w v' ((((w'.setCell ⟨g, 0, none⟩ v0).setCell ⟨g, 1, none⟩ v1).setCell ⟨g, 2, none⟩ v2).setCell ⟨g, 3, none⟩ v3) := (((h.put hg 0 v0).put hg 1 v1).put hg 2 v2).put hg 3 v3
theorem CurK.other4 {w : World} {b g : Nat} {s : ByteArray} {o d dp : Int} {v v0 v1 v2 v3 : Value} {sb : Nat} (h : CurK w b s o d dp v sb) (hg : g ≠ b) : CurK ((((w.setCell ⟨g, 0, none⟩ v0).setCell ⟨g, 1, none⟩ v1).setCell ⟨g, 2, none⟩ v2).setCell ⟨g, 3, none⟩ v3) b s o d dp v sb :=
  (((Blk.other h hg 0 v0).other hg 1 v1).other hg 2 v2).other hg 3 v3
theorem OwnN.set4 {w : World} {B c : Nat} {v v0 v1 v2 v3 : Value} {xs : List ByteArray} (h : OwnN w B v xs) (hc : v.ownBlock ≠ some c) :
    OwnN ((((w.setCell ⟨c, 0, none⟩ v0).setCell ⟨c, 1, none⟩ v1).setCell ⟨c, 2, none⟩ v2).setCell ⟨c, 3, none⟩ v3) B v xs := (((h.set hc 0 v0).set hc 1 v1).set hc 2 v2).set hc 3 v3
theorem cells4 {w : World} {B g : Nat} {T : TypeId} {a0 a1 a2 a3 : Value} (h : Blk w B g #[a0, a1, a2, a3] T) :
    w.cell? ⟨g, 0, none⟩ = some a0 ∧ w.cell? ⟨g, 1, none⟩ = some a1 ∧ w.cell? ⟨g, 2, none⟩ = some a2 ∧ w.cell? ⟨g, 3, none⟩ = some a3 ∧ w.frozen? ⟨g, 0, none⟩ = false ∧ w.frozen? ⟨g, 1, none⟩ = false ∧ w.frozen? ⟨g, 2, none⟩ = false ∧ w.frozen? ⟨g, 3, none⟩ = false :=
  ⟨h.cell 0, h.cell 1, h.cell 2, h.cell 3, h.free 0, h.free 1, h.free 2, h.free 3⟩

/-- a cell of the head is set -/
theorem Pre.stepH {w w3 : World} {b g : Nat} {s : ByteArray} {l : List UInt8} {o D1 DP sb B o2 DP2 : Nat} {v v2 : Value} {ns ns2 : List ByteArray} {cs : Array Value} (h : Pre w b s l o D1 DP sb B v ns) (hF : Fr b v w v2 w3) (hc : CurK w3 b s (o2 : Int) (D1 : Int) (DP2 : Int) v2 sb)
    (hO : OwnN w3 B v2 ns2) (hB : Blk w3 g g cs 42) (hg : w.heap.size ≤ g) (hgb : g ≠ b) (u : Value) (i : Nat) (ho : o2 ≤ l.length) (hn : ns2.length ≤ o2) (hle : D1 ≤ DP2) (hdp : DP2 ≤ 12) :
    Pre (w3.setCell ⟨g, i, none⟩ u) b s l o2 D1 DP2 sb B v2 ns2 :=
  h.fr (hF.put hg i u) (Blk.other hc hgb i u) ho (hO.set (hO.ne hB (by decide)) i u) hn hle hdp

theorem addT_err (n : Nat) (p : Nat × Ty × Nat) : (addT n p).1 = p.1 := by
  unfold addT
  split
  · rfl
  · rename_i h; simp at h; exact h.symm
theorem addT_ok (n : Nat) (p : Nat × Ty × Nat) (h : p.1 = 0) : addT n p = (0, p.2.1, n + p.2.2) := by
  unfold addT
  rw [if_neg (by simpa using h)]
theorem innT_head (par : List UInt8 → Nat × Ty × Nat) (k : Nat) (l : List UInt8) (h : (innT par k l).1 = 0) : (headT (innT par k l).2.1).1 = k ∧ (headT (innT par k l).2.1).2.1 = [] := by
  unfold innT at h ⊢
  split at h
  · cases h
  · rename_i h1
    rw [if_neg h1]
    split at h
    · rename_i h2; exact absurd h h2
    · rename_i h2
      rw [if_neg h2]
      split at h
      · rename_i h3
        rw [if_pos h3]
        split at h
        · cases h
        · rename_i h4
          rw [if_neg h4]
          split at h
          · rename_i h5; exact absurd h h5
          · rename_i h5
            rw [if_neg h5]
            split at h
            · cases h
            · rename_i h6
              rw [if_neg h6]
              exact ⟨h3.symm, rfl⟩
      · rename_i h3
        rw [if_neg h3]
        split at h
        · cases h
        · rename_i h4
          rw [if_neg h4]
          exact ⟨rfl, rfl⟩
theorem witT_head (r k : Nat) (l : List UInt8) (h : (witT r k l).1 = 0) : (headT (witT r k l).2.1).1 = k ∧ (headT (witT r k l).2.1).2.1 = [] := by
  unfold witT at h ⊢
  split at h
  · rename_i h1
    rw [if_pos h1]
    exact ⟨rfl, rfl⟩
  · rename_i h1
    rw [if_neg h1]
    cases r with
    | zero => cases h
    | succ r => exact innT_head _ _ _ h

theorem OwnN.nx {w w' : World} {B : Nat} {v : Value} {xs : List ByteArray} (h : OwnN w B v xs) (hn : Nx w w') : OwnN w' B v xs := OwnS.nx h hn

set_option maxRecDepth 100000 in
set_option maxHeartbeats 6400000 in
theorem next_step (r : Nat) (hN : ∀ r', r = r' + 1 → NextC r') : NextC r := by
  intro w b s l o D DP sb B v ns hP hD
  have HP := Lib.hid hP
  have HN := Lib.hid hN
  have HD := Lib.hid hD
  obtain ⟨g, hg⟩ : ∃ g, w.heap.size = g := ⟨_, rfl⟩
  have hB0 := Blk.new w #[.int .i64 0, .string ⟨#[]⟩, .string ⟨#[]⟩, .string ⟨#[]⟩] 42
  rw [hg] at hB0
  have hN0 : Nx w (w.alloc (Obj.cells #[.int .i64 0, .string ⟨#[]⟩, .string ⟨#[]⟩, .string ⟨#[]⟩] 42)) := nx0 _ _
  have hgb : g ≠ b := by have := hP.bB; have := hP.bz; omega
  have HGB := Lib.hid hgb
  have hgI : w.heap.size ≤ g := by omega
  have hP1 := hP.nx hN0
  have HB0 := Lib.hid hB0
  have HN0 := Lib.hid hN0
  have HP1 := Lib.hid hP1
  obtain ⟨l1, hl1⟩ : ∃ l1, Hid (l.drop o = l1) := ⟨_, rfl⟩
  have hpw := parT_word r l1
  rw [hl1.out]
  obtain ⟨N, hNn⟩ : ∃ N, Hid (spanN isNmS l1 = N) := ⟨_, rfl⟩
  have hNl : o + N ≤ l.length := by have := spanN_le isNmS l1; rw [hNn.out, ← hl1.out] at this; have := hP.ho; simp at *; omega
  rw [hNn.out] at hpw
  obtain ⟨W, hW⟩ : ∃ W, Hid (l1.take N = W) := ⟨_, rfl⟩
  rw [hW.out] at hpw
  have hWl : W.length = N := by rw [← hW.out, ← hNn.out]; exact wl l1
  have HWL := Lib.hid hWl
  obtain ⟨R, hR⟩ : ∃ R, Hid (parT r l1 = R) := ⟨_, rfl⟩
  rw [hR.out] at hpw ⊢
  have HPW := Lib.hid hpw
  clear hP hN hD hB0 hN0 hgb hP1 hpw hWl
  go_enter Tryd.func23, Tryd.ntmps23
  go_wp2_with fail
  generalize hW0 : World.alloc _ _ = w0
  rw [hW0] at HB0 HN0 HP1
  clear hW0
  have hwd := word_any b s l o D DP v sb w0 HP1.out.cur HP1.out.tx HP1.out.ho HP1.out.hs
  rw [hl1.out, hNn.out, hW.out] at hwd
  refine hwd.mono ?_; rintro e w1 ⟨u, rfl, HU, hC1, hO1⟩
  clear hwd
  obtain ⟨O1, hO1e⟩ : ∃ O1, o + N = O1 := ⟨_, rfl⟩
  rw [hO1e] at hC1 hNl
  have HO1e := Lib.hid hO1e
  have hP2 := HP1.out.oth hO1 hC1 (by omega) hNl HP1.out.le HP1.out.dp
  have hB2 := hO1.blk HB0.out HGB.out
  have HP2 := Lib.hid hP2
  have HB2 := Lib.hid hB2
  have HO2 : Hid (Oth b w w1) := (Oth.nx HN0.out).trans hO1
  clear hC1 hO1 hP2 hO1e
  obtain ⟨c0, c1, c2, c3, f0, f1, f2, f3⟩ := cells4 hB2
  clear hB2
  obtain ⟨k, hk⟩ : ∃ k, Hid (kindW W = k) := ⟨_, rfl⟩
  have hk17 : k < 17 := by
    rcases kindW_is W with h | ⟨h, -⟩
    · rw [hk.out] at h; omega
    · rw [hk.out] at h; unfold isKw at h; omega
  rw [hk.out] at HPW
  have HK17 := Lib.hid hk17
  have hkI : (k : Int) < 17 := by omega
  go_wp2_with fail
  have hko := kindOf_any u W w1 HU.out HP2.out.tab
  rw [hk.out] at hko
  refine hko.mono ?_; rintro e w' ⟨rfl, rfl⟩
  clear hko
  by_cases hk0 : k = 0
  · subst hk0
    rw [show ((0 : Nat) : Int) = 0 from rfl]
    go_wp2_with fail
    have HB3 : Hid (Blk (World.setCell w' ⟨g, 0, none⟩ (.int .i64 0)) g g #[.int .i64 0, .string ⟨#[]⟩, .string ⟨#[]⟩, .string ⟨#[]⟩] 42) := HB2.out.put 0 _
    have HF3 : Hid (Fr b v w v (World.setCell w' ⟨g, 0, none⟩ (.int .i64 0))) := (Fr.oth HO2.out v).put hgI 0 _
    have HP3 : Hid (Pre (World.setCell w' ⟨g, 0, none⟩ (.int .i64 0)) b s l O1 D DP sb B v ns) := HP.out.stepH (Fr.oth HO2.out v) HP2.out.cur HP2.out.own HB2.out hgI HGB.out _ _ HP2.out.ho HP2.out.nsl HP2.out.le HP2.out.dp
    clear c0 c1 c2 c3 f0 f1 f2 f3
    generalize World.setCell w' ⟨g, 0, none⟩ (.int .i64 0) = w3 at *
    have hWs : (W.length : Int) ≤ 100000 := by have := HWL.out; have := HP.out.hs; have := HO1e.out; omega
    refine (isName_any u W w3 HU.out hWs HP3.out.tab HP3.out.maxc).mono ?_; rintro e w4 ⟨rfl, n4, hw4⟩
    have HN4 : Hid (Nx w3 w4) := by unfold Hid; rw [hw4]; exact Nx.drewN _ _
    clear hw4
    have HB4 := Lib.hid (HB3.out.below HN4.out)
    have HF4 := Lib.hid (HF3.out.trans (Fr.nx HN4.out _ _))
    have HP4 := Lib.hid (HP3.out.nx HN4.out)
    obtain ⟨c0, c1, c2, c3, f0, f1, f2, f3⟩ := cells4 HB4.out
    have c4 : w4.cell? ⟨b, 4, none⟩ = some v := HP4.out.cur.cell 4
    have fb4 : w4.frozen? ⟨b, 4, none⟩ = false := HP4.out.cur.free 4
    have HPW : Hid (R = nameT W) := by unfold Hid; rw [HPW.out]; exact if_pos trivial
    obtain ⟨NB, hNB⟩ : ∃ NB, Hid (nameOk W = NB) := ⟨_, rfl⟩
    rw [hNB.out]
    cases NB
    · have HR : Hid (R = noTy 2) := by unfold Hid; rw [HPW.out]; unfold nameT; rw [hNB.out]; rfl
      go_wp2_with fail
      refine bodyPost_ret (results_cell_tmp_rowK rfl _ _ g _ _ _ _ rfl HB4.out.put4.2 Tryd.underlying42 rfl (by kernel_rfl)) rfl ?_
      rw [HR.out]
      exact ⟨_, _, _, _, rfl, fun h => absurd h (by decide), Aft.err (HP4.out.cur.other4 HGB.out) (HF4.out.put4 hgI) (by decide)⟩
    · have HR : Hid (R = (0, .nm W, N)) := by unfold Hid; rw [HPW.out]; unfold nameT; rw [hNB.out, HWL.out]; rfl
      have hgb := HGB.out
      have hnsl : (ns.length : Int) ≤ 100000 := by have := HP4.out.nsl; have := HP4.out.hs; omega
      have HNE := Lib.hid (HP4.out.own.ne HB4.out (by decide))
      have HOW : Hid (OwnN ((w4.setCell ⟨g, 1, none⟩ (.string u)).alloc (.cells #[.string u] 9)) B v ns) := (HP4.out.own.set HNE.out 1 _).nx (nx0 _ _)
      have HCL : Hid (((w4.setCell ⟨g, 1, none⟩ (.string u)).alloc (.cells #[.string u] 9)).cell? ⟨w4.heap.size, 0, none⟩ = some (.string u)) := by
        have := (Blk.new (w4.setCell ⟨g, 1, none⟩ (.string u)) #[.string u] 9).cell 0
        have e : (w4.setCell ⟨g, 1, none⟩ (.string u)).heap.size = w4.heap.size := by simp [World.setCell]
        rw [e] at this
        exact this
      have HBZ : Hid (B ≤ ((w4.setCell ⟨g, 1, none⟩ (.string u)).alloc (.cells #[.string u] 9)).heap.size) := by
        have := HP4.out.bz
        have e := (nx0 (w4.setCell ⟨g, 1, none⟩ (.string u)) (.cells #[.string u] 9)).size
        have e2 : (w4.setCell ⟨g, 1, none⟩ (.string u)).heap.size = w4.heap.size := by simp [World.setCell]
        unfold Hid
        omega
      have HCW : Hid (CurK ((w4.setCell ⟨g, 1, none⟩ (.string u)).alloc (.cells #[.string u] 9)) b s (O1 : Int) (D : Int) (DP : Int) v sb) := Blk.alloc (Blk.other HP4.out.cur hgb _ _) _
      have HBW : Hid (Blk ((w4.setCell ⟨g, 1, none⟩ (.string u)).alloc (.cells #[.string u] 9)) g g #[.int .i64 0, .string u, .string ⟨#[]⟩, .string ⟨#[]⟩] 42) := (HB4.out.put 1 _).alloc _
      have HFW : Hid (Fr b v w v ((w4.setCell ⟨g, 1, none⟩ (.string u)).alloc (.cells #[.string u] 9))) := (HF4.out.put hgI 1 _).trans (Fr.nx (nx0 _ _) _ _)
      have HVB := Lib.hid (HP4.out.ne b HP4.out.bB)
      clear hgb
      go_wp2_with (refine wpList_appN _ (o := ⟨some 36, _, _, _, _, _⟩) rfl _ _ rfl B v ns u rfl HOW.out _ rfl HCL.out hnsl HBZ.out ?_; intro v5 w5 hown5 hfr5; have HOW5 := Lib.hid hown5; have HFR5 := Lib.hid hfr5; clear hfr5 c0 c1 c2 c3 c4 f0 f1 f2 f3 fb4; obtain ⟨A5, q5, rfl, _, _, _⟩ := OwnS.sl strC_size hown5; clear hown5; have HC5 : Hid (CurK w5 b s (O1 : Int) (D : Int) (DP : Int) v sb) := (HFR5.out g).blk HCW.out (Ne.symm HGB.out) HVB.out; have HB5 := Lib.hid ((HFR5.out b).blk HBW.out HGB.out HNE.out); have c4 : w5.cell? ⟨b, 4, none⟩ = some v := HC5.out.cell 4; have fb4 : w5.frozen? ⟨b, 4, none⟩ = false := HC5.out.free 4; obtain ⟨c0, c1, c2, c3, f0, f1, f2, f3⟩ := cells4 HB5.out; have hgb := HGB.out)
      have e5 : (ns ++ [u]).length = ns.length + 1 := by simp
      rw [e5] at HOW5 HFR5
      have hgb5 := HGB.out
      have hC6 := HC5.out.put4 (Value.slice A5 (ns.length + 1) q5)
      have hB6 := HB5.out.other (Ne.symm hgb5) 4 (Value.slice A5 (ns.length + 1) q5)
      have hF6 := (HFW.out.trans (HFR5.out b)).trans (Fr.set w5 b 4 (Value.slice A5 (ns.length + 1) q5) (Value.slice A5 (ns.length + 1) q5))
      refine bodyPost_ret (results_cell_tmp_rowK rfl _ _ g _ _ _ _ rfl hB6.put4.2 Tryd.underlying42 rfl (by kernel_rfl)) rfl ?_
      rw [HR.out]
      refine ⟨_, _, _, _, rfl, fun _ => ⟨rfl, HU.out, rfl, rfl⟩, _, _, _, hC6.other4 hgb5, hF6.put4 hgI, fun _ => ⟨?_, ?_, ?_⟩⟩
      · rw [HO1e.out]
      · have := HP.out.le; dsimp only [depthT]; congr 1; omega
      · have hu : nmB (.nm W) = [u] := by
          show [(⟨W.toArray⟩ : ByteArray)] = [u]
          rw [← HU.out.eq]
        dsimp only
        rw [hu]
        have h1 : (Value.slice A5 (ns.length + 1) q5).ownBlock ≠ some g := HOW5.out.ne HB5.out (by decide)
        have h2 : (Value.slice A5 (ns.length + 1) q5).ownBlock ≠ some b := fun e => by have := (HOW5.out.own b e).1; have := HP.out.bB; omega
        exact (HOW5.out.set h2 4 _).set4 h1
  · have hb : ((k : Int) != 0) = true := by rw [bne_iff_ne]; omega
    have HR : Hid (R = addT N (witT r k (l.drop O1))) := by
      unfold Hid; rw [HPW.out, if_neg hk0, ← hl1.out, List.drop_drop, HO1e.out]
    have HK0 := Lib.hid hk0
    clear hk0
    go_wp2_with fail
    have HB3 : Hid (Blk (World.setCell w' ⟨g, 0, none⟩ (.int .i64 (k : Int))) g g #[.int .i64 (k : Int), .string ⟨#[]⟩, .string ⟨#[]⟩, .string ⟨#[]⟩] 42) := HB2.out.put 0 _
    have HF3 : Hid (Fr b v w v (World.setCell w' ⟨g, 0, none⟩ (.int .i64 (k : Int)))) := (Fr.oth HO2.out v).put hgI 0 _
    have HP3 : Hid (Pre (World.setCell w' ⟨g, 0, none⟩ (.int .i64 (k : Int))) b s l O1 D DP sb B v ns) := HP.out.stepH (Fr.oth HO2.out v) HP2.out.cur HP2.out.own HB2.out hgI HGB.out _ _ HP2.out.ho HP2.out.nsl HP2.out.le HP2.out.dp
    clear c0 c1 c2 c3 f0 f1 f2 f3
    generalize World.setCell w' ⟨g, 0, none⟩ (.int .i64 (k : Int)) = w3 at *
    refine (within_any r HN.out w3 b s l O1 D DP sb B v ns k HK17.out HP3.out HD.out).mono ?_; rintro e w4 ⟨A, C, rfl, hh, o4, dp4, v4, hC4, hF4, hA4⟩
    obtain ⟨Q, hQ⟩ : ∃ Q, Hid (witT r k (l.drop O1) = Q) := ⟨_, rfl⟩
    rw [hQ.out] at hh hA4 HR ⊢
    have HB4 := Lib.hid (hF4.blk HB3.out HGB.out (HP3.out.own.ne HB3.out (by decide)))
    have HF4 := Lib.hid (HF3.out.trans hF4)
    have HC4 := Lib.hid hC4
    have HA4 := Lib.hid hA4
    have HH := Lib.hid hh
    obtain ⟨c0, c1, c2, c3, f0, f1, f2, f3⟩ := cells4 HB4.out
    clear hC4 hF4 hA4 hh
    go_wp2_with fail
    have hB6 := (HB4.out.put 2 (.string A)).put 3 (.string C)
    refine bodyPost_ret (results_cell_tmp_rowK rfl _ _ g _ _ _ _ rfl (Blk.put4 (a0 := .int .i64 (k : Int)) (a1 := .string ⟨#[]⟩) (a2 := .string A) (a3 := .string C) hB6).2 Tryd.underlying42 rfl (by kernel_rfl)) rfl ?_
    have hR1 : R.1 = Q.1 := by rw [HR.out]; exact addT_err _ _
    have hwh := witT_head r k (l.drop O1)
    rw [hQ.out] at hwh
    refine ⟨(k : Int), ⟨#[]⟩, A, C, by rw [← hR1]; rfl, fun h0 => ?_, o4, dp4, v4, CurK.other4 (Blk.other (Blk.other HC4.out (Ne.symm (Ne.symm HGB.out)) _ _) HGB.out _ _) HGB.out, ((HF4.out.put hgI 2 _).put hgI 3 _).put4 hgI, fun h0 => ?_⟩
    · have hq : Q.1 = 0 := by rw [← hR1]; exact h0
      have hRq : R = (0, Q.2.1, N + Q.2.2) := by rw [HR.out]; exact addT_ok _ _ hq
      rw [hRq]
      have h1 := hwh hq
      have h2 := HH.out hq
      exact ⟨by rw [h1.1], by rw [h1.2]; rfl, h2.1, h2.2⟩
    · have hq : Q.1 = 0 := by rw [← hR1]; exact h0
      have hRq : R = (0, Q.2.1, N + Q.2.2) := by rw [HR.out]; exact addT_ok _ _ hq
      rw [hRq]
      obtain ⟨h1, h2, h3⟩ := HA4.out hq
      refine ⟨?_, h2, ?_⟩
      · rw [h1]; have := HO1e.out; dsimp only; congr 1; omega
      · have hg4 : v4.ownBlock ≠ some g := h3.ne HB4.out (by decide)
        exact ((h3.set hg4 2 _).set hg4 3 _).set4 hg4

theorem next_all : ∀ r, NextC r := by
  intro r
  induction r with
  | zero => exact next_step 0 (fun r' h => by omega)
  | succ r ih => exact next_step (r + 1) (fun r' h => Nat.succ.inj h ▸ ih)
end Go.Proofs.YtpaacfoiiihbeaaDoor
