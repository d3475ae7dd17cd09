/- The contracts of within and next. -/
import Derived.Test.YtpaacfoiiihbeaaDoorKinE
import Derived.StillTailTactics
set_option linter.unusedVariables false
set_option linter.unusedSimpArgs false
namespace Go.Proofs.YtpaacfoiiihbeaaDoor
open Go.RowKit

theorem innT_depth (par : List UInt8 → Nat × Ty × Nat) (k : Nat) (l : List UInt8) (h : (innT par k l).1 = 0) : 1 ≤ depthT (innT par k l).2.1 := by
  unfold innT at h ⊢
  split at h
  · cases h
  · rename_i h1
    rw [if_neg h1]
    split at h
    · rename_i h2; exact absurd h h2
    · rename_i h2
      rw [if_neg h2]
      split at h
      · rename_i h3
        rw [if_pos h3]
        split at h
        · cases h
        · rename_i h4
          rw [if_neg h4]
          split at h
          · rename_i h5; exact absurd h h5
          · rename_i h5
            rw [if_neg h5]
            split at h
            · cases h
            · rename_i h6
              rw [if_neg h6]
              simp [depthT]
      · rename_i h3
        rw [if_neg h3]
        split at h
        · cases h
        · rename_i h4
          rw [if_neg h4]
          simp [depthT]
theorem between_any (r : Nat) (hN : NextC r) (w : World) (b : Nat) (s : ByteArray) (l : List UInt8) (o D DP sb B : Nat) (v : Value) (ns : List ByteArray) (k : Nat) (hk : k = 13 ∨ k = 14 ∨ k = 15) (hP : Pre w b s l o (D + 1) DP sb B v ns) (hD : D + 1 + r = 12) :
    Calls Tryd.prog 35 #[.pointer (some ⟨b, 0, none⟩), .int .i64 (k : Int)] w (PartR b s o (D + 1) D DP sb B v ns w (innT (parT r) k (l.drop o))) := by
  rcases hk with rfl | hk
  · exact between13_any r hN w b s l o D DP sb B v ns hP hD
  · exact between1_any r hN w b s l o D DP sb B v ns k hk hP hD
theorem sign_other {k : Nat} (h : k ≠ 13 ∧ k ≠ 14 ∧ k ≠ 15) : signV k 0 = none := by
  unfold signV
  rw [if_neg (by omega), if_neg (by omega), if_neg (by omega)]
theorem sign_some {k : Nat} (h : k = 13 ∨ k = 14 ∨ k = 15) : signV k 0 = some 60 := by
  unfold signV
  rw [if_pos (by omega)]
theorem CurK.cells {w : World} {b : Nat} {s : ByteArray} {o d dp : Int} {v : Value} {sb : Nat} (h : CurK w b s o d dp v sb) :
    w.cell? ⟨b, 0, none⟩ = some (.string s) ∧ w.cell? ⟨b, 1, none⟩ = some (.int .i64 o) ∧ w.cell? ⟨b, 2, none⟩ = some (.int .i64 d) ∧ w.cell? ⟨b, 3, none⟩ = some (.int .i64 dp) ∧ w.cell? ⟨b, 4, none⟩ = some v ∧ w.cell? ⟨b, 5, none⟩ = some (.map (some sb)) ∧
    (∀ i, w.frozen? ⟨b, i, none⟩ = false) := ⟨h.cell 0, h.cell 1, h.cell 2, h.cell 3, h.cell 4, h.cell 5, h.free⟩

theorem OwnN.set {w : World} {B c : Nat} {v : Value} {xs : List ByteArray} (h : OwnN w B v xs) (hc : v.ownBlock ≠ some c) (i : Nat) (u : Value) : OwnN (w.setCell ⟨c, i, none⟩ u) B v xs :=
  h.keep fun k e => by
    simp only [World.setCell]
    rw [Array.getElem?_modify, if_neg (fun e' => hc (by rw [e']; exact e))]

set_option maxRecDepth 100000 in
set_option maxHeartbeats 6400000 in
theorem within_any (r : Nat) (hN : ∀ r', r = r' + 1 → NextC r') (w : World) (b : Nat) (s : ByteArray) (l : List UInt8) (o D DP sb B : Nat) (v : Value) (ns : List ByteArray) (k : Nat) (hk : k < 17) (hP : Pre w b s l o D DP sb B v ns) (hD : D + r = 12) :
    Calls Tryd.prog 32 #[.pointer (some ⟨b, 0, none⟩), .int .i64 (k : Int)] w (PartR b s o D D DP sb B v ns w (witT r k (l.drop o))) := by
  have HP := Lib.hid hP
  have HN := Lib.hid hN
  have HD := Lib.hid hD
  have HK := Lib.hid hk
  obtain ⟨g, hg⟩ : ∃ g, w.heap.size = g := ⟨_, rfl⟩
  have hB0 := Blk.new w #[.string ⟨#[]⟩, .string ⟨#[]⟩] 40
  rw [hg] at hB0
  have hN0 : Nx w (w.alloc (Obj.cells #[.string ⟨#[]⟩, .string ⟨#[]⟩] 40)) := nx0 _ _
  have hgb : g ≠ b := by have := hP.bB; have := hP.bz; omega
  have HGB := Lib.hid hgb
  have hgI : w.heap.size ≤ g := by omega
  have hP1 := hP.nx hN0
  have c5 : (w.alloc (Obj.cells #[.string ⟨#[]⟩, .string ⟨#[]⟩] 40)).cell? ⟨b, 5, none⟩ = some (.map (some sb)) := hP1.cur.cell 5
  have c2 : (w.alloc (Obj.cells #[.string ⟨#[]⟩, .string ⟨#[]⟩] 40)).cell? ⟨b, 2, none⟩ = some (.int .i64 (D : Int)) := hP1.cur.cell 2
  have HB0 := Lib.hid hB0
  have HN0 := Lib.hid hN0
  have HP1 := Lib.hid hP1
  by_cases hc : k ≠ 13 ∧ k ≠ 14 ∧ k ≠ 15
  · have hl := look_at HP1.out.sg k 0 HK.out (by decide) 0 rfl _ (sign_other hc) 0 rfl false rfl
    have HW : Hid (witT r k (l.drop o) = (0, .bs k, 0)) := by unfold Hid witT; rw [if_pos hc]
    rw [HW.out]
    clear hP hN hD hB0 hN0 hgb hP1 hk hc
    go_enter Tryd.func32, Tryd.ntmps32
    go_wp2_with fail
    refine bodyPost_ret (results_cell_tmp_rowK rfl _ _ g _ _ _ _ rfl HB0.out.2 Tryd.underlying40 rfl (by kernel_rfl)) rfl ?_
    have hle := HP1.out.le
    refine ⟨_, _, rfl, fun _ => ⟨rfl, rfl⟩, _, _, v, HP1.out.cur, Fr.nx HN0.out _ _, fun _ => ⟨rfl, ?_, ?_⟩⟩
    · dsimp only [depthT]; congr 1; omega
    · rw [show nmB (.bs k) = [] from rfl, List.append_nil]; exact HP1.out.own
  · have hk3 : k = 13 ∨ k = 14 ∨ k = 15 := by omega
    have HK3 := Lib.hid hk3
    have hl := look_at HP1.out.sg k 0 HK.out (by decide) 0 rfl _ (sign_some hk3) 60 rfl true rfl
    cases r with
    | zero =>
      have hD12 : D = 12 := by omega
      subst hD12
      have HW : Hid (witT 0 k (l.drop o) = noTy 6) := by unfold Hid witT; rw [if_neg hc]
      rw [HW.out]
      clear hP hN hD hB0 hN0 hgb hP1 hk hc hk3
      go_enter Tryd.func32, Tryd.ntmps32
      go_wp2_with fail
      refine bodyPost_ret (results_cell_tmp_rowK rfl _ _ g _ _ _ _ rfl HB0.out.2 Tryd.underlying40 rfl (by kernel_rfl)) rfl ?_
      exact ⟨_, _, rfl, fun h => absurd h (by decide), Aft.err HP1.out.cur (Fr.nx HN0.out _ _) (by decide)⟩
    | succ r =>
      have hD12 : ((D : Int) == 12) = false := by rw [beq_eq_false_iff_ne]; omega
      have hD8 : (D : Int) < 12 := by omega
      have HW : Hid (witT (r + 1) k (l.drop o) = innT (parT r) k (l.drop o)) := by unfold Hid witT; rw [if_neg hc]
      rw [HW.out]
      have f2 : (w.alloc (Obj.cells #[.string ⟨#[]⟩, .string ⟨#[]⟩] 40)).frozen? ⟨b, 2, none⟩ = false := hP1.cur.free 2
      clear hP hN hD hB0 hN0 hgb hP1 hk hc hk3
      go_enter Tryd.func32, Tryd.ntmps32
      go_wp2_with fail
      generalize hW : World.setCell _ _ _ = w1
      obtain ⟨D1, hD1⟩ : ∃ D1, D + 1 = D1 := ⟨_, rfl⟩
      have eD : (D : Int) + 1 = (D1 : Int) := by omega
      have hC1 : CurK w1 b s (o : Int) (D1 : Int) (DP : Int) v sb := by rw [← hW, eD]; exact HP1.out.cur.put2 _
      have hB1 : Blk w1 g g #[.string ⟨#[]⟩, .string ⟨#[]⟩] 40 := by rw [← hW]; exact HB0.out.other (Ne.symm HGB.out) _ _
      have hO1 : Oth b w w1 := by rw [← hW]; exact (Oth.nx HN0.out).trans (Oth.set _ _ _ _)
      have HC1 := Lib.hid hC1
      have HB1 := Lib.hid hB1
      have HO1 := Lib.hid hO1
      have HD1 := Lib.hid hD1
      obtain ⟨c0, c1, c2, c3, c4, c5', f⟩ := hC1.cells
      have f3 := f 3
      clear hW hB1 hO1 hC1 f c4 c0 c1 f2 hl c5 eD
      obtain ⟨M, hMe⟩ : ∃ M, max DP D1 = M := ⟨_, rfl⟩
      have hM : (if (DP : Int) < (D1 : Int) then (D1 : Int) else (DP : Int)) = (M : Int) := by split <;> omega
      have HMe := Lib.hid hMe
      clear hMe hD1
      go_still_tail 12, (by kernel_rfl)
      change wpList _ _ _ _ _ w1.drew
      have HC2 : Hid (CurK w1.drew b s (o : Int) (D1 : Int) (DP : Int) v sb) := HC1.out
      have HB2 : Hid (Blk w1.drew g g #[.string ⟨#[]⟩, .string ⟨#[]⟩] 40) := HB1.out
      have HO2 : Hid (Oth b w w1.drew) := HO1.out.trans (Oth.nx ((Nx.refl w1).dr 1))
      clear HC1 HB1 HO1 c2 c3 f3 c5'
      generalize w1.drew = w2 at *
      have c3 : w2.cell? ⟨b, 3, none⟩ = some (.int .i64 (DP : Int)) := HC2.out.cell 3
      have f3 : w2.frozen? ⟨b, 3, none⟩ = false := HC2.out.free 3
      go_wp2_with fail
      generalize hW2 : World.setCell _ _ _ = w3
      have eM : max (DP : Int) (D1 : Int) = (M : Int) := by have := HMe.out; omega
      have hC3 : CurK w3 b s (o : Int) ((D + 1 : Nat) : Int) (M : Int) v sb := by rw [← hW2, eM, HD1.out]; exact HC2.out.put3 _
      have hB3 : Blk w3 g g #[.string ⟨#[]⟩, .string ⟨#[]⟩] 40 := by rw [← hW2]; exact HB2.out.other (Ne.symm HGB.out) _ _
      have hO3 : Oth b w w3 := by rw [← hW2]; exact HO2.out.trans (Oth.set _ _ _ _)
      have hP3 := HP.out.oth hO3 hC3 (Nat.le_refl _) HP.out.ho (by have := HMe.out; have := HD1.out; omega) (by have := HMe.out; have := HD1.out; have := HP.out.dp; omega)
      have HP3 := Lib.hid hP3
      have HB3 := Lib.hid hB3
      have HO3 := Lib.hid hO3
      clear hW2 eM hC3 hB3 hO3 hP3 c3 f3
      refine (between_any r (HN.out r rfl) w3 b s l o D M sb B v ns k HK3.out HP3.out (by have := HD.out; omega)).mono ?_; rintro e w4 ⟨A, C, rfl, hh, o4, dp4, v4, hC4, hF4, hA4⟩
      obtain ⟨R, hR⟩ : ∃ R, Hid (innT (parT r) k (l.drop o) = R) := ⟨_, rfl⟩
      have hdep := innT_depth (parT r) k (l.drop o)
      rw [hR.out] at hh hA4 hdep ⊢
      have hB4 := hF4.blk HB3.out HGB.out (HP3.out.own.ne HB3.out (by decide))
      have hF5 := (Fr.oth HO3.out v).trans hF4
      rw [HD1.out] at hC4
      have HC4 := Lib.hid hC4
      have HB4 := Lib.hid hB4
      have HF5 := Lib.hid hF5
      have HA4 := Lib.hid hA4
      have HH := Lib.hid hh
      have HDEP := Lib.hid hdep
      have c2 : w4.cell? ⟨b, 2, none⟩ = some (.int .i64 (D1 : Int)) := hC4.cell 2
      have f2 : w4.frozen? ⟨b, 2, none⟩ = false := hC4.free 2
      have c0 : w4.cell? ⟨g, 0, none⟩ = some (.string ⟨#[]⟩) := hB4.cell 0
      have c1 : w4.cell? ⟨g, 1, none⟩ = some (.string ⟨#[]⟩) := hB4.cell 1
      have f0 : w4.frozen? ⟨g, 0, none⟩ = false := hB4.free 0
      have f1 : w4.frozen? ⟨g, 1, none⟩ = false := hB4.free 1
      have hgb := HGB.out
      have eD2 : (D1 : Int) - 1 = (D : Int) := by have := HD1.out; omega
      clear hC4 hB4 hF4 hF5 hA4 hh hdep
      go_wp2_with fail
      have hB6 := (HB4.out.put2 (v0 := .string A) (v1 := .string C)).other (Ne.symm hgb) 2 (.int .i64 (D : Int))
      refine bodyPost_ret (results_cell_tmp_rowK rfl _ _ g _ _ _ _ rfl hB6.put2.2 Tryd.underlying40 rfl (by kernel_rfl)) rfl ?_
      rw [hR.out]
      refine ⟨A, C, rfl, HH.out, o4, dp4, v4, ((HC4.out.other2 hgb).put2 _).other2 hgb, ((HF5.out.put2 hgI).trans (Fr.set _ b 2 _ v4)).put2 hgI, fun h0 => ?_⟩
      obtain ⟨h1, h2, h3⟩ := HA4.out h0
      refine ⟨h1, ?_, ?_⟩
      · rw [h2]
        have := HDEP.out h0
        have := HMe.out
        have := HD1.out
        congr 1
        omega
      · have hg4 : v4.ownBlock ≠ some g := h3.ne HB4.out (by decide)
        have hb4 : v4.ownBlock ≠ some b := fun e => by have := (h3.own b e).1; have := HP.out.bB; omega
        exact ((((h3.set hg4 0 _).set hg4 1 _).set hb4 2 _).set hg4 0 _).set hg4 1 _
end Go.Proofs.YtpaacfoiiihbeaaDoor
