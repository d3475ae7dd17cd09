/- The insertion sort of a part of a row of numbers, as values (made by mkIp.py). -/
import Derived.Test.YtjeadmndnbggmaaOrI
import Derived.BigRegion
import Derived.Deep.DeepCutAuto
import Derived.StillTailTactics
set_option linter.unusedVariables false
set_option linter.unusedSimpArgs false
namespace Go.Proofs.Ytjeadmndnbggmaa
open Go.RowKit

set_option maxRecDepth 100000 in
set_option maxHeartbeats 12800000 in
theorem insp_any (w : World) (B gr n c : Nat) (T : TypeId) (P xs Q : List ValS) (hn : (P ++ xs ++ Q).length = n) (hn1 : 1 ≤ xs.length) (hn9 : n ≤ 100)
    (hB : Blk w B gr (rowL valA (P ++ xs ++ Q)).toArray T) (hok : ∀ x ∈ xs, OkS x) (s t : Nat) (hs : P.length = s) (ht : s + xs.length = t) :
    Calls Try.prog 35 #[.slice (some ⟨gr, 0, none⟩) n c, .int .i64 (s : Int), .int .i64 (t : Int), .func (.func 8) #[] #[]] w fun e w' => e = .returned (.tuple #[]) ∧ ∃ p, Sd p xs ∧ Blk w' B gr (rowL valA (P ++ p ++ Q)).toArray T ∧ Oth gr w w' := by
  have htn : t ≤ n := by rw [← hn]; simp only [List.length_append]; omega
  have HTN : Hid (t ≤ n ∧ s + xs.length = t ∧ P.length = s ∧ s + 1 ≤ t) := ⟨htn, ht, hs, by omega⟩
  have htn' : (t : Int) ≤ 100 := by omega
  have hsn' : (s : Int) + 1 ≤ (t : Int) := by omega
  obtain ⟨s1, hs1⟩ : ∃ x : Nat, s + 1 = x := ⟨_, rfl⟩
  have hs1i : (s : Int) + 1 = (s1 : Int) := by omega
  have hs1w : IntKind.i64.wrap (s1 : Int) = (s1 : Int) := by rw [IntKind.wrap_i64]; omega
  have HS1 := Lib.hid hs1
  have hnn : (n : Int) ≤ 100 := by omega
  have hnt : (t : Int) ≤ (n : Int) := by omega
  have HB := Lib.hid hB
  have HOK := Lib.hid hok
  clear hB hok hn ht hs hs1 htn hn1
  go_enter Try.func35, Try.ntmps35
  go_wp2_with fail
  go_loopw [8] (fun x wr => ∃ (i k : Nat) (p : List ValS), x = .int .i64 (i : Int) ∧ s1 ≤ i ∧ i ≤ t ∧ Hid (s + k = i) ∧ Hid (Sd p (xs.take k)) ∧ Hid (Blk wr B gr (rowL valA (P ++ (p ++ (xs.drop k ++ Q)))).toArray T) ∧ Hid (Oth gr w wr)) (fun x _ => (t - intOf x).toNat)
  case atStart =>
    obtain ⟨x, r, e⟩ : ∃ x r, xs = x :: r := by
      cases h : xs with
      | nil => have := HTN.out; rw [h] at this; simp at this; omega
      | cons x r => exact ⟨x, r, rfl⟩
    exact ⟨s1, 1, [x], rfl, Nat.le_refl _, by have := HTN.out; have := HS1.out; omega, HS1.out, ⟨by rw [e]; exact List.Perm.refl _, List.pairwise_singleton _ _⟩, by
      have h := HB.out
      rw [e] at h ⊢
      unfold Hid
      simpa using h, Oth.refl _ _⟩
  case round =>
    obtain ⟨i, k, p, rfl, h1, hi, HIK, HO, HK, HT⟩ := hrel
    by_cases hlt : i < t
    · have q1 : decide ((i : Int) < (t : Int)) = true := decide_eq_true (by omega)
      have q2 : (i : Int) < (t : Int) := by omega
      have hix : k < xs.length := by have := HTN.out; have := HIK.out; omega
      obtain ⟨X, hX⟩ : ∃ X, xs[k] = X := ⟨_, rfl⟩
      have HX : Hid (OkS X ∧ xs.drop k = X :: xs.drop (k + 1) ∧ xs.take (k + 1) = xs.take k ++ [X]) := ⟨hX ▸ HOK.out _ (List.getElem_mem _), by rw [List.drop_eq_getElem_cons hix, hX], by rw [List.take_succ_eq_append_getElem hix, hX]⟩
      have HPL : Hid (p.length = k ∧ ∀ z ∈ p, OkS z) := ⟨by rw [HO.out.1.length_eq, List.length_take]; omega, fun z hz => HOK.out z (List.mem_of_mem_take (HO.out.1.mem_iff.1 hz))⟩
      have HLT := Lib.hid hlt
      obtain ⟨D, hD⟩ : ∃ D, xs.drop (k + 1) ++ Q = D := ⟨_, rfl⟩
      have HK : Hid (Blk wr B gr (rowL valA (P ++ (p ++ (X :: D)))).toArray T) := by
        have hk := HK.out
        rw [HX.out.2.1] at hk
        rw [← hD]
        exact hk
      have HD := Lib.hid hD
      clear hix hX hD
      go_wp2_with fail
      go_loopw [9] (fun x wr => ∃ (j : Nat) (a b : List ValS), x = .int .i64 (j : Int) ∧ s ≤ j ∧ j ≤ i ∧ Hid (s + a.length = j ∧ a ++ b = p ∧ ∀ z ∈ b, ky X < ky z) ∧ Hid (Blk wr B gr (rowL valA (P ++ (a ++ X :: (b ++ D)))).toArray T) ∧ Hid (Oth gr w wr)) (fun x _ => (intOf x).toNat)
      case atStart =>
        exact ⟨i, p, [], rfl, by have := HIK.out; omega, Nat.le_refl _, ⟨by have := HIK.out; rw [HPL.out.1]; exact this, by simp, fun _ h => by cases h⟩, HK, HT⟩
      case round =>
        obtain ⟨j, a, b, rfl, hsj, hj, HA, HK2, HT2⟩ := hrel
        by_cases hj0 : s < j
        · obtain ⟨ha1, ha2, ha3⟩ := HA.out
          obtain ⟨a', Y, rfl⟩ : ∃ a' y, a = a' ++ [y] := ⟨a.dropLast, a.getLast (by intro e; rw [e] at ha1; simp at ha1; omega), (List.dropLast_concat_getLast _).symm⟩
          obtain ⟨jp, hjp⟩ : ∃ jp : Nat, jp + 1 = j := ⟨j - 1, by omega⟩
          have hjpi : (j : Int) - 1 = (jp : Int) := by omega
          obtain ⟨F, hF⟩ : ∃ F, P ++ a' = F := ⟨_, rfl⟩
          have hal : F.length = jp := by rw [← hF]; have := HTN.out; simp at ha1; simp only [List.length_append]; omega
          have HFF := Lib.hid hF
          have hsal : s + a'.length = jp := by simp at ha1; omega
          have HSAL := Lib.hid hsal
          have hyp : OkS Y := HPL.out.2 Y (by rw [← ha2]; simp)
          have hk2 : Blk wr B gr (rowL valA (F ++ Y :: X :: (b ++ D))).toArray T := by
            have h := HK2.out
            rw [← hF]
            simpa using h
          have HK3 := Lib.hid hk2
          have hlp : jp < (F ++ Y :: X :: (b ++ D)).length := by rw [List.length_append, hal]; simp
          have hlj : j < (F ++ Y :: X :: (b ++ D)).length := by rw [List.length_append, hal, ← hjp]; simp
          have hgp : (F ++ Y :: X :: (b ++ D))[jp] = Y := by simp [← hal]
          have hgj : (F ++ Y :: X :: (b ++ D))[j] = X := by simp [← hjp, ← hal]
          have HXY : Hid (OkS X ∧ OkS Y) := ⟨HX.out.1, hyp⟩
          have hcc : ∀ wx, Calls Try.prog 8 #[.agg (valA X), .agg (valA Y)] wx fun e w' => e = .returned (.int .i64 (cmpI (ky X) (ky Y))) ∧ Nx wx w' := fun wx => leaf_cmp_any HXY.out.1 HXY.out.2 wx
          have HCC := Lib.hid hcc
          obtain ⟨⟨XA, Xu, Xc, hXl⟩, ⟨XD, Xe, Xf, hXd⟩⟩ := HX.out.1.slv
          obtain ⟨⟨YA, Yu, Yc, hYl⟩, ⟨YD, Ye, Yf, hYd⟩⟩ := hyp.slv
          have HVX : Hid (valA X = #[.int .i64 (X.k : Int), .int .i64 X.n, .string ⟨X.s.toArray⟩, .slice XA Xu Xc, .slice XD Xe Xf]) := by unfold Hid valA; rw [hXl, hXd]
          have HVY : Hid (valA Y = #[.int .i64 (Y.k : Int), .int .i64 Y.n, .string ⟨Y.s.toArray⟩, .slice YA Yu Yc, .slice YD Ye Yf]) := by unfold Hid valA; rw [hYl, hYd]
          have HFX : Hid (∀ wx, Blk wx B gr (rowL valA (F ++ Y :: X :: (b ++ D))).toArray T → (∀ q, q < 5 → wx.cell? ⟨gr, j * 5 + q, none⟩ = (valA X)[q]?) ∧ ∀ q, q < 5 → wx.cell? ⟨gr, jp * 5 + q, none⟩ = (valA Y)[q]?) := fun wx hb =>
            ⟨fun q hq => by rw [hb.rcell hlj hq, hgj], fun q hq => by rw [hb.rcell hlp hq, hgp]⟩
          rw [HVX.out, HVY.out] at HFX HCC
          obtain ⟨Xk, hXk⟩ : ∃ k, (X.k : Int) = k := ⟨_, rfl⟩
          obtain ⟨Xn, hXn⟩ : ∃ k, X.n = k := ⟨_, rfl⟩
          obtain ⟨Xs, hXs⟩ : ∃ s, ByteArray.mk X.s.toArray = s := ⟨_, rfl⟩
          obtain ⟨Yk, hYk⟩ : ∃ k, (Y.k : Int) = k := ⟨_, rfl⟩
          obtain ⟨Yn, hYn⟩ : ∃ k, Y.n = k := ⟨_, rfl⟩
          obtain ⟨Ys, hYs⟩ : ∃ s, ByteArray.mk Y.s.toArray = s := ⟨_, rfl⟩
          rw [hXk, hXn, hXs] at HVX HFX HCC
          rw [hYk, hYn, hYs] at HVY HFX HCC
          clear hXk hXn hXs hYk hYn hYs hXl hXd hYl hYd
          have q3 : decide ((s : Int) < (j : Int)) = true := decide_eq_true (by omega)
          have q4 : (s : Int) < (j : Int) := by omega
          have j1 : (j : Int) < (n : Int) := by omega
          have j0 : (0 : Int) ≤ (j : Int) := by omega
          have jp1 : (jp : Int) < (n : Int) := by omega
          have jp0 : (0 : Int) ≤ (jp : Int) := by omega
          have hwj : IntKind.i64.wrap (jp : Int) = (jp : Int) := by rw [IntKind.wrap_i64]; omega
          have q5 : decide (s < j) = true := decide_eq_true hj0
          have q6 : s < j := hj0
          have HAL := Lib.hid hal
          have jn : (j : Int) < (t : Int) := by omega
          have jpn : (jp : Int) < (t : Int) := by omega
          have HJP := Lib.hid hjp
          have HA2 : Hid (a' ++ Y :: b = p ∧ ∀ z ∈ b, ky X < ky z) := ⟨by rw [← ha2]; simp, ha3⟩
          have HJ := Lib.hid hj
          have Lx0 : ∀ x : Gr wr, x.1.cell? ⟨gr, j * 5, none⟩ = some (.int .i64 Xk) := fun x => (HFX.out x.1 (HK3.out.below x.2)).1 0 (by decide)
          have Lx1 : ∀ x : Gr wr, x.1.cell? ⟨gr, j * 5 + 1, none⟩ = some (.int .i64 Xn) := fun x => (HFX.out x.1 (HK3.out.below x.2)).1 1 (by decide)
          have Lx2 : ∀ x : Gr wr, x.1.cell? ⟨gr, j * 5 + 2, none⟩ = some (.string Xs) := fun x => (HFX.out x.1 (HK3.out.below x.2)).1 2 (by decide)
          have Lx3 : ∀ x : Gr wr, x.1.cell? ⟨gr, j * 5 + 3, none⟩ = some (.slice XA Xu Xc) := fun x => (HFX.out x.1 (HK3.out.below x.2)).1 3 (by decide)
          have Lx4 : ∀ x : Gr wr, x.1.cell? ⟨gr, j * 5 + 4, none⟩ = some (.slice XD Xe Xf) := fun x => (HFX.out x.1 (HK3.out.below x.2)).1 4 (by decide)
          have Ly0 : ∀ x : Gr wr, x.1.cell? ⟨gr, jp * 5, none⟩ = some (.int .i64 Yk) := fun x => (HFX.out x.1 (HK3.out.below x.2)).2 0 (by decide)
          have Ly1 : ∀ x : Gr wr, x.1.cell? ⟨gr, jp * 5 + 1, none⟩ = some (.int .i64 Yn) := fun x => (HFX.out x.1 (HK3.out.below x.2)).2 1 (by decide)
          have Ly2 : ∀ x : Gr wr, x.1.cell? ⟨gr, jp * 5 + 2, none⟩ = some (.string Ys) := fun x => (HFX.out x.1 (HK3.out.below x.2)).2 2 (by decide)
          have Ly3 : ∀ x : Gr wr, x.1.cell? ⟨gr, jp * 5 + 3, none⟩ = some (.slice YA Yu Yc) := fun x => (HFX.out x.1 (HK3.out.below x.2)).2 3 (by decide)
          have Ly4 : ∀ x : Gr wr, x.1.cell? ⟨gr, jp * 5 + 4, none⟩ = some (.slice YD Ye Yf) := fun x => (HFX.out x.1 (HK3.out.below x.2)).2 4 (by decide)
          clear hF hsal ha1 ha2 ha3 hk2 hal hyp HA hjp hj0 hlp hlj hgp hgj hcc
          go_upto_region 4 with (fail)
          refine wp_region_hyb [(0, true), (1, true), (2, true), (3, true), (4, true), (5, true), (6, true), (7, true), (8, true), (9, true), (10, true), (11, true), (12, true), (13, true), (14, false), (15, true), (16, true)] (by kernel_rfl) (by kernel_rfl) ?_
          iterate 14 (refine hyb_calm rfl (fun K hK => ?_); go_simp; refine hK _ ?_; clear hK K)
          clear Lx0 Lx1 Lx2 Lx3 Lx4 Ly0 Ly1 Ly2 Ly3 Ly4
          refine hyb_alone rfl (fun w2 hn2 K hK => ?_)
          go_simp
          refine (HCC.out w2).mono ?_; rintro e w3 ⟨rfl, hn3⟩
          refine hK _ _ hn3 ?_
          clear hK K
          by_cases hv : ky X < ky Y
          · have hcz : cmpI (ky X) (ky Y) = -1 := by unfold cmpI; rw [if_pos hv]
            rw [hcz]
            have HV := Lib.hid hv
            clear hv hcz
            iterate 2 (refine hyb_calm rfl (fun K hK => ?_); go_simp; refine hK _ ?_; clear hK K)
            refine hyb_nil (fun w4 hn4 => ?_)
            have hk4 := HK3.out.below (hn2.trans (hn3.trans hn4))
            have HO4 := Lib.hid (HT2.out.trans (Oth.nx (hn2.trans (hn3.trans hn4))))
            have HK4 := Lib.hid hk4
            obtain ⟨fx, fy⟩ := HFX.out w4 hk4
            have x0 : w4.cell? ⟨gr, j * 5, none⟩ = some (.int .i64 Xk) := fx 0 (by decide)
            have x1 : w4.cell? ⟨gr, j * 5 + 1, none⟩ = some (.int .i64 Xn) := fx 1 (by decide)
            have x2 : w4.cell? ⟨gr, j * 5 + 2, none⟩ = some (.string Xs) := fx 2 (by decide)
            have x3 : w4.cell? ⟨gr, j * 5 + 3, none⟩ = some (.slice XA Xu Xc) := fx 3 (by decide)
            have x4 : w4.cell? ⟨gr, j * 5 + 4, none⟩ = some (.slice XD Xe Xf) := fx 4 (by decide)
            have y0 : w4.cell? ⟨gr, jp * 5, none⟩ = some (.int .i64 Yk) := fy 0 (by decide)
            have y1 : w4.cell? ⟨gr, jp * 5 + 1, none⟩ = some (.int .i64 Yn) := fy 1 (by decide)
            have y2 : w4.cell? ⟨gr, jp * 5 + 2, none⟩ = some (.string Ys) := fy 2 (by decide)
            have y3 : w4.cell? ⟨gr, jp * 5 + 3, none⟩ = some (.slice YA Yu Yc) := fy 3 (by decide)
            have y4 : w4.cell? ⟨gr, jp * 5 + 4, none⟩ = some (.slice YD Ye Yf) := fy 4 (by decide)
            have rj0 := HK4.out.free (j * 5)
            have rj1 := HK4.out.free (j * 5 + 1)
            have rj2 := HK4.out.free (j * 5 + 2)
            have rj3 := HK4.out.free (j * 5 + 3)
            have rj4 := HK4.out.free (j * 5 + 4)
            have rjp0 := HK4.out.free (jp * 5)
            have rjp1 := HK4.out.free (jp * 5 + 1)
            have rjp2 := HK4.out.free (jp * 5 + 2)
            have rjp3 := HK4.out.free (jp * 5 + 3)
            have rjp4 := HK4.out.free (jp * 5 + 4)
            clear hn2 hn3 hn4 hk4 fx fy HT2 HK2 HK3
            have hk5 : Blk (wputs (wputs w4 gr (j * 5) [.int .i64 Yk, .int .i64 Yn, .string Ys, .slice YA Yu Yc, .slice YD Ye Yf]) gr (jp * 5) [.int .i64 Xk, .int .i64 Xn, .string Xs, .slice XA Xu Xc, .slice XD Xe Xf]) B gr (rowL valA (F ++ X :: Y :: (b ++ D))).toArray T := by
              have := row_swap HK4.out
              rw [HAL.out, HJP.out, HVX.out, HVY.out] at this
              exact this
            have ho5 : Oth gr w (wputs (wputs w4 gr (j * 5) [.int .i64 Yk, .int .i64 Yn, .string Ys, .slice YA Yu Yc, .slice YD Ye Yf]) gr (jp * 5) [.int .i64 Xk, .int .i64 Xn, .string Xs, .slice XA Xu Xc, .slice XD Xe Xf]) := Oth.owns _ _ (Oth.owns _ _ HO4.out)
            have HK5 := Lib.hid hk5
            have HO5 := Lib.hid ho5
            clear hk5 ho5
            go_wp2_with fail
            go_region
            change Exit.inBlock _ _ _ _ (wputs (wputs w4 gr (j * 5) [.int .i64 Yk, .int .i64 Yn, .string Ys, .slice YA Yu Yc, .slice YD Ye Yf]) gr (jp * 5) [.int .i64 Xk, .int .i64 Xn, .string Xs, .slice XA Xu Xc, .slice XD Xe Xf]).drew
            clear x0 x1 x2 x3 x4 y0 y1 y2 y3 y4 rj0 rj1 rj2 rj3 rj4 rjp0 rjp1 rjp2 rjp3 rjp4 HK4 HO4
            generalize (wputs (wputs w4 gr (j * 5) [.int .i64 Yk, .int .i64 Yn, .string Ys, .slice YA Yu Yc, .slice YD Ye Yf]) gr (jp * 5) [.int .i64 Xk, .int .i64 Xn, .string Xs, .slice XA Xu Xc, .slice XD Xe Xf]) = w5 at *
            go_wp2_with fail
            go_roundw
            case rel =>
              refine ⟨jp, a', Y :: b, by go_num, by have := HSAL.out; omega, by have := HJ.out; have := HJP.out; omega, ⟨HSAL.out, HA2.out.1, fun z hz => ?_⟩, by have h : Blk w5.drew B gr (rowL valA (F ++ X :: Y :: (b ++ D))).toArray T := HK5.out.drew 1; rw [← HFF.out] at h; unfold Hid; simpa using h, HO5.out.trans ⟨rfl, rfl, rfl, Nat.le_refl _, fun _ _ _ => rfl⟩⟩
              rcases List.mem_cons.1 hz with rfl | hz
              · exact HV.out
              · exact HA2.out.2 z hz
            case measure => have := HJP.out; simp [intOf]; omega
          · have hcz : ¬ cmpI (ky X) (ky Y) < 0 := by unfold cmpI; rw [if_neg hv]; split <;> omega
            have hcd : decide (cmpI (ky X) (ky Y) < 0) = false := decide_eq_false hcz
            have HV := Lib.hid hv
            obtain ⟨CZ, hCZ⟩ : ∃ z, cmpI (ky X) (ky Y) = z := ⟨_, rfl⟩
            rw [hCZ] at hcz hcd ⊢
            clear hv hCZ
            iterate 2 (refine hyb_calm rfl (fun K hK => ?_); go_simp; refine hK _ ?_; clear hK K)
            refine hyb_nil (fun w4 hn4 => ?_)
            have HO4 := Lib.hid (HT2.out.trans (Oth.nx (hn2.trans (hn3.trans hn4))))
            have HK4 := Lib.hid (HK3.out.below (hn2.trans (hn3.trans hn4)))
            clear hn2 hn3 hn4 HT2 HK2 HK3
            go_wp2_with fail
            go_roundw
            case rel =>
              refine ⟨i + 1, k + 1, a' ++ Y :: X :: b, by go_num, by omega, HLT.out, by have := HIK.out; unfold Hid; omega, ?_, ?_, HO4.out⟩
              · have h := HO.out
                rw [← HA2.out.1, show a' ++ Y :: b = (a' ++ [Y]) ++ b by simp] at h
                have h2 := h.ins (h.last (by have := HV.out; omega)) HA2.out.2
                rw [← HX.out.2.2] at h2
                unfold Hid
                simpa using h2
              · have h := HK4.out
                rw [← HFF.out, ← HD.out] at h
                unfold Hid
                simpa using h
            case measure => have := HLT.out; simp [intOf]; omega
        · have q3 : decide ((s : Int) < (j : Int)) = false := decide_eq_false (by omega)
          have q4 : ¬ (s : Int) < (j : Int) := by omega
          have q5 : decide (s < j) = false := decide_eq_false hj0
          have q6 : ¬ s < j := hj0
          have HJ0 : Hid (a = []) := by
            have := HA.out.1
            unfold Hid
            exact List.eq_nil_of_length_eq_zero (by omega)
          go_wp2_with fail
          go_quiet (fail)
          have hk4 : Blk (wr.drewN nq) B gr (rowL valA (P ++ (a ++ X :: (b ++ D)))).toArray T := HK2.out.drew nq
          have ho4 : Oth gr w (wr.drewN nq) := ⟨HT2.out.os, HT2.out.tape, HT2.out.output, HT2.out.size, HT2.out.block⟩
          have HK4 := Lib.hid hk4
          have HO4 := Lib.hid ho4
          clear hk4 ho4 HT2 HK2
          generalize wr.drewN nq = w2 at *
          go_wp2_with fail
          go_roundw
          case rel =>
            refine ⟨i + 1, k + 1, a ++ X :: b, by go_num, by omega, HLT.out, by have := HIK.out; unfold Hid; omega, ?_, ?_, HO4.out⟩
            · have h := HO.out
              rw [← HA.out.2.1] at h
              have h2 := h.ins (x := X) (fun z hz => by rw [HJ0.out] at hz; cases hz) HA.out.2.2
              rw [← HX.out.2.2] at h2
              exact h2
            · have h := HK4.out
              rw [← HD.out] at h
              unfold Hid
              simpa using h
          case measure => have := HLT.out; simp [intOf]; omega
    · have q1 : decide ((i : Int) < (t : Int)) = false := decide_eq_false (by omega)
      have q2 : ¬ (i : Int) < (t : Int) := by omega
      obtain rfl : i = t := by omega
      go_wp2_with fail
      go_end0
      have hk := HK.out
      have ho := HO.out
      have hkl : xs.length ≤ k := by have := HTN.out; have := HIK.out; omega
      rw [List.drop_of_length_le hkl] at hk
      rw [List.take_of_length_le hkl] at ho
      exact ⟨rfl, p, ho, by simpa using hk, HT.out⟩
end Go.Proofs.Ytjeadmndnbggmaa
