/- Sets' elements in order; pairs by their keys. -/
import Derived.Test.YtjeadmndnbggmaaOrL
import Derived.Test.YtjeadmndnbggmaaOrO
set_option linter.unusedVariables false
set_option linter.unusedSimpArgs false
namespace Go.Proofs.Ytjeadmndnbggmaa
open Go.RowKit

theorem Once.perm {us o xs : List ValS} (h : Once us o) (hp : o.Perm xs) : Once us xs :=
  ⟨h.1, fun t => (h.2.1 t).trans ⟨fun ⟨x, hx, e⟩ => ⟨x, hp.mem_iff.1 hx, e⟩, fun ⟨x, hx, e⟩ => ⟨x, hp.mem_iff.2 hx, e⟩⟩, fun y hy => hp.mem_iff.1 (h.2.2 y hy)⟩
theorem se_any (w : World) (B gr n : Nat) (xs : List ValS) (hn : xs.length = n) (hn9 : n ≤ 20)
    (hB : Blk w B gr (rowL valA xs).toArray 29) (hok : ∀ x ∈ xs, OkS x) :
    Calls Try.prog 12 #[.slice (some ⟨gr, 0, none⟩) n n] w fun e w' => ∃ us, e = .returned (.slice (some ⟨gr, 0, none⟩) us.length n) ∧ Once us xs ∧ RdO w' (some ⟨gr, 0, none⟩) us ∧ Oth gr w w' := by
  have HS := Lib.hid (ssv_any w B gr n n 29 xs hn hn9 hB hok)
  have HC : Hid (∀ wx o, Sd o xs → Blk wx B gr (rowL valA o).toArray 29 → Calls Try.prog 23 #[.slice (some ⟨gr, 0, none⟩) n n, .func (.func 24) #[] #[]] wx fun e w' => ∃ us, e = .returned (.slice (some ⟨gr, 0, none⟩) us.length n) ∧ Once us xs ∧ RdO w' (some ⟨gr, 0, none⟩) us ∧ Oth gr wx w') := fun wx o ho hb => by
    refine (compact_any wx B gr n n o (by rw [ho.1.length_eq, hn]) (by omega) (Nat.le_refl _) hb (fun x hx => hok x (ho.1.mem_iff.1 hx)) ho.2 (by omega)).mono ?_
    rintro e w' ⟨us, rfl, h1, h2, h3⟩
    exact ⟨us, rfl, h1.perm ho.1, h2, h3⟩
  clear hB hok hn
  go_enter Try.func12, Try.ntmps12
  go_wp2_with fail
  refine HS.out.mono ?_; rintro e w1 ⟨rfl, o, ho, hb, hot⟩
  have HC2 := Lib.hid (HC.out w1 o ho hb)
  have HOT := Lib.hid hot
  clear ho hb hot
  go_wp2_with fail
  refine HC2.out.mono ?_; rintro e w2 ⟨us, rfl, h1, h2, h3⟩
  have HR : Hid (Once us xs ∧ RdO w2 (some ⟨gr, 0, none⟩) us ∧ Oth gr w w2) := ⟨h1, h2, HOT.out.trans h3⟩
  clear h1 h2 h3
  go_wp2_with fail
  go_ret
  exact ⟨us, rfl, HR.out⟩
theorem OkS.one {y : ValS} (h : OkS y) : ∀ u ∈ (valA y).toList, u.oneCell' = true := by
  obtain ⟨⟨A, u, c, h1⟩, ⟨B, v, d, h2⟩⟩ := h.slv
  intro z hz
  have : z = .int .i64 (y.k : Int) ∨ z = .int .i64 y.n ∨ z = .string ⟨y.s.toArray⟩ ∨ z = y.l ∨ z = y.ids := by simpa [valA] using hz
  rcases this with rfl | rfl | rfl | rfl | rfl
  · rfl
  · rfl
  · rfl
  · rw [h1]; rfl
  · rw [h2]; rfl
def prS (xs : List ValS) (i : Nat) : ValS × ValS := (xs.getD (2 * i) zeroS, xs.getD (2 * i + 1) zeroS)
def prsS (xs : List ValS) (m : Nat) : List (ValS × ValS) := (List.range m).map (prS xs)
set_option maxRecDepth 100000 in
set_option maxHeartbeats 6400000 in
theorem keys_any (w : World) (gb gp B n c m : Nat) (xs : List ValS) (hn : xs.length = n) (hm : 2 * m = n) (hn9 : n ≤ 100) (hg : w.cell? ⟨gb, 0, none⟩ = some (.slice (some ⟨gp, 0, none⟩) n c)) (hgs : gb < w.heap.size)
    (hB : Blk w B gp (rowL valA xs).toArray 29) (hok : ∀ x ∈ xs, OkS x) (gr : Nat) (hgr : w.heap.size ≤ gr) :
    CmpN 25 gb gr m (fun i => ky (xs.getD (2 * i) zeroS)) w := by
  intro wr hot i j hi hj
  have hB' : Blk wr B gp (rowL valA xs).toArray 29 := hot.blk hB (by have := hB.lt; omega)
  have hg' : ∀ x : Gr wr, x.1.cell? ⟨gb, 0, none⟩ = some (.slice (some ⟨gp, 0, none⟩) n c) := fun x => by
    have hlt : gb < wr.heap.size := Nat.lt_of_lt_of_le hgs hot.size
    rw [x.2.cell (p := ⟨gb, 0, none⟩) hlt, ← hg]
    unfold World.cell?
    simp only
    rw [hot.block gb hgs (by omega)]
  have hix : 2 * i < xs.length := by omega
  have hjx : 2 * j < xs.length := by omega
  obtain ⟨X, hX⟩ : ∃ X, xs[2 * i] = X := ⟨_, rfl⟩
  obtain ⟨Y, hY⟩ : ∃ Y, xs[2 * j] = Y := ⟨_, rfl⟩
  have HXY : Hid (OkS X ∧ OkS Y) := ⟨hX ▸ hok _ (List.getElem_mem _), hY ▸ hok _ (List.getElem_mem _)⟩
  have HCC : Hid (∀ wx, Calls Try.prog 8 #[.agg (valA X), .agg (valA Y)] wx fun e w' => e = .returned (.int .i64 (cmpI (ky X) (ky Y))) ∧ Nx wx w') := fun wx => leaf_cmp_any HXY.out.1 HXY.out.2 wx
  have HFX : Hid (∀ wx, Blk wx B gp (rowL valA xs).toArray 29 → (∀ q, q < 5 → wx.cell? ⟨gp, (2 * i) * 5 + q, none⟩ = (valA X)[q]?) ∧ ∀ q, q < 5 → wx.cell? ⟨gp, (2 * j) * 5 + q, none⟩ = (valA Y)[q]?) := fun wx hb =>
    ⟨fun q hq => by rw [hb.rcell hix hq, hX], fun q hq => by rw [hb.rcell hjx hq, hY]⟩
  have HK := Lib.hid hB'
  have HEX : Hid (xs.getD (2 * i) zeroS = X ∧ xs.getD (2 * j) zeroS = Y) := ⟨by rw [← hX]; simp [List.getD, hix], by rw [← hY]; simp [List.getD, hjx]⟩
  show Calls _ _ _ _ fun e w' => e = .returned (.int .i64 (cmpI (ky (xs.getD (2 * i) zeroS)) (ky (xs.getD (2 * j) zeroS)))) ∧ Nx wr w'
  rw [HEX.out.1, HEX.out.2]
  obtain ⟨I2, hI2⟩ : ∃ I, 2 * i = I := ⟨_, rfl⟩
  obtain ⟨J2, hJ2⟩ : ∃ I, 2 * j = I := ⟨_, rfl⟩
  have hi2 : (2 : Int) * (i : Int) = (I2 : Int) := by omega
  have hj2 : (2 : Int) * (j : Int) = (J2 : Int) := by omega
  have hi3 : (I2 : Int) < (n : Int) := by omega
  have hj3 : (J2 : Int) < (n : Int) := by omega
  have hi4 : (0 : Int) ≤ (I2 : Int) := by omega
  have hj4 : (0 : Int) ≤ (J2 : Int) := by omega
  have hwi : IntKind.i64.wrap (I2 : Int) = (I2 : Int) := by rw [IntKind.wrap_i64]; omega
  have hwj : IntKind.i64.wrap (J2 : Int) = (J2 : Int) := by rw [IntKind.wrap_i64]; omega
  have hwi2 : wrap64 (I2 : Int) = (I2 : Int) := by simp only [wrap64]; omega
  have hwj2 : wrap64 (J2 : Int) = (J2 : Int) := by simp only [wrap64]; omega
  rw [hI2, hJ2] at HFX
  obtain ⟨⟨XA, Xu, Xc, hXl⟩, ⟨XD, Xe, Xf, hXd⟩⟩ := HXY.out.1.slv
  have HVX : Hid (valA X = #[.int .i64 (X.k : Int), .int .i64 X.n, .string ⟨X.s.toArray⟩, .slice XA Xu Xc, .slice XD Xe Xf]) := by unfold Hid valA; rw [hXl, hXd]
  obtain ⟨⟨YA, Yu, Yc, hYl⟩, ⟨YD, Ye, Yf, hYd⟩⟩ := HXY.out.2.slv
  have HVY : Hid (valA Y = #[.int .i64 (Y.k : Int), .int .i64 Y.n, .string ⟨Y.s.toArray⟩, .slice YA Yu Yc, .slice YD Ye Yf]) := by unfold Hid valA; rw [hYl, hYd]
  rw [HVX.out, HVY.out] at HFX HCC
  obtain ⟨Xk, hXk⟩ : ∃ k, (X.k : Int) = k := ⟨_, rfl⟩
  obtain ⟨Xn, hXn⟩ : ∃ k, X.n = k := ⟨_, rfl⟩
  obtain ⟨Xs, hXs⟩ : ∃ s, ByteArray.mk X.s.toArray = s := ⟨_, rfl⟩
  rw [hXk, hXn, hXs] at HVX HFX HCC
  clear hXk hXn hXs hXl hXd
  obtain ⟨Yk, hYk⟩ : ∃ k, (Y.k : Int) = k := ⟨_, rfl⟩
  obtain ⟨Yn, hYn⟩ : ∃ k, Y.n = k := ⟨_, rfl⟩
  obtain ⟨Ys, hYs⟩ : ∃ s, ByteArray.mk Y.s.toArray = s := ⟨_, rfl⟩
  rw [hYk, hYn, hYs] at HVY HFX HCC
  clear hYk hYn hYs hYl hYd
  have Lx0 : ∀ x : Gr wr, x.1.cell? ⟨gp, I2 * 5, none⟩ = some (.int .i64 Xk) := fun x => (HFX.out x.1 (HK.out.below x.2)).1 0 (by decide)
  have Lx1 : ∀ x : Gr wr, x.1.cell? ⟨gp, I2 * 5 + 1, none⟩ = some (.int .i64 Xn) := fun x => (HFX.out x.1 (HK.out.below x.2)).1 1 (by decide)
  have Lx2 : ∀ x : Gr wr, x.1.cell? ⟨gp, I2 * 5 + 2, none⟩ = some (.string Xs) := fun x => (HFX.out x.1 (HK.out.below x.2)).1 2 (by decide)
  have Lx3 : ∀ x : Gr wr, x.1.cell? ⟨gp, I2 * 5 + 3, none⟩ = some (.slice XA Xu Xc) := fun x => (HFX.out x.1 (HK.out.below x.2)).1 3 (by decide)
  have Lx4 : ∀ x : Gr wr, x.1.cell? ⟨gp, I2 * 5 + 4, none⟩ = some (.slice XD Xe Xf) := fun x => (HFX.out x.1 (HK.out.below x.2)).1 4 (by decide)
  have Ly0 : ∀ x : Gr wr, x.1.cell? ⟨gp, J2 * 5, none⟩ = some (.int .i64 Yk) := fun x => (HFX.out x.1 (HK.out.below x.2)).2 0 (by decide)
  have Ly1 : ∀ x : Gr wr, x.1.cell? ⟨gp, J2 * 5 + 1, none⟩ = some (.int .i64 Yn) := fun x => (HFX.out x.1 (HK.out.below x.2)).2 1 (by decide)
  have Ly2 : ∀ x : Gr wr, x.1.cell? ⟨gp, J2 * 5 + 2, none⟩ = some (.string Ys) := fun x => (HFX.out x.1 (HK.out.below x.2)).2 2 (by decide)
  have Ly3 : ∀ x : Gr wr, x.1.cell? ⟨gp, J2 * 5 + 3, none⟩ = some (.slice YA Yu Yc) := fun x => (HFX.out x.1 (HK.out.below x.2)).2 3 (by decide)
  have Ly4 : ∀ x : Gr wr, x.1.cell? ⟨gp, J2 * 5 + 4, none⟩ = some (.slice YD Ye Yf) := fun x => (HFX.out x.1 (HK.out.below x.2)).2 4 (by decide)
  clear hB hB' hok hn hm hix hjx hX hY hg hgs hI2 hJ2 hgr hot HEX
  go_enter Try.func25, Try.ntmps25
  go_upto_region 1 with (fail)
  refine wp_region_hyb [(0, true), (1, true), (2, true), (3, true), (4, true), (5, true), (6, true), (7, true), (8, true), (9, true), (10, false), (11, true)] (by kernel_rfl) (by kernel_rfl) ?_
  iterate 10 (refine hyb_calm rfl (fun K hK => ?_); go_simp; refine hK _ ?_; clear hK K)
  clear Lx0 Lx1 Lx2 Lx3 Lx4 Ly0 Ly1 Ly2 Ly3 Ly4 hg'
  refine hyb_alone rfl (fun w2 hn2 K hK => ?_)
  go_simp
  refine (HCC.out w2).mono ?_; rintro e w3 ⟨rfl, hn3⟩
  refine hK _ _ hn3 ?_
  clear hK K
  refine hyb_calm rfl (fun K hK => ?_); go_simp; refine hK _ ?_; clear hK K
  refine hyb_nil (fun w4 hn4 => ?_)
  have HN4 := Lib.hid (hn2.trans (hn3.trans hn4))
  clear hn2 hn3 hn4
  go_wp2_with fail
  go_ret
  exact ⟨rfl, HN4.out⟩
theorem ent_keys : Ent 25 := fun us w => by
  have h0 : Try.prog.funcs[25]? = some Try.f25 := by kernel_rfl
  have h1 : Try.f25.name ≠ "runtime.NumGoroutine" := by decide
  obtain ⟨c, hc⟩ : ∃ c, Try.f25.body = some c := ⟨_, rfl⟩
  simp [callFunc, h0, h1, hc]
end Go.Proofs.Ytjeadmndnbggmaa
