/- The merge of one value with a rising row. -/
import Derived.Test.YtjeadmndnbggmaaOrWr
import Derived.Test.YtjeadmndnbggmaaOrWp
set_option linter.unusedVariables false
set_option linter.unusedSimpArgs false
namespace Go.Proofs.Ytjeadmndnbggmaa
open Go.RowKit

theorem row_swap2 {w : World} {B g : Nat} {T : TypeId} {a r : List ValS} {x y : ValS} (h : Blk w B g (rowL valA (a ++ y :: x :: r)).toArray T) :
    Blk (wputs (wputs w g (a.length * 5) (valA x).toList) g ((a.length + 1) * 5) (valA y).toList) B g (rowL valA (a ++ x :: y :: r)).toArray T := by
  have h1 := h.row (i := a.length) (by simp) x
  have h2 := h1.row (i := a.length + 1) (by simp) y
  have e : ((a ++ y :: x :: r).set a.length x).set (a.length + 1) y = a ++ x :: y :: r := by
    rw [List.set_append, if_neg (by omega), Nat.sub_self, List.set_append, if_neg (by omega), show a.length + 1 - a.length = 1 by omega]; rfl
  rw [e] at h2
  exact h2
set_option maxRecDepth 100000 in
set_option maxHeartbeats 6400000 in
theorem sym_one (w : World) (B gr n c : Nat) (T : TypeId) (P C Q : List ValS) (x : ValS) (hn : (P ++ [x] ++ C ++ Q).length = n) (hn9 : n ≤ 100) (hC0 : 0 < C.length) (hC : Up C)
    (hB : Blk w B gr (rowL valA (P ++ [x] ++ C ++ Q)).toArray T) (hok : ∀ y ∈ P ++ [x] ++ C ++ Q, OkS y) (a m b : Nat) (ha : a = P.length) (hm : m = a + 1) (hb : b = m + C.length) :
    Calls Try.prog 36 #[.slice (some ⟨gr, 0, none⟩) n c, .int .i64 (a : Int), .int .i64 (m : Int), .int .i64 (b : Int), .func (.func 8) #[] #[]] w fun e w' => e = .returned (.tuple #[]) ∧ ∃ p, Sd p ([x] ++ C) ∧ Blk w' B gr (rowL valA (P ++ p ++ Q)).toArray T ∧ Oth gr w w' := by
  have HB := Lib.hid hB
  have HOK := Lib.hid hok
  have HN := Lib.hid hn
  have HC := Lib.hid hC
  have hmb : b ≤ n := by rw [← hn]; simp; omega
  have d1 : (m : Int) - (a : Int) = 1 := by omega
  have HMB : Hid (a = P.length ∧ m = a + 1 ∧ b = m + C.length ∧ b ≤ n ∧ m < b) := ⟨ha, hm, hb, hmb, by omega⟩
  clear hB hok hn hC0 hC ha hm hb hmb
  go_enter Try.func36, Try.ntmps36
  go_wp2_with fail
  clear d1
  go_loopw [10, 11] (fun u v wr => ∃ (i j : Nat), u = .int .i64 (i : Int) ∧ v = .int .i64 (j : Int) ∧ Hid (m ≤ i ∧ i ≤ j ∧ j ≤ b ∧ (∀ z ∈ C.take (i - m), ky z < ky x) ∧ ∀ z ∈ C.drop (j - m), ky x ≤ ky z) ∧ Hid (Nx w wr)) (fun u v _ => (intOf v - intOf u).toNat)
  case atStart => exact ⟨m, b, rfl, rfl, ⟨Nat.le_refl _, Nat.le_of_lt HMB.out.2.2.2.2, Nat.le_refl _, by simp, by rw [List.drop_of_length_le (by have := HMB.out; omega)]; intro z h; cases h⟩, Nx.refl _⟩
  case round =>
    obtain ⟨i, j, rfl, rfl, HI, HX⟩ := hrel
    obtain ⟨i1, i2, i3, i4, i5⟩ := HI.out
    obtain ⟨b1, b2, b3, b4, b5⟩ := HMB.out
    by_cases hlt : i < j
    · have q1 : decide ((i : Int) < (j : Int)) = true := decide_eq_true (by omega)
      have q2 : (i : Int) < (j : Int) := by omega
      obtain ⟨s, hs⟩ : ∃ s, i + j = s := ⟨_, rfl⟩
      have hsi : (i : Int) + (j : Int) = (s : Int) := by omega
      have hsw : IntKind.i64.wrap (s : Int) = (s : Int) := by rw [IntKind.wrap_i64]; omega
      obtain ⟨h, hh⟩ : ∃ h, s / 2 = h := ⟨_, rfl⟩
      have hh2 : (s : Int) / 2 = (h : Int) := by omega
      obtain ⟨e, he⟩ : ∃ e, h - m = e := ⟨_, rfl⟩
      have hec : e < C.length := by omega
      obtain ⟨V, hV⟩ : ∃ V, C[e] = V := ⟨_, rfl⟩
      have hla : a < (P ++ [x] ++ C ++ Q).length := by rw [HN.out]; omega
      have hlh : h < (P ++ [x] ++ C ++ Q).length := by rw [HN.out]; omega
      have hga : (P ++ [x] ++ C ++ Q)[a] = x := by simp [b1]
      have hgh : (P ++ [x] ++ C ++ Q)[h] = V := by
        have e1 : h = (P ++ [x]).length + e := by rw [List.length_append, ← b1]; simp; omega
        have e2 : (P ++ [x] ++ C ++ Q)[h]? = some V := by
          rw [List.append_assoc (P ++ [x]), e1, List.getElem?_append_right (by omega), Nat.add_sub_cancel_left, List.getElem?_append_left hec, List.getElem?_eq_getElem hec, hV]
        rw [List.getElem?_eq_getElem hlh] at e2
        exact Option.some.inj e2
      have hxk : OkS x := HOK.out x (by simp)
      have hvk : OkS V := HOK.out V (by rw [← hV]; simp)
      have HXY : Hid (OkS V ∧ OkS x) := ⟨hvk, hxk⟩
      have hcc : ∀ wx, Calls Try.prog 8 #[.agg (valA V), .agg (valA x)] wx fun e w' => e = .returned (.int .i64 (cmpI (ky V) (ky x))) ∧ Nx wx w' := fun wx => leaf_cmp_any HXY.out.1 HXY.out.2 wx
      have HCC := Lib.hid hcc
      obtain ⟨⟨XA, Xu, Xc, hXl⟩, ⟨XD, Xe, Xf, hXd⟩⟩ := hvk.slv
      obtain ⟨⟨YA, Yu, Yc, hYl⟩, ⟨YD, Ye, Yf, hYd⟩⟩ := hxk.slv
      have HVX : Hid (valA V = #[.int .i64 (V.k : Int), .int .i64 V.n, .string ⟨V.s.toArray⟩, .slice XA Xu Xc, .slice XD Xe Xf]) := by unfold Hid valA; rw [hXl, hXd]
      have HVY : Hid (valA x = #[.int .i64 (x.k : Int), .int .i64 x.n, .string ⟨x.s.toArray⟩, .slice YA Yu Yc, .slice YD Ye Yf]) := by unfold Hid valA; rw [hYl, hYd]
      have HFX : Hid (∀ y : Gr wr, (∀ q, q < 5 → y.1.cell? ⟨gr, h * 5 + q, none⟩ = (valA V)[q]?) ∧ ∀ q, q < 5 → y.1.cell? ⟨gr, a * 5 + q, none⟩ = (valA x)[q]?) := fun y =>
        ⟨fun q hq => by rw [(HB.out.below (HX.out.trans y.2)).rcell hlh hq, hgh], fun q hq => by rw [(HB.out.below (HX.out.trans y.2)).rcell hla hq, hga]⟩
      rw [HVX.out, HVY.out] at HFX HCC
      obtain ⟨Xk, hXk⟩ : ∃ k, (V.k : Int) = k := ⟨_, rfl⟩
      obtain ⟨Xn, hXn⟩ : ∃ k, V.n = k := ⟨_, rfl⟩
      obtain ⟨Xs, hXs⟩ : ∃ s, ByteArray.mk V.s.toArray = s := ⟨_, rfl⟩
      obtain ⟨Yk, hYk⟩ : ∃ k, (x.k : Int) = k := ⟨_, rfl⟩
      obtain ⟨Yn, hYn⟩ : ∃ k, x.n = k := ⟨_, rfl⟩
      obtain ⟨Ys, hYs⟩ : ∃ s, ByteArray.mk x.s.toArray = s := ⟨_, rfl⟩
      rw [hXk, hXn, hXs, hYk, hYn, hYs] at HFX HCC
      have h1 : (h : Int) < (n : Int) := by omega
      have h0 : (0 : Int) ≤ (h : Int) := by omega
      have a1 : (a : Int) < (n : Int) := by omega
      have a0 : (0 : Int) ≤ (a : Int) := by omega
      obtain ⟨h', hh'⟩ : ∃ k, h + 1 = k := ⟨_, rfl⟩
      have hp1 : (h : Int) + 1 = (h' : Int) := by omega
      have hp2 : IntKind.i64.wrap (h' : Int) = (h' : Int) := by rw [IntKind.wrap_i64]; omega
      have hCe : ∀ z ∈ C.take (e + 1), ky z ≤ ky V := by
        have hup := HC.out
        rw [← List.take_append_drop (e + 1) C, List.take_succ_eq_append_getElem hec, hV] at hup
        rw [List.take_succ_eq_append_getElem hec, hV]
        exact Up.last (List.pairwise_append.1 hup).1
      have hCd : ∀ z ∈ C.drop e, ky V ≤ ky z := by
        have hup := HC.out
        rw [← List.take_append_drop e C, List.drop_eq_getElem_cons hec, hV] at hup
        rw [List.drop_eq_getElem_cons hec, hV]
        exact Up.head (List.pairwise_append.1 hup).2.1
      have HUP : Hid (ky V < ky x → m ≤ h' ∧ h' ≤ j ∧ j ≤ b ∧ (∀ z ∈ C.take (h' - m), ky z < ky x) ∧ ∀ z ∈ C.drop (j - m), ky x ≤ ky z) := fun hlt => ⟨by omega, by omega, i3, fun z hz => by
        rw [show h' - m = e + 1 by omega] at hz
        have := hCe z hz; omega, i5⟩
      have HDN : Hid (¬ ky V < ky x → m ≤ i ∧ i ≤ h ∧ h ≤ b ∧ (∀ z ∈ C.take (i - m), ky z < ky x) ∧ ∀ z ∈ C.drop (h - m), ky x ≤ ky z) := fun hlt => ⟨i1, by omega, by omega, i4, fun z hz => by
        rw [he] at hz
        have := hCd z hz; omega⟩
      have HME : Hid (i ≤ h ∧ h < j ∧ h' = h + 1) := ⟨by omega, by omega, hh'.symm⟩
      have Lx0 : ∀ y : Gr wr, y.1.cell? ⟨gr, h * 5, none⟩ = some (.int .i64 Xk) := fun y => (HFX.out y).1 0 (by decide)
      have Lx1 : ∀ y : Gr wr, y.1.cell? ⟨gr, h * 5 + 1, none⟩ = some (.int .i64 Xn) := fun y => (HFX.out y).1 1 (by decide)
      have Lx2 : ∀ y : Gr wr, y.1.cell? ⟨gr, h * 5 + 2, none⟩ = some (.string Xs) := fun y => (HFX.out y).1 2 (by decide)
      have Lx3 : ∀ y : Gr wr, y.1.cell? ⟨gr, h * 5 + 3, none⟩ = some (.slice XA Xu Xc) := fun y => (HFX.out y).1 3 (by decide)
      have Lx4 : ∀ y : Gr wr, y.1.cell? ⟨gr, h * 5 + 4, none⟩ = some (.slice XD Xe Xf) := fun y => (HFX.out y).1 4 (by decide)
      have Ly0 : ∀ y : Gr wr, y.1.cell? ⟨gr, a * 5, none⟩ = some (.int .i64 Yk) := fun y => (HFX.out y).2 0 (by decide)
      have Ly1 : ∀ y : Gr wr, y.1.cell? ⟨gr, a * 5 + 1, none⟩ = some (.int .i64 Yn) := fun y => (HFX.out y).2 1 (by decide)
      have Ly2 : ∀ y : Gr wr, y.1.cell? ⟨gr, a * 5 + 2, none⟩ = some (.string Ys) := fun y => (HFX.out y).2 2 (by decide)
      have Ly3 : ∀ y : Gr wr, y.1.cell? ⟨gr, a * 5 + 3, none⟩ = some (.slice YA Yu Yc) := fun y => (HFX.out y).2 3 (by decide)
      have Ly4 : ∀ y : Gr wr, y.1.cell? ⟨gr, a * 5 + 4, none⟩ = some (.slice YD Ye Yf) := fun y => (HFX.out y).2 4 (by decide)
      clear i1 i2 i3 i4 i5 b1 b2 b3 b4 b5 hs hh he hec hV hla hlh hga hgh hxk hvk hcc hXl hXd hYl hYd hXk hXn hXs hYk hYn hYs hh' hCe hCd hlt HVX HVY
      go_upto_region 5 with (fail)
      refine wp_region_hyb [(0, true), (1, true), (2, true), (3, true), (4, true), (5, true), (6, true), (7, true), (8, true), (9, false), (10, true)] (by kernel_rfl) (by kernel_rfl) ?_
      iterate 9 (refine hyb_calm rfl (fun K hK => ?_); go_simp; refine hK _ ?_; clear hK K)
      clear Lx0 Lx1 Lx2 Lx3 Lx4 Ly0 Ly1 Ly2 Ly3 Ly4
      refine hyb_alone rfl (fun w2 hn2 K hK => ?_)
      go_simp
      refine (HCC.out w2).mono ?_; rintro e w3 ⟨rfl, hn3⟩
      refine hK _ _ hn3 ?_
      clear hK K
      by_cases hv : ky V < ky x
      · have hcz : cmpI (ky V) (ky x) = -1 := by unfold cmpI; rw [if_pos hv]
        rw [hcz]
        have HV := Lib.hid (HUP.out hv)
        clear hv hcz
        iterate 1 (refine hyb_calm rfl (fun K hK => ?_); go_simp; refine hK _ ?_; clear hK K)
        refine hyb_nil (fun w4 hn4 => ?_)
        have HX4 := Lib.hid (HX.out.trans (hn2.trans (hn3.trans hn4)))
        clear hn2 hn3 hn4
        go_wp2_with fail
        go_roundw
        case rel => exact ⟨h', j, by go_num, rfl, HV.out, HX4.out⟩
        case measure => have := HME.out; simp [intOf]; omega
      · obtain ⟨CZ, hCZ⟩ : ∃ z, cmpI (ky V) (ky x) = z := ⟨_, rfl⟩
        have hcn : decide (CZ < 0) = false := by
          rw [← hCZ]; unfold cmpI; rw [if_neg hv]; split <;> rfl
        have hcn2 : ¬ CZ < 0 := of_decide_eq_false hcn
        rw [hCZ]
        have HV := Lib.hid (HDN.out hv)
        clear hv hCZ
        iterate 1 (refine hyb_calm rfl (fun K hK => ?_); go_simp; refine hK _ ?_; clear hK K)
        refine hyb_nil (fun w4 hn4 => ?_)
        have HX4 := Lib.hid (HX.out.trans (hn2.trans (hn3.trans hn4)))
        clear hn2 hn3 hn4
        go_wp2_with fail
        go_roundw
        case rel => exact ⟨i, h, rfl, by go_num, HV.out, HX4.out⟩
        case measure => have := HME.out; simp [intOf]; omega
    · have q1 : decide ((i : Int) < (j : Int)) = false := decide_eq_false (by omega)
      have q2 : ¬ (i : Int) < (j : Int) := by omega
      obtain rfl : i = j := by omega
      obtain ⟨C1, hC1⟩ : ∃ l, C.take (i - m) = l := ⟨_, rfl⟩
      obtain ⟨C2, hC2⟩ : ∃ l, C.drop (i - m) = l := ⟨_, rfl⟩
      have hCC : C1 ++ C2 = C := by rw [← hC1, ← hC2, List.take_append_drop]
      have hl1 : C1.length = i - m := by rw [← hC1, List.length_take]; omega
      rw [hC1] at i4
      rw [hC2] at i5
      obtain ⟨ip, hip⟩ : ∃ k, i - 1 = k := ⟨_, rfl⟩
      have e1 : (i : Int) - 1 = (ip : Int) := by omega
      have e2 : IntKind.i64.wrap (ip : Int) = (ip : Int) := by rw [IntKind.wrap_i64]; omega
      have HF : Hid (C1 ++ C2 = C ∧ (∀ z ∈ C1, ky z < ky x) ∧ (∀ z ∈ C2, ky x ≤ ky z) ∧ a + C1.length = ip ∧ a = P.length ∧ ip < n) := ⟨hCC, i4, i5, by omega, b1, by omega⟩
      have HB2 : Hid (Blk wr B gr (rowL valA ((P ++ []) ++ x :: (C1 ++ (C2 ++ Q)))).toArray T) := by
        unfold Hid
        rw [List.append_nil]
        have h := HB.out.below HX.out
        rw [← hCC] at h
        simpa using h
      clear i1 i2 i3 i4 i5 b1 b2 b3 b4 b5 hC1 hC2 hCC hl1 hip HI
      go_wp2_with fail
      go_loopw [13] (fun u ws => ∃ (k : Nat) (L D : List ValS), u = .int .i64 (k : Int) ∧ Hid (L ++ D = C1 ∧ k = a + L.length) ∧ Hid (Blk ws B gr (rowL valA ((P ++ L) ++ x :: (D ++ (C2 ++ Q)))).toArray T) ∧ Hid (Oth gr w ws)) (fun u _ => (n - intOf u).toNat)
      case atStart => exact ⟨a, [], C1, rfl, ⟨rfl, by simp⟩, HB2.out, Oth.nx HX.out⟩
      case round =>
        clear HB2
        obtain ⟨k, L, D, rfl, HL, HK, HT⟩ := hrel
        obtain ⟨f1, f2, f3, f4, f5, f6⟩ := HF.out
        obtain ⟨l1, l2⟩ := HL.out
        by_cases hkl : k < ip
        · have r1 : decide ((k : Int) < (ip : Int)) = true := decide_eq_true (by omega)
          have r2 : (k : Int) < (ip : Int) := by omega
          obtain ⟨y, D', rfl⟩ : ∃ y d, D = y :: d := by
            cases D with
            | nil => rw [List.append_nil] at l1; rw [l1] at l2; omega
            | cons y d => exact ⟨y, d, rfl⟩
          obtain ⟨kp, hkp⟩ : ∃ j, k + 1 = j := ⟨_, rfl⟩
          have e3 : (k : Int) + 1 = (kp : Int) := by omega
          have e4 : IntKind.i64.wrap (kp : Int) = (kp : Int) := by rw [IntKind.wrap_i64]; omega
          have k1 : (k : Int) < (n : Int) := by omega
          have k0 : (0 : Int) ≤ (k : Int) := by omega
          have m1 : (kp : Int) < (n : Int) := by omega
          have m0 : (0 : Int) ≤ (kp : Int) := by omega
          have hkn : k < kp := by omega
          have hkn1 : ¬ k = kp := by omega
          have hkn2 : ¬ kp = k := by omega
          have hPL : (P ++ L).length = k := by rw [List.length_append, ← f5]; exact l2.symm
          have hxk : OkS x := HOK.out x (by simp)
          have hyk : OkS y := HOK.out y (by rw [← f1, ← l1]; simp)
          have hg0 : k < ((P ++ L) ++ x :: (y :: D' ++ (C2 ++ Q))).length := by rw [List.length_append, hPL]; simp
          have hg1 : kp < ((P ++ L) ++ x :: (y :: D' ++ (C2 ++ Q))).length := by rw [List.length_append, hPL, ← hkp]; simp
          have hgx : ((P ++ L) ++ x :: (y :: D' ++ (C2 ++ Q)))[k] = x := by simp [← hPL]
          have hgy : ((P ++ L) ++ x :: (y :: D' ++ (C2 ++ Q)))[kp] = y := by
            have e : kp = (P ++ L).length + 1 := by omega
            subst e; rw [List.getElem_append_right (by omega)]; simp
          obtain ⟨⟨XA, Xu, Xc, hXl⟩, ⟨XD, Xe, Xf, hXd⟩⟩ := hxk.slv
          obtain ⟨⟨YA, Yu, Yc, hYl⟩, ⟨YD, Ye, Yf, hYd⟩⟩ := hyk.slv
          have HVX : Hid (valA x = #[.int .i64 (x.k : Int), .int .i64 x.n, .string ⟨x.s.toArray⟩, .slice XA Xu Xc, .slice XD Xe Xf]) := by unfold Hid valA; rw [hXl, hXd]
          have HVY : Hid (valA y = #[.int .i64 (y.k : Int), .int .i64 y.n, .string ⟨y.s.toArray⟩, .slice YA Yu Yc, .slice YD Ye Yf]) := by unfold Hid valA; rw [hYl, hYd]
          have fx : ∀ q, q < 5 → wr.cell? ⟨gr, k * 5 + q, none⟩ = (valA x)[q]? := fun q hq => by rw [HK.out.rcell hg0 hq, hgx]
          have fy : ∀ q, q < 5 → wr.cell? ⟨gr, kp * 5 + q, none⟩ = (valA y)[q]? := fun q hq => by rw [HK.out.rcell hg1 hq, hgy]
          have hk5 := row_swap2 (a := P ++ L) (r := D' ++ (C2 ++ Q)) HK.out
          rw [hPL, hkp, HVX.out, HVY.out] at hk5
          rw [HVX.out] at fx
          rw [HVY.out] at fy
          obtain ⟨Xk, hXk⟩ : ∃ k, (x.k : Int) = k := ⟨_, rfl⟩
          obtain ⟨Xn, hXn⟩ : ∃ k, x.n = k := ⟨_, rfl⟩
          obtain ⟨Xs, hXs⟩ : ∃ s, ByteArray.mk x.s.toArray = s := ⟨_, rfl⟩
          obtain ⟨Yk, hYk⟩ : ∃ k, (y.k : Int) = k := ⟨_, rfl⟩
          obtain ⟨Yn, hYn⟩ : ∃ k, y.n = k := ⟨_, rfl⟩
          obtain ⟨Ys, hYs⟩ : ∃ s, ByteArray.mk y.s.toArray = s := ⟨_, rfl⟩
          rw [hXk, hXn, hXs] at fx hk5
          rw [hYk, hYn, hYs] at fy hk5
          have ho5 : Oth gr w (wputs (wputs wr gr (k * 5) [.int .i64 Yk, .int .i64 Yn, .string Ys, .slice YA Yu Yc, .slice YD Ye Yf]) gr (kp * 5) [.int .i64 Xk, .int .i64 Xn, .string Xs, .slice XA Xu Xc, .slice XD Xe Xf]) := Oth.owns _ _ (Oth.owns _ _ HT.out)
          have hk6 : Blk (wputs (wputs wr gr (k * 5) [.int .i64 Yk, .int .i64 Yn, .string Ys, .slice YA Yu Yc, .slice YD Ye Yf]) gr (kp * 5) [.int .i64 Xk, .int .i64 Xn, .string Xs, .slice XA Xu Xc, .slice XD Xe Xf]) B gr (rowL valA ((P ++ (L ++ [y])) ++ x :: (D' ++ (C2 ++ Q)))).toArray T := by
            rw [show (P ++ (L ++ [y])) ++ x :: (D' ++ (C2 ++ Q)) = (P ++ L) ++ y :: x :: (D' ++ (C2 ++ Q)) by simp]
            exact hk5
          have HK5 := Lib.hid hk6
          have HO5 := Lib.hid ho5
          have HL5 : Hid ((L ++ [y]) ++ D' = C1 ∧ kp = a + (L ++ [y]).length) := ⟨by rw [← l1]; simp, by rw [List.length_append]; simp; omega⟩
          have HME : Hid (kp = k + 1 ∧ k < n) := ⟨hkp.symm, by omega⟩
          have x0 : wr.cell? ⟨gr, k * 5, none⟩ = some (.int .i64 Xk) := fx 0 (by decide)
          have x1 : wr.cell? ⟨gr, k * 5 + 1, none⟩ = some (.int .i64 Xn) := fx 1 (by decide)
          have x2 : wr.cell? ⟨gr, k * 5 + 2, none⟩ = some (.string Xs) := fx 2 (by decide)
          have x3 : wr.cell? ⟨gr, k * 5 + 3, none⟩ = some (.slice XA Xu Xc) := fx 3 (by decide)
          have x4 : wr.cell? ⟨gr, k * 5 + 4, none⟩ = some (.slice XD Xe Xf) := fx 4 (by decide)
          have y0 : wr.cell? ⟨gr, kp * 5, none⟩ = some (.int .i64 Yk) := fy 0 (by decide)
          have y1 : wr.cell? ⟨gr, kp * 5 + 1, none⟩ = some (.int .i64 Yn) := fy 1 (by decide)
          have y2 : wr.cell? ⟨gr, kp * 5 + 2, none⟩ = some (.string Ys) := fy 2 (by decide)
          have y3 : wr.cell? ⟨gr, kp * 5 + 3, none⟩ = some (.slice YA Yu Yc) := fy 3 (by decide)
          have y4 : wr.cell? ⟨gr, kp * 5 + 4, none⟩ = some (.slice YD Ye Yf) := fy 4 (by decide)
          have rk0 := HK.out.free (k * 5)
          have rk1 := HK.out.free (k * 5 + 1)
          have rk2 := HK.out.free (k * 5 + 2)
          have rk3 := HK.out.free (k * 5 + 3)
          have rk4 := HK.out.free (k * 5 + 4)
          have rm0 := HK.out.free (kp * 5)
          have rm1 := HK.out.free (kp * 5 + 1)
          have rm2 := HK.out.free (kp * 5 + 2)
          have rm3 := HK.out.free (kp * 5 + 3)
          have rm4 := HK.out.free (kp * 5 + 4)
          clear hk5 hk6 ho5 fx fy hXk hXn hXs hYk hYn hYs HVX HVY hXl hXd hYl hYd hxk hyk hg0 hg1 hgx hgy hPL f1 f2 f3 f4 f5 f6 l1 l2 hkp hkl HL
          go_upto_region 11 with (fail)
          go_region
          change Exit.inBlock _ _ _ _ (wputs (wputs wr gr (k * 5) [.int .i64 Yk, .int .i64 Yn, .string Ys, .slice YA Yu Yc, .slice YD Ye Yf]) gr (kp * 5) [.int .i64 Xk, .int .i64 Xn, .string Xs, .slice XA Xu Xc, .slice XD Xe Xf]).drew
          clear x0 x1 x2 x3 x4 y0 y1 y2 y3 y4 rk0 rk1 rk2 rk3 rk4 rm0 rm1 rm2 rm3 rm4 HK HT
          generalize (wputs (wputs wr gr (k * 5) [.int .i64 Yk, .int .i64 Yn, .string Ys, .slice YA Yu Yc, .slice YD Ye Yf]) gr (kp * 5) [.int .i64 Xk, .int .i64 Xn, .string Xs, .slice XA Xu Xc, .slice XD Xe Xf]) = w5 at *
          go_wp2_with fail
          go_roundw
          case rel => exact ⟨kp, L ++ [y], D', by go_num, HL5.out, HK5.out.drew 1, HO5.out.trans ⟨rfl, rfl, rfl, Nat.le_refl _, fun _ _ _ => rfl⟩⟩
          case measure => have := HME.out; simp [intOf]; omega
        · have r1 : decide ((k : Int) < (ip : Int)) = false := decide_eq_false (by omega)
          have r2 : ¬ (k : Int) < (ip : Int) := by omega
          have hD : D = [] := by
            have h := congrArg List.length l1
            rw [List.length_append] at h
            exact List.eq_nil_of_length_eq_zero (by omega)
          subst hD
          rw [List.append_nil] at l1
          subst l1
          have HE : Hid (Sd (L ++ x :: C2) ([x] ++ C)) := by
            refine ⟨?_, ?_⟩
            · rw [← f1]; exact List.perm_middle
            · exact Up.put (by rw [f1]; exact HC.out) (fun z hz => Int.le_of_lt (f2 z hz)) f3
          have HK2 : Hid (Blk wr B gr (rowL valA (P ++ (L ++ x :: C2 ++ Q))).toArray T) := by have h := HK.out; unfold Hid; simpa using h
          clear f1 f2 f3 f4 f5 f6 l2 hkl HK
          go_wp2_with fail
          refine bodyPost_ret (results_none rfl _ _ _) rfl ?_
          exact ⟨rfl, _, HE.out, HK2.out, HT.out⟩
end Go.Proofs.Ytjeadmndnbggmaa
