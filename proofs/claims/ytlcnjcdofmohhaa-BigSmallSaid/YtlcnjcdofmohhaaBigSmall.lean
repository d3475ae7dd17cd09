/- BigSmall: for all numbers below 2^32 and every byte the law returns true and leaves memory as it was. No condition. -/
import Derived.Test.YtlcnjcdofmohhaaBigN
namespace Go.Proofs.Ytlcnjcdofmohhaa
open Go.RowKit

theorem one32 (a : Nat) (h : (a : Int) ≤ 4294967295) : a < 4294967296 * 4294967296 := by omega
theorem low_is (a : Nat) (h : a < 18446744073709551616) : a % 18446744073709551616 = a := Nat.mod_eq_of_lt h

set_option maxRecDepth 100000 in
set_option maxHeartbeats 3200000 in
theorem BigSmall_walk (x y n : Int) (w : World) (hx1 : 0 ≤ x) (hx2 : x ≤ 4294967295) (hy1 : 0 ≤ y) (hy2 : y ≤ 4294967295) (hn1 : 0 ≤ n) (hn2 : n ≤ 255) :
    Calls Try.prog 6 #[.int .u32 x, .int .u32 y, .int .u8 n] w fun e w' => e = .returned (.bool true) ∧ Below w.heap.size w w' := by
  obtain ⟨a, rfl⟩ := Int.eq_ofNat_of_zero_le hx1
  obtain ⟨b, rfl⟩ := Int.eq_ofNat_of_zero_le hy1
  obtain ⟨c, rfl⟩ := Int.eq_ofNat_of_zero_le hn1
  obtain ⟨k, hk, hk2⟩ : ∃ k : Nat, (c : Int) % 33 = (k : Int) ∧ k ≤ 32 := ⟨c % 33, by omega, by omega⟩
  have e64 : ∀ x : Int, IntKind.u64.wrap x = x % 18446744073709551616 := fun x => by simp [IntKind.wrap, IntKind.bits, IntKind.signed]
  have hla : (a : Int) ≤ 4294967295 := hx2
  have hlb : (b : Int) ≤ 4294967295 := hy2
  have lab : a * b ≤ 4294967295 * 4294967295 := Nat.mul_le_mul (by omega) (by omega)
  obtain ⟨S, HS⟩ : ∃ S, Hid (a + b = S) := ⟨_, rfl⟩
  obtain ⟨M, HM⟩ : ∃ M, Hid (a * b = M) := ⟨_, rfl⟩
  obtain ⟨U, HU⟩ : ∃ U, Hid (shV a (k : Int) = U) := ⟨_, rfl⟩
  obtain ⟨D, HD⟩ : ∃ D, Hid (shV a (-(k : Int)) = D) := ⟨_, rfl⟩
  have hS64 : S < 18446744073709551616 := by rw [← HS.out]; omega
  have hM64 : M < 18446744073709551616 := by rw [← HM.out]; omega
  have hUe : a * 2 ^ k = U := by rw [← HU.out, shV, if_pos (by omega)]; rfl
  have hp : 2 ^ k ≤ 2 ^ 32 := Nat.pow_le_pow_right (by decide) hk2
  have hU64 : U < 18446744073709551616 := by
    rw [← hUe]
    have : a * 2 ^ k ≤ 4294967295 * 4294967296 := Nat.mul_le_mul (by omega) (by omega)
    omega
  have hDe : a / 2 ^ k = D := by
    rw [← HD.out, shV]
    rcases Nat.eq_zero_or_pos k with h | h
    · subst h; simp
    · rw [if_neg (by omega)]; congr 2; omega
  have hD64 : D < 18446744073709551616 := by
    have : a / 2 ^ k ≤ a := Nat.div_le_self _ _
    omega
  have fS : IntKind.u64.wrap ((a : Int) + (b : Int)) = (S : Int) := by rw [e64, ← HS.out]; omega
  have fM : IntKind.u64.wrap ((a : Int) * (b : Int)) = (M : Int) := by
    rw [e64, ← HM.out, ← Int.natCast_mul]; omega
  have fU : IntKind.u64.wrap ((a : Int) * 2 ^ k) = (U : Int) := by
    have hc : ((a : Int) * 2 ^ k) = ((a * 2 ^ k : Nat) : Int) := by rw [Int.natCast_mul, Int.natCast_pow]; rfl
    rw [e64, hc, hUe]; omega
  have fD : (a : Int) / 2 ^ k = (D : Int) := by
    have hc : ((2 : Int) ^ k) = ((2 ^ k : Nat) : Int) := by rw [Int.natCast_pow]; rfl
    rw [hc, ← Int.natCast_ediv, hDe]
  have fK : IntKind.i64.wrap (-(k : Int)) = -(k : Int) := by rw [IntKind.wrap_i64]; omega
  clear hUe hp hDe lab e64
  have FS := Lib.hid fS
  have FM := Lib.hid fM
  have FU := Lib.hid fU
  have FD := Lib.hid fD
  have FK := Lib.hid fK
  clear fS fM fU fD fK
  go_enter Try.func6, Try.ntmps6
  go_wp2_with fail
  refine (bbegun_any _).mono ?_; rintro e w0 ⟨rfl, hb⟩
  go_upto_region 5 with (fail)
  go_cut [68] (fun v wx => v = .bool false ∧ Below w.heap.size w wx)
  case first =>
   have fS := FS.out
   have fM := FM.out
   have fU := FU.out
   have fD := FD.out
   have fK := FK.out
   refine wp_region_hyb [(0, true), (2, true), (6, true), (7, true), (8, true), (1, false), (3, false), (4, false), (5, false), (9, true), (10, true), (11, true), (13, true), (17, true), (18, true), (19, true), (12, false), (14, false), (15, false), (16, false), (20, true), (21, true), (22, true), (23, true), (25, true), (28, true), (29, true), (30, true), (24, false), (26, false), (27, false), (31, true), (32, true), (33, true), (34, true), (36, true), (37, true), (40, true), (41, true), (42, true), (35, false), (38, false), (39, false), (43, true), (44, true)] (by kernel_rfl) (by kernel_rfl) ?_
   iterate 5 (refine hyb_calm rfl (fun K hK => ?_); go_simp; refine hK _ ?_; clear hK K)
   refine hyb_alone rfl (fun w1 hn1 K hK => ?_)
   go_simp
   refine (of_any a _ (by omega)).mono ?_; rintro e w2 ⟨v1, rfl, hv1, hb2⟩
   refine hK _ _ hb2 ?_
   clear hK K
   refine hyb_alone rfl (fun w3 hn3 K hK => ?_)
   go_simp
   refine (of_any b _ (by omega)).mono ?_; rintro e w4 ⟨v2, rfl, hv2, hb4⟩
   refine hK _ _ hb4 ?_
   clear hK K
   refine hyb_alone rfl (fun w5 hn5 K hK => ?_)
   go_simp
   refine (add_n v1 v2 a b 2 _ (ln1 (hv1.below (nx (nx hn3 hb4) hn5)) (one32 a hla)) (ln1 (hv2.below hn5) (one32 b hlb)) (by decide)).mono ?_; rintro e w6 ⟨v3, rfl, hv3, hb6⟩
   refine hK _ _ hb6 ?_
   clear hK K
   refine hyb_alone rfl (fun w7 hn7 K hK => ?_)
   go_simp
   refine (low_n v3 _ 2 _ (ln1 (hv3.below hn7) (by rw [HS.out]; omega)) (by decide)).mono ?_; rintro e w' ⟨rfl, rfl⟩
   rw [HS.out, low_is _ hS64]
   refine hK _ _ (Nx.refl _) ?_
   clear hK K
   have hb : Below w.heap.size w w7 := nx (nx (nx (nx (nx (nx (nx hb hn1) hb2) hn3) hb4) hn5) hb6) hn7
   iterate 7 (refine hyb_calm rfl (fun K hK => ?_); go_simp; refine hK _ ?_; clear hK K)
   refine hyb_alone rfl (fun w8 hn8 K hK => ?_)
   go_simp
   refine (of_any a _ (by omega)).mono ?_; rintro e w9 ⟨v4, rfl, hv4, hb9⟩
   refine hK _ _ hb9 ?_
   clear hK K
   refine hyb_alone rfl (fun w10 hn10 K hK => ?_)
   go_simp
   refine (of_any b _ (by omega)).mono ?_; rintro e w11 ⟨v5, rfl, hv5, hb11⟩
   refine hK _ _ hb11 ?_
   clear hK K
   refine hyb_alone rfl (fun w12 hn12 K hK => ?_)
   go_simp
   refine (mul_n v4 v5 a b 2 _ (ln1 (hv4.below (nx (nx hn10 hb11) hn12)) (one32 a hla)) (ln1 (hv5.below hn12) (one32 b hlb)) (by decide)).mono ?_; rintro e w13 ⟨v6, rfl, hv6, hb13⟩
   refine hK _ _ hb13 ?_
   clear hK K
   refine hyb_alone rfl (fun w14 hn14 K hK => ?_)
   go_simp
   refine (low_n v6 _ 2 _ (ln1 (hv6.below hn14) (by rw [HM.out]; omega)) (by decide)).mono ?_; rintro e w' ⟨rfl, rfl⟩
   rw [HM.out, low_is _ hM64]
   refine hK _ _ (Nx.refl _) ?_
   clear hK K
   have hb : Below w.heap.size w w14 := nx (nx (nx (nx (nx (nx (nx hb hn8) hb9) hn10) hb11) hn12) hb13) hn14
   iterate 8 (refine hyb_calm rfl (fun K hK => ?_); go_simp; refine hK _ ?_; clear hK K)
   refine hyb_alone rfl (fun w15 hn15 K hK => ?_)
   go_simp
   refine (of_any a _ (by omega)).mono ?_; rintro e w16 ⟨v7, rfl, hv7, hb16⟩
   refine hK _ _ hb16 ?_
   clear hK K
   refine hyb_alone rfl (fun w17 hn17 K hK => ?_)
   go_simp
   refine (shl_n v7 a 2 (k : Int) _ (ln1 (hv7.below hn17) (one32 a hla)) (by decide) (by omega) (by omega)).mono ?_; rintro e w18 ⟨v8, rfl, hv8, hb18⟩
   rw [HU.out] at hv8
   refine hK _ _ hb18 ?_
   clear hK K
   refine hyb_alone rfl (fun w19 hn19 K hK => ?_)
   go_simp
   refine (low_n v8 _ 2 _ (ln1 (hv8.below hn19) (by omega)) (by decide)).mono ?_; rintro e w' ⟨rfl, rfl⟩
   rw [low_is _ hU64]
   refine hK _ _ (Nx.refl _) ?_
   clear hK K
   have hb : Below w.heap.size w w19 := nx (nx (nx (nx (nx hb hn15) hb16) hn17) hb18) hn19
   iterate 9 (refine hyb_calm rfl (fun K hK => ?_); go_simp; refine hK _ ?_; clear hK K)
   refine hyb_alone rfl (fun w20 hn20 K hK => ?_)
   go_simp
   refine (of_any a _ (by omega)).mono ?_; rintro e w21 ⟨v9, rfl, hv9, hb21⟩
   refine hK _ _ hb21 ?_
   clear hK K
   refine hyb_alone rfl (fun w22 hn22 K hK => ?_)
   go_simp
   refine (shl_n v9 a 2 (-(k : Int)) _ (ln1 (hv9.below hn22) (one32 a hla)) (by decide) (by omega) (by omega)).mono ?_; rintro e w23 ⟨v10, rfl, hv10, hb23⟩
   rw [HD.out] at hv10
   refine hK _ _ hb23 ?_
   clear hK K
   refine hyb_alone rfl (fun w24 hn24 K hK => ?_)
   go_simp
   refine (low_n v10 _ 2 _ (ln1 (hv10.below hn24) (by omega)) (by decide)).mono ?_; rintro e w' ⟨rfl, rfl⟩
   rw [low_is _ hD64]
   refine hK _ _ (Nx.refl _) ?_
   clear hK K
   have hb : Below w.heap.size w w24 := nx (nx (nx (nx (nx hb hn20) hb21) hn22) hb23) hn24
   iterate 2 (refine hyb_calm rfl (fun K hK => ?_); go_simp; refine hK _ ?_; clear hK K)
   refine hyb_nil (fun w25 hn25 => ?_)
   go_wp2_with fail
   go_meet
   exact ⟨rfl, nx hb hn25⟩
  case rest =>
   obtain ⟨rfl, hb⟩ := hcut
   go_wp2_with fail
   refine (of_any a _ (by omega)).mono ?_; rintro e w26 ⟨v11, rfl, hv11, hb26⟩
   go_wp2_with fail
   refine (of_any b _ (by omega)).mono ?_; rintro e w27 ⟨v12, rfl, hv12, hb27⟩
   go_wp2_with fail
   refine (sub_n v11 v12 a b 2 _ (ln1 (hv11.below hb27) (one32 a hla)) (ln1 hv12 (one32 b hlb)) (by decide)).mono ?_; rintro e w28 ⟨v13, is, rfl, hsub, hb28⟩
   have hb := nx (nx (nx hb hb26) hb27) hb28
   unfold SubN at hsub
   go_upto_region 8 with (fail)
   go_cut [92] (fun v wx => v = .bool false ∧ Below w.heap.size w wx)
   case first =>
    by_cases hlt : a < b
    · have hge : decide (b ≤ a) = false := decide_eq_false (by omega)
      rw [if_pos hlt] at hsub
      obtain ⟨rfl, rfl⟩ := hsub
      clear hlt
      go_wp2_with fail
      go_meet
      exact ⟨rfl, hb⟩
    · have hge : decide (b ≤ a) = true := decide_eq_true (by omega)
      rw [if_neg hlt] at hsub
      obtain ⟨hv13, rfl⟩ := hsub
      have fD2 : ((a : Int) - (b : Int)) = ((a - b : Nat) : Int) := by omega
      obtain ⟨df, hdf⟩ : ∃ df, a - b = df := ⟨_, rfl⟩
      rw [hdf] at hv13 fD2
      have hdf64 : df < 18446744073709551616 := by omega
      have hle : (b : Int) ≤ (a : Int) := by omega
      clear hdf hlt
      go_wp2_with fail
      refine (low_n v13 _ 2 _ (ln1 hv13 (by omega)) (by decide)).mono ?_; rintro e w' ⟨rfl, rfl⟩
      rw [low_is _ hdf64]
      clear hv13
      go_wp2_with fail
      go_meet
      exact ⟨rfl, hb⟩
   case rest =>
    obtain ⟨rfl, hb⟩ := hcut
    clear hsub hv11 hv12
    go_wp2_with fail
    refine (of_any a _ (by omega)).mono ?_; rintro e w29 ⟨v14, rfl, hv14, hb29⟩
    go_wp2_with fail
    refine (of_any b _ (by omega)).mono ?_; rintro e w30 ⟨v15, rfl, hv15, hb30⟩
    go_wp2_with fail
    refine (div_n v14 v15 a b 2 _ (ln1 (hv14.below hb30) (one32 a hla)) (ln1 hv15 (one32 b hlb)) (by decide)).mono ?_; rintro e w31 ⟨q, r, ok, rfl, hdiv, hb31⟩
    have hb := nx (nx (nx hb hb29) hb30) hb31
    unfold DivN at hdiv
    by_cases hb0 : b = 0
    · rw [if_pos hb0] at hdiv
      obtain ⟨rfl, rfl, rfl⟩ := hdiv
      subst hb0
      go_upto_region 11 with (fail)
      refine wp_region_hyb [(0, true), (1, true), (2, true), (3, true), (4, true), (5, true), (6, true), (7, true), (8, true), (10, true), (11, true), (12, true), (9, false), (13, true), (14, true), (15, true), (17, true), (18, true), (19, true), (16, false), (20, true), (21, true), (22, true), (23, true), (24, true)] (by kernel_rfl) (by kernel_rfl) ?_
      iterate 12 (refine hyb_calm rfl (fun K hK => ?_); go_simp; refine hK _ ?_; clear hK K)
      refine hyb_alone rfl (fun w32 hn32 K hK => ?_)
      go_simp
      refine hK _ _ (Nx.refl _) ?_
      clear hK K
      iterate 6 (refine hyb_calm rfl (fun K hK => ?_); go_simp; refine hK _ ?_; clear hK K)
      refine hyb_alone rfl (fun w33 hn33 K hK => ?_)
      go_simp
      refine hK _ _ (Nx.refl _) ?_
      clear hK K
      iterate 5 (refine hyb_calm rfl (fun K hK => ?_); go_simp; refine hK _ ?_; clear hK K)
      refine hyb_nil (fun w34 hn34 => ?_)
      go_wp2
      go_ret
      exact ⟨rfl, nx (nx (nx hb hn32) hn33) hn34⟩
    · rw [if_neg hb0] at hdiv
      obtain ⟨hq, hr, rfl⟩ := hdiv
      have g0 : ((b : Int) != 0) = true := by simp; omega
      obtain ⟨qn, hqn⟩ : ∃ qn, a / b = qn := ⟨_, rfl⟩
      obtain ⟨rn, hrn⟩ : ∃ rn, a % b = rn := ⟨_, rfl⟩
      have fQ : (a : Int) / (b : Int) = (qn : Int) := by rw [← Int.natCast_ediv, hqn]
      have fR : (a : Int) % (b : Int) = (rn : Int) := by rw [← Int.natCast_emod, hrn]
      have fT : (a : Int).tmod (b : Int) = (rn : Int) := by rw [← Int.ofNat_tmod, hrn]
      have hql : qn ≤ a := by rw [← hqn]; exact Nat.div_le_self _ _
      have hrl : rn ≤ a := by rw [← hrn]; exact Nat.mod_le _ _
      rw [hqn] at hq
      rw [hrn] at hr
      clear hqn hrn
      have fQ2 : IntKind.u64.wrap (qn : Int) = (qn : Int) := by rw [IntKind.wrap_u64]; omega
      have fR2 : IntKind.u64.wrap (rn : Int) = (rn : Int) := by rw [IntKind.wrap_u64]; omega
      go_upto_region 11 with (fail)
      refine wp_region_hyb [(0, true), (1, true), (2, true), (3, true), (4, true), (5, true), (6, true), (7, true), (8, true), (10, true), (11, true), (12, true), (9, false), (13, true), (14, true), (15, true), (17, true), (18, true), (19, true), (16, false), (20, true), (21, true), (22, true), (23, true), (24, true)] (by kernel_rfl) (by kernel_rfl) ?_
      have hb0' : (b : Int) ≠ 0 := by omega
      iterate 12 (refine hyb_calm rfl (fun K hK => ?_); go_simp; refine hK _ ?_; clear hK K)
      refine hyb_alone rfl (fun w32 hn32 K hK => ?_)
      go_simp
      refine (low_n q _ 2 _ (ln1 (hq.below hn32) (by omega)) (by decide)).mono ?_; rintro e w' ⟨rfl, rfl⟩
      rw [low_is _ (by omega)]
      refine hK _ _ (Nx.refl _) ?_
      clear hK K
      iterate 6 (refine hyb_calm rfl (fun K hK => ?_); go_simp; refine hK _ ?_; clear hK K)
      refine hyb_alone rfl (fun w33 hn33 K hK => ?_)
      go_simp
      refine (low_n r _ 2 _ (ln1 ((hr.below hn32).below hn33) (by omega)) (by decide)).mono ?_; rintro e w' ⟨rfl, rfl⟩
      rw [low_is _ (by omega)]
      refine hK _ _ (Nx.refl _) ?_
      clear hK K
      iterate 5 (refine hyb_calm rfl (fun K hK => ?_); go_simp; refine hK _ ?_; clear hK K)
      refine hyb_nil (fun w34 hn34 => ?_)
      go_wp2
      go_ret
      exact ⟨rfl, nx (nx (nx hb hn32) hn33) hn34⟩
end Go.Proofs.Ytlcnjcdofmohhaa
