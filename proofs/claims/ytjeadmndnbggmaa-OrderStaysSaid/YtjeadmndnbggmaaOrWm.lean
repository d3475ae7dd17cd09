/- Two rising rows, merged in place: the general case. -/
import Derived.Test.YtjeadmndnbggmaaOrWt
set_option linter.unusedVariables false
set_option linter.unusedSimpArgs false
namespace Go.Proofs.Ytjeadmndnbggmaa
open Go.RowKit

def z0S : ValS := leafS 0 0
theorem Up.at_ {l : List ValS} (h : Up l) {i j : Nat} (hij : i ≤ j) (hj : j < l.length) : ky (l.getD i z0S) ≤ ky (l.getD j z0S) := by
  rw [List.getD_eq_getElem?_getD, List.getD_eq_getElem?_getD, List.getElem?_eq_getElem hj, List.getElem?_eq_getElem (by omega : i < l.length)]
  rcases Nat.lt_or_ge i j with h2 | h2
  · exact List.pairwise_iff_getElem.1 h i j (by omega) hj h2
  · obtain rfl : i = j := by omega
    exact Int.le_refl _
theorem last_is {l l' : List ValS} {x : ValS} {k : Nat} (hk : k ≤ l.length) (h : l.take k = l' ++ [x]) : 0 < k ∧ l.getD (k - 1) z0S = x := by
  have hl := congrArg List.length h
  rw [List.length_take, List.length_append] at hl
  simp only [List.length_cons, List.length_nil] at hl
  have h2 : (l.take k)[k - 1]? = some x := by
    rw [h, List.getElem?_append_right (by omega), show k - 1 - l'.length = 0 by omega]; rfl
  rw [List.getElem?_take_of_lt (by omega)] at h2
  exact ⟨by omega, by rw [List.getD_eq_getElem?_getD, h2]; rfl⟩
theorem head_is {l r' : List ValS} {y : ValS} {k : Nat} (h : l.drop k = y :: r') : k < l.length ∧ l.getD k z0S = y := by
  have hl := congrArg List.length h
  rw [List.length_drop] at hl
  simp only [List.length_cons] at hl
  have h2 : (l.drop k)[0]? = some y := by rw [h]; rfl
  rw [List.getElem?_drop, Nat.add_zero] at h2
  exact ⟨by omega, by rw [List.getD_eq_getElem?_getD, h2]; rfl⟩
def SymC (N : Nat) : Prop := ∀ (w : World) (B gr n c : Nat) (T : TypeId) (P A C Q : List ValS), (P ++ A ++ C ++ Q).length = n → n ≤ 100 → 0 < A.length → 0 < C.length → A.length + C.length ≤ N → Up A → Up C →
  Blk w B gr (rowL valA (P ++ A ++ C ++ Q)).toArray T → (∀ x ∈ P ++ A ++ C ++ Q, OkS x) → ∀ (a m b : Nat), a = P.length → m = a + A.length → b = m + C.length →
  Calls Try.prog 36 #[.slice (some ⟨gr, 0, none⟩) n c, .int .i64 (a : Int), .int .i64 (m : Int), .int .i64 (b : Int), .func (.func 8) #[] #[]] w fun e w' => e = .returned (.tuple #[]) ∧ ∃ p, Sd p (A ++ C) ∧ Blk w' B gr (rowL valA (P ++ p ++ Q)).toArray T ∧ Oth gr w w'
/-- where the search ends, the parts' ends are in order -/
theorem search_end {A C : List ValS} {a m b mid st r0 s : Nat} (hm : m = a + A.length) (hb : b = m + C.length) (hmid : mid = (a + b) / 2) (hst : (mid < m ∧ st + b = mid + m ∧ r0 = mid) ∨ (m ≤ mid ∧ st = a ∧ r0 = m))
    (h1 : st ≤ s) (h2 : s ≤ r0) (h3 : ∀ i, st ≤ i → i < s → ky (A.getD (i - a) z0S) ≤ ky (C.getD (mid - 1 - i) z0S)) (h4 : ∀ i, s ≤ i → i < r0 → ky (C.getD (mid - 1 - i) z0S) < ky (A.getD (i - a) z0S)) :
    (∀ l' x y r', A.take (s - a) = l' ++ [x] → C.drop (mid - s) = y :: r' → ky x ≤ ky y) ∧ (∀ l' x y r', C.take (mid - s) = l' ++ [x] → A.drop (s - a) = y :: r' → ky x ≤ ky y) := by
  constructor
  · intro l' x y r' e1 e2
    obtain ⟨k1, rfl⟩ := last_is (by omega) e1
    obtain ⟨k2, rfl⟩ := head_is e2
    have h5 : st < s := by omega
    have := h3 (s - 1) (by omega) (by omega)
    rw [show s - 1 - a = s - a - 1 by omega, show mid - 1 - (s - 1) = mid - s by omega] at this
    exact this
  · intro l' x y r' e1 e2
    obtain ⟨k1, rfl⟩ := last_is (by omega) e1
    obtain ⟨k2, rfl⟩ := head_is e2
    have := h4 s (Nat.le_refl _) (by omega)
    rw [show mid - 1 - s = mid - s - 1 by omega] at this
    exact Int.le_of_lt this
set_option maxRecDepth 100000 in
set_option maxHeartbeats 12800000 in
theorem sym_gen (N : Nat) (ih : SymC N) (w : World) (B gr n c : Nat) (T : TypeId) (P A C Q : List ValS) (hn : (P ++ A ++ C ++ Q).length = n) (hn9 : n ≤ 100) (hA1 : 1 < A.length) (hC1 : 1 < C.length) (hN : A.length + C.length ≤ N + 1) (hA : Up A) (hC : Up C)
    (hB : Blk w B gr (rowL valA (P ++ A ++ C ++ Q)).toArray T) (hok : ∀ x ∈ P ++ A ++ C ++ Q, OkS x) (a m b : Nat) (ha : a = P.length) (hm : m = a + A.length) (hb : b = m + C.length) :
    Calls Try.prog 36 #[.slice (some ⟨gr, 0, none⟩) n c, .int .i64 (a : Int), .int .i64 (m : Int), .int .i64 (b : Int), .func (.func 8) #[] #[]] w fun e w' => e = .returned (.tuple #[]) ∧ ∃ p, Sd p (A ++ C) ∧ Blk w' B gr (rowL valA (P ++ p ++ Q)).toArray T ∧ Oth gr w w' := by
  have HIH := Lib.hid ih
  have HB := Lib.hid hB
  have HOK := Lib.hid hok
  have HN := Lib.hid hn
  have HA := Lib.hid hA
  have HC := Lib.hid hC
  have hbn : b ≤ n := by rw [← hn]; simp; omega
  obtain ⟨t, ht⟩ : ∃ t, A.length = t := ⟨_, rfl⟩
  obtain ⟨u, hu⟩ : ∃ t, C.length = t := ⟨_, rfl⟩
  obtain ⟨mid, hmid⟩ : ∃ x, (a + b) / 2 = x := ⟨_, rfl⟩
  obtain ⟨s0, hs0⟩ : ∃ x, a + b = x := ⟨_, rfl⟩
  obtain ⟨nn, hnn⟩ : ∃ x, mid + m = x := ⟨_, rfl⟩
  obtain ⟨p, hp⟩ : ∃ x, nn - 1 = x := ⟨_, rfl⟩
  have htn : t ≤ n ∧ u ≤ n := by omega
  have HH : Hid (a = P.length ∧ m = a + A.length ∧ b = m + C.length ∧ b ≤ n ∧ 1 < A.length ∧ 1 < C.length ∧ A.length + C.length ≤ N + 1 ∧ mid = (a + b) / 2 ∧ nn = mid + m ∧ p + 1 = nn) := ⟨ha, hm, hb, hbn, by omega, by omega, hN, hmid.symm, hnn.symm, by omega⟩
  have d0 : (m : Int) - (a : Int) = (t : Int) := by omega
  have d1 : IntKind.i64.wrap (t : Int) = (t : Int) := by rw [IntKind.wrap_i64]; omega
  have d2 : ((t : Int) == 1) = false := by simp; omega
  have d3 : (b : Int) - (m : Int) = (u : Int) := by omega
  have d4 : IntKind.i64.wrap (u : Int) = (u : Int) := by rw [IntKind.wrap_i64]; omega
  have d5 : ((u : Int) == 1) = false := by simp; omega
  have d6 : (a : Int) + (b : Int) = (s0 : Int) := by omega
  have d7 : IntKind.i64.wrap (s0 : Int) = (s0 : Int) := by rw [IntKind.wrap_i64]; omega
  have d8 : (s0 : Int) / 2 = (mid : Int) := by omega
  have d13 : s0 ≤ 200 := by omega
  have d14 : s0 / 2 = mid := by omega
  have d9 : (mid : Int) + (m : Int) = (nn : Int) := by omega
  have d10 : IntKind.i64.wrap (nn : Int) = (nn : Int) := by rw [IntKind.wrap_i64]; omega
  have d11 : (nn : Int) - 1 = (p : Int) := by omega
  have d12 : IntKind.i64.wrap (p : Int) = (p : Int) := by rw [IntKind.wrap_i64]; omega
  obtain ⟨st, r0, hst⟩ : ∃ st r0, (mid < m ∧ st + b = mid + m ∧ r0 = mid) ∨ (m ≤ mid ∧ st = a ∧ r0 = m) := by
    by_cases h : mid < m
    · exact ⟨mid + m - b, mid, .inl ⟨h, by omega, rfl⟩⟩
    · exact ⟨a, m, .inr ⟨by omega, rfl, rfl⟩⟩
  have HST := Lib.hid hst
  clear ih hB hok hn hA hC hA1 hC1 ha hm hb ht hu hmid hs0 hnn hp htn hN hbn
  go_enter Try.func36, Try.ntmps36
  go_upto_if 140 with (fail)
  go_cut [20, 21] (fun x y wx => x = .int .i64 (st : Int) ∧ y = .int .i64 (r0 : Int) ∧ wx = w)
  case first =>
    rcases hst with ⟨h1, h2, h3⟩ | ⟨h1, h2, h3⟩
    · have q1 : decide ((mid : Int) < (m : Int)) = true := decide_eq_true (by omega)
      have q2 : (nn : Int) - (b : Int) = (st : Int) := by have := HH.out; omega
      have q3 : IntKind.i64.wrap (st : Int) = (st : Int) := by have := HH.out; rw [IntKind.wrap_i64]; omega
      subst h3
      clear h2
      go_wp2_with fail
      go_meet
      case rel => exact ⟨rfl, rfl, rfl⟩
    · have q1 : decide ((mid : Int) < (m : Int)) = false := decide_eq_false (by omega)
      subst h2 h3
      go_wp2_with fail
      go_meet
      case rel => exact ⟨rfl, rfl, rfl⟩
  case rest =>
  obtain ⟨rfl, rfl, hwx⟩ := hcut
  obtain rfl := hwx.symm
  clear d0 d1 d2 d3 d4 d5 d6 d7 d8 d9 d10 d13 d14 hst
  go_wp2_with fail
  clear d11 d12
  go_loopw [20, 21] (fun u v wr => ∃ (s r : Nat), u = .int .i64 (s : Int) ∧ v = .int .i64 (r : Int) ∧ Hid (st ≤ s ∧ s ≤ r ∧ r ≤ r0 ∧ (∀ i, st ≤ i → i < s → ky (A.getD (i - a) z0S) ≤ ky (C.getD (mid - 1 - i) z0S)) ∧ ∀ i, r ≤ i → i < r0 → ky (C.getD (mid - 1 - i) z0S) < ky (A.getD (i - a) z0S)) ∧ Hid (Nx w wr)) (fun u v _ => (intOf v - intOf u).toNat)
  case atStart => exact ⟨st, r0, rfl, rfl, ⟨Nat.le_refl _, by have := HST.out; have := HH.out; omega, Nat.le_refl _, fun i h1 h2 => absurd h2 (by omega), fun i h1 h2 => absurd h2 (by omega)⟩, Nx.refl _⟩
  case round =>
    obtain ⟨s, r, rfl, rfl, HI, HX⟩ := hrel
    obtain ⟨i1, i2, i3, i4, i5⟩ := HI.out
    obtain ⟨b1, b2, b3, b4, b5, b6, b7, b8, b9, b10⟩ := HH.out
    have hst := HST.out
    by_cases hlt : s < r
    · have q1 : decide ((s : Int) < (r : Int)) = true := decide_eq_true (by omega)
      have q2 : (s : Int) < (r : Int) := by omega
      obtain ⟨sg, hsg⟩ : ∃ x, s + r = x := ⟨_, rfl⟩
      have hsi : (s : Int) + (r : Int) = (sg : Int) := by omega
      have hsw : IntKind.i64.wrap (sg : Int) = (sg : Int) := by rw [IntKind.wrap_i64]; omega
      obtain ⟨h, hh⟩ : ∃ h, sg / 2 = h := ⟨_, rfl⟩
      have hh2 : (sg : Int) / 2 = (h : Int) := by omega
      obtain ⟨e, he⟩ : ∃ e, h - a = e := ⟨_, rfl⟩
      obtain ⟨f, hf⟩ : ∃ f, mid - 1 - h = f := ⟨_, rfl⟩
      obtain ⟨pc, hpc⟩ : ∃ x, m + f = x := ⟨_, rfl⟩
      have hea : e < A.length := by omega
      have hfc : f < C.length := by omega
      obtain ⟨V, hV⟩ : ∃ V, A[e] = V := ⟨_, rfl⟩
      obtain ⟨U, hU⟩ : ∃ V, C[f] = V := ⟨_, rfl⟩
      have hVd : A.getD e z0S = V := by rw [List.getD_eq_getElem?_getD, List.getElem?_eq_getElem hea, hV]; rfl
      have hUd : C.getD f z0S = U := by rw [List.getD_eq_getElem?_getD, List.getElem?_eq_getElem hfc, hU]; rfl
      have hlh : h < (P ++ A ++ C ++ Q).length := by rw [HN.out]; omega
      have hlp : pc < (P ++ A ++ C ++ Q).length := by rw [HN.out]; omega
      have hgh : (P ++ A ++ C ++ Q)[h] = V := by
        have e1 : h = P.length + e := by omega
        have e2 : (P ++ A ++ C ++ Q)[h]? = some V := by
          rw [List.append_assoc (P ++ A), List.append_assoc P, e1, List.getElem?_append_right (by omega), Nat.add_sub_cancel_left, List.getElem?_append_left hea, List.getElem?_eq_getElem hea, hV]
        rw [List.getElem?_eq_getElem hlh] at e2
        exact Option.some.inj e2
      have hgp : (P ++ A ++ C ++ Q)[pc] = U := by
        have e1 : pc = (P ++ A).length + f := by rw [List.length_append]; omega
        have e2 : (P ++ A ++ C ++ Q)[pc]? = some U := by
          rw [List.append_assoc (P ++ A), e1, List.getElem?_append_right (by omega), Nat.add_sub_cancel_left, List.getElem?_append_left hfc, List.getElem?_eq_getElem hfc, hU]
        rw [List.getElem?_eq_getElem hlp] at e2
        exact Option.some.inj e2
      have hvk : OkS V := HOK.out V (by rw [← hV]; simp)
      have huk : OkS U := HOK.out U (by rw [← hU]; simp)
      have HXY : Hid (OkS U ∧ OkS V) := ⟨huk, hvk⟩
      have hcc : ∀ wx, Calls Try.prog 8 #[.agg (valA U), .agg (valA V)] wx fun e w' => e = .returned (.int .i64 (cmpI (ky U) (ky V))) ∧ Nx wx w' := fun wx => leaf_cmp_any HXY.out.1 HXY.out.2 wx
      have HCC := Lib.hid hcc
      obtain ⟨⟨XA, Xu, Xc, hXl⟩, ⟨XD, Xe, Xf, hXd⟩⟩ := huk.slv
      obtain ⟨⟨YA, Yu, Yc, hYl⟩, ⟨YD, Ye, Yf, hYd⟩⟩ := hvk.slv
      have HVX : Hid (valA U = #[.int .i64 (U.k : Int), .int .i64 U.n, .string ⟨U.s.toArray⟩, .slice XA Xu Xc, .slice XD Xe Xf]) := by unfold Hid valA; rw [hXl, hXd]
      have HVY : Hid (valA V = #[.int .i64 (V.k : Int), .int .i64 V.n, .string ⟨V.s.toArray⟩, .slice YA Yu Yc, .slice YD Ye Yf]) := by unfold Hid valA; rw [hYl, hYd]
      have HFX : Hid (∀ y : Gr wr, (∀ q, q < 5 → y.1.cell? ⟨gr, pc * 5 + q, none⟩ = (valA U)[q]?) ∧ ∀ q, q < 5 → y.1.cell? ⟨gr, h * 5 + q, none⟩ = (valA V)[q]?) := fun y =>
        ⟨fun q hq => by rw [(HB.out.below (HX.out.trans y.2)).rcell hlp hq, hgp], fun q hq => by rw [(HB.out.below (HX.out.trans y.2)).rcell hlh hq, hgh]⟩
      rw [HVX.out, HVY.out] at HFX HCC
      obtain ⟨Xk, hXk⟩ : ∃ k, (U.k : Int) = k := ⟨_, rfl⟩
      obtain ⟨Xn, hXn⟩ : ∃ k, U.n = k := ⟨_, rfl⟩
      obtain ⟨Xs, hXs⟩ : ∃ s, ByteArray.mk U.s.toArray = s := ⟨_, rfl⟩
      obtain ⟨Yk, hYk⟩ : ∃ k, (V.k : Int) = k := ⟨_, rfl⟩
      obtain ⟨Yn, hYn⟩ : ∃ k, V.n = k := ⟨_, rfl⟩
      obtain ⟨Ys, hYs⟩ : ∃ s, ByteArray.mk V.s.toArray = s := ⟨_, rfl⟩
      rw [hXk, hXn, hXs, hYk, hYn, hYs] at HFX HCC
      have h1 : (h : Int) < (n : Int) := by omega
      have h0 : (0 : Int) ≤ (h : Int) := by omega
      have a1 : (pc : Int) < (n : Int) := by omega
      have a0 : (0 : Int) ≤ (pc : Int) := by omega
      have e5 : (p : Int) - (h : Int) = (pc : Int) := by omega
      have e6 : IntKind.i64.wrap (pc : Int) = (pc : Int) := by rw [IntKind.wrap_i64]; omega
      obtain ⟨h', hh'⟩ : ∃ k, h + 1 = k := ⟨_, rfl⟩
      have hp1 : (h : Int) + 1 = (h' : Int) := by omega
      have hp2 : IntKind.i64.wrap (h' : Int) = (h' : Int) := by rw [IntKind.wrap_i64]; omega
      have HUP : Hid (¬ ky U < ky V → st ≤ h' ∧ h' ≤ r ∧ r ≤ r0 ∧ (∀ i, st ≤ i → i < h' → ky (A.getD (i - a) z0S) ≤ ky (C.getD (mid - 1 - i) z0S)) ∧ ∀ i, r ≤ i → i < r0 → ky (C.getD (mid - 1 - i) z0S) < ky (A.getD (i - a) z0S)) := fun hn => ⟨by omega, by omega, i3, fun i hi1 hi2 => by
        have k1 := HA.out.at_ (i := i - a) (j := e) (by omega) hea
        have k2 := HC.out.at_ (i := f) (j := mid - 1 - i) (by omega) (by omega)
        rw [hVd] at k1
        rw [hUd] at k2
        omega, i5⟩
      have HDN : Hid (ky U < ky V → st ≤ s ∧ s ≤ h ∧ h ≤ r0 ∧ (∀ i, st ≤ i → i < s → ky (A.getD (i - a) z0S) ≤ ky (C.getD (mid - 1 - i) z0S)) ∧ ∀ i, h ≤ i → i < r0 → ky (C.getD (mid - 1 - i) z0S) < ky (A.getD (i - a) z0S)) := fun hn => ⟨i1, by omega, by omega, i4, fun i hi1 hi2 => by
        have k1 := HA.out.at_ (i := e) (j := i - a) (by omega) (by omega)
        have k2 := HC.out.at_ (i := mid - 1 - i) (j := f) (by omega) hfc
        rw [hVd] at k1
        rw [hUd] at k2
        omega⟩
      have HME : Hid (s ≤ h ∧ h < r ∧ h' = h + 1) := ⟨by omega, by omega, hh'.symm⟩
      have Lx0 : ∀ y : Gr wr, y.1.cell? ⟨gr, pc * 5, none⟩ = some (.int .i64 Xk) := fun y => (HFX.out y).1 0 (by decide)
      have Lx1 : ∀ y : Gr wr, y.1.cell? ⟨gr, pc * 5 + 1, none⟩ = some (.int .i64 Xn) := fun y => (HFX.out y).1 1 (by decide)
      have Lx2 : ∀ y : Gr wr, y.1.cell? ⟨gr, pc * 5 + 2, none⟩ = some (.string Xs) := fun y => (HFX.out y).1 2 (by decide)
      have Lx3 : ∀ y : Gr wr, y.1.cell? ⟨gr, pc * 5 + 3, none⟩ = some (.slice XA Xu Xc) := fun y => (HFX.out y).1 3 (by decide)
      have Lx4 : ∀ y : Gr wr, y.1.cell? ⟨gr, pc * 5 + 4, none⟩ = some (.slice XD Xe Xf) := fun y => (HFX.out y).1 4 (by decide)
      have Ly0 : ∀ y : Gr wr, y.1.cell? ⟨gr, h * 5, none⟩ = some (.int .i64 Yk) := fun y => (HFX.out y).2 0 (by decide)
      have Ly1 : ∀ y : Gr wr, y.1.cell? ⟨gr, h * 5 + 1, none⟩ = some (.int .i64 Yn) := fun y => (HFX.out y).2 1 (by decide)
      have Ly2 : ∀ y : Gr wr, y.1.cell? ⟨gr, h * 5 + 2, none⟩ = some (.string Ys) := fun y => (HFX.out y).2 2 (by decide)
      have Ly3 : ∀ y : Gr wr, y.1.cell? ⟨gr, h * 5 + 3, none⟩ = some (.slice YA Yu Yc) := fun y => (HFX.out y).2 3 (by decide)
      have Ly4 : ∀ y : Gr wr, y.1.cell? ⟨gr, h * 5 + 4, none⟩ = some (.slice YD Ye Yf) := fun y => (HFX.out y).2 4 (by decide)
      have hsg9 : sg ≤ 200 := by omega
      clear i1 i2 i3 i4 i5 b1 b2 b3 b4 b5 b6 b7 b8 b9 b10 hst hsg he hf hpc hea hfc hV hU hVd hUd hlh hlp hgh hgp hvk huk hcc hXl hXd hYl hYd hXk hXn hXs hYk hYn hYs hh' hlt HVX HVY
      go_upto_region 35 with (fail)
      refine wp_region_hyb [(0, true), (1, true), (2, true), (3, true), (4, true), (5, true), (6, true), (7, true), (8, true), (9, true), (10, true), (11, false), (12, true), (13, true)] (by kernel_rfl) (by kernel_rfl) ?_
      iterate 11 (refine hyb_calm rfl (fun K hK => ?_); go_simp; refine hK _ ?_; clear hK K)
      clear Lx0 Lx1 Lx2 Lx3 Lx4 Ly0 Ly1 Ly2 Ly3 Ly4
      refine hyb_alone rfl (fun w2 hn2 K hK => ?_)
      go_simp
      refine (HCC.out w2).mono ?_; rintro e w3 ⟨rfl, hn3⟩
      refine hK _ _ hn3 ?_
      clear hK K
      by_cases hv : ky U < ky V
      · have hcz : cmpI (ky U) (ky V) = -1 := by unfold cmpI; rw [if_pos hv]
        rw [hcz]
        have HV := Lib.hid (HDN.out hv)
        clear hv hcz
        iterate 2 (refine hyb_calm rfl (fun K hK => ?_); go_simp; refine hK _ ?_; clear hK K)
        refine hyb_nil (fun w4 hn4 => ?_)
        have HX4 := Lib.hid (HX.out.trans (hn2.trans (hn3.trans hn4)))
        clear hn2 hn3 hn4
        go_wp2_with fail
        go_roundw
        case rel => first | exact ⟨s, h, rfl, by go_num, HV.out, HX4.out⟩ | ((repeat apply Exists.intro); exact ⟨⟨s, h, rfl, by go_num, HV.out, HX4.out⟩, rfl⟩)
        case measure => have := HME.out; simp [intOf]; omega
      · obtain ⟨CZ, hCZ⟩ : ∃ z, cmpI (ky U) (ky V) = z := ⟨_, rfl⟩
        have hcn : decide (CZ < 0) = false := by
          rw [← hCZ]; unfold cmpI; rw [if_neg hv]; split <;> rfl
        have hcn2 : ¬ CZ < 0 := of_decide_eq_false hcn
        rw [hCZ]
        have HV := Lib.hid (HUP.out hv)
        clear hv hCZ
        iterate 2 (refine hyb_calm rfl (fun K hK => ?_); go_simp; refine hK _ ?_; clear hK K)
        refine hyb_nil (fun w4 hn4 => ?_)
        have HX4 := Lib.hid (HX.out.trans (hn2.trans (hn3.trans hn4)))
        clear hn2 hn3 hn4
        go_wp2_with fail
        go_roundw
        case rel => first | exact ⟨h', r, by go_num, rfl, HV.out, HX4.out⟩ | ((repeat apply Exists.intro); exact ⟨⟨h', r, by go_num, rfl, HV.out, HX4.out⟩, rfl⟩)
        case measure => have := HME.out; simp [intOf]; omega
    · have q1 : decide ((s : Int) < (r : Int)) = false := decide_eq_false (by omega)
      have q2 : ¬ (s : Int) < (r : Int) := by omega
      obtain rfl : s = r := by omega
      obtain ⟨k1, k2⟩ := search_end b2 b3 b8 hst i1 i3 i4 i5
      obtain ⟨A1, hA1⟩ : ∃ l, A.take (s - a) = l := ⟨_, rfl⟩
      obtain ⟨A2, hA2⟩ : ∃ l, A.drop (s - a) = l := ⟨_, rfl⟩
      obtain ⟨C1, hC1⟩ : ∃ l, C.take (mid - s) = l := ⟨_, rfl⟩
      obtain ⟨C2, hC2⟩ : ∃ l, C.drop (mid - s) = l := ⟨_, rfl⟩
      have hAA : A1 ++ A2 = A := by rw [← hA1, ← hA2, List.take_append_drop]
      have hCC : C1 ++ C2 = C := by rw [← hC1, ← hC2, List.take_append_drop]
      have g1 : A1.length = s - a := by rw [← hA1, List.length_take]; omega
      have g2 : A2.length = m - s := by rw [← hA2, List.length_drop]; omega
      have g3 : C1.length = mid - s := by rw [← hC1, List.length_take]; omega
      have g4 : C2.length = b - m - (mid - s) := by rw [← hC2, List.length_drop]; omega
      rw [hA1, hC2] at k1
      rw [hC1, hA2] at k2
      obtain ⟨en, hen⟩ : ∃ x, nn - s = x := ⟨_, rfl⟩
      have e1 : (nn : Int) - (s : Int) = (en : Int) := by omega
      have e2 : IntKind.i64.wrap (en : Int) = (en : Int) := by rw [IntKind.wrap_i64]; omega
      have HK1 := Lib.hid k1
      have HK2 := Lib.hid k2
      have HF : Hid (A1 ++ A2 = A ∧ C1 ++ C2 = C ∧ a + A1.length = s ∧ s + A2.length = m ∧ m + C1.length = en ∧ en + C2.length = b ∧ s + C1.length = mid ∧ mid + A2.length = en ∧ a = P.length ∧ b ≤ n ∧ A.length + C.length ≤ N + 1 ∧ 1 < A.length ∧ 1 < C.length ∧ m = a + A.length ∧ b = m + C.length) := ⟨hAA, hCC, by omega, by omega, by omega, by omega, by omega, by omega, b1, b4, b7, b5, b6, b2, b3⟩
      have HB2 : Hid (Blk wr B gr (rowL valA (P ++ A1 ++ A2 ++ C1 ++ (C2 ++ Q))).toArray T) := by
        have h := HB.out.below HX.out
        rw [← hAA, ← hCC] at h
        unfold Hid; simpa using h
      have HOX : Hid (∀ x, x ∈ P ∨ x ∈ A1 ∨ x ∈ A2 ∨ x ∈ C1 ∨ x ∈ C2 ∨ x ∈ Q → OkS x) := fun x hx => HOK.out x (by
        rw [← hAA, ← hCC]; simp only [List.mem_append]
        rcases hx with h | h | h | h | h | h <;> simp [h])
      have HNN : Hid (P.length + A1.length + A2.length + C1.length + C2.length + Q.length = n) := by
        have h := HN.out
        rw [← hAA, ← hCC] at h
        simp only [List.length_append] at h
        unfold Hid; omega
      clear i1 i2 i3 i4 i5 b1 b2 b3 b4 b5 b6 b7 b8 b9 b10 hst hA1 hA2 hC1 hC2 hAA hCC g1 g2 g3 g4 k1 k2 hen HI HST hlt
      have HMM : Hid (a < mid ∧ mid < b) := by have := HH.out; unfold Hid; omega
      rcases Nat.eq_zero_or_pos A2.length with hx0 | hx2
      · have hx2 : A2 = [] := List.eq_nil_of_length_eq_zero hx0
        rcases Nat.eq_zero_or_pos C1.length with hy0 | hy1
        · have hy1 : C1 = [] := List.eq_nil_of_length_eq_zero hy0
          have q3 : decide ((s : Int) < (m : Int)) = false := decide_eq_false (by have := HF.out; have := HMM.out; omega)
          have q3n : decide (s < m) = false := decide_eq_false (by have := HF.out; have := HMM.out; omega)
          have q3p : ¬ (s : Int) < (m : Int) := (by have := HF.out; have := HMM.out; omega)
          have q3q : ¬ s < m := (by have := HF.out; have := HMM.out; omega)
          have HB3 : Hid (Blk wr B gr (rowL valA (P ++ A1 ++ C1 ++ (A2 ++ (C2 ++ Q)))).toArray T) := by have h := HB2.out; rw [hx2] at h; unfold Hid; rw [hx2]; simpa using h
          have HO3 := Lib.hid (Oth.nx (b := gr) HX.out)
          rcases Nat.eq_zero_or_pos A1.length with hx0 | hx1
          · exfalso; have h2 := congrArg List.length HF.out.1; rw [List.length_append, hx0, hx2] at h2; have := HF.out; simp only [List.length_nil] at h2; omega
          · skip
            have r1 : decide ((a : Int) < (s : Int)) = true := decide_eq_true (by have := HF.out; have := HMM.out; omega)
            have r1n : decide (a < s) = true := decide_eq_true (by have := HF.out; have := HMM.out; omega)
            have r1p : (a : Int) < (s : Int) := (by have := HF.out; have := HMM.out; omega)
            have r1q : a < s := (by have := HF.out; have := HMM.out; omega)
            have r2 : decide ((s : Int) < (mid : Int)) = false := decide_eq_false (by have := HF.out; have := HMM.out; omega)
            have r2n : decide (s < mid) = false := decide_eq_false (by have := HF.out; have := HMM.out; omega)
            have r2p : ¬ (s : Int) < (mid : Int) := (by have := HF.out; have := HMM.out; omega)
            have r2q : ¬ s < mid := (by have := HF.out; have := HMM.out; omega)
            obtain ⟨L, hL⟩ : ∃ L, A1 ++ C1 = L := ⟨_, rfl⟩
            have HSL : Hid (Sd L (A1 ++ C1)) := by
              have h1 := HA.out
              have h2 := HC.out
              rw [← HF.out.1] at h1
              rw [← HF.out.2.1] at h2
              have u1 : Up A1 := (List.pairwise_append.1 h1).1
              have u2 : Up C1 := (List.pairwise_append.1 h2).1
              refine ⟨by rw [hL], ?_⟩
              rw [← hL, hy1, List.append_nil]
              exact u1
            have HB4 : Hid (Blk wr B gr (rowL valA (P ++ L ++ (A2 ++ (C2 ++ Q)))).toArray T) := by have h := HB3.out; unfold Hid; rw [← hL]; simpa using h
            have HO4 := Lib.hid HO3.out
            clear hL
            have t1 : decide ((mid : Int) < (en : Int)) = false := decide_eq_false (by have := HF.out; have := HMM.out; omega)
            have t1n : decide (mid < en) = false := decide_eq_false (by have := HF.out; have := HMM.out; omega)
            have t1p : ¬ (mid : Int) < (en : Int) := (by have := HF.out; have := HMM.out; omega)
            have t1q : ¬ mid < en := (by have := HF.out; have := HMM.out; omega)
            obtain ⟨R, hR⟩ : ∃ R, A2 ++ C2 = R := ⟨_, rfl⟩
            have HSR : Hid (Sd R (A2 ++ C2)) := by
              have h1 := HA.out
              have h2 := HC.out
              rw [← HF.out.1] at h1
              rw [← HF.out.2.1] at h2
              have u1 : Up A2 := (List.pairwise_append.1 h1).2.1
              have u2 : Up C2 := (List.pairwise_append.1 h2).2.1
              refine ⟨by rw [hR], ?_⟩
              rw [← hR, hx2, List.nil_append]
              exact u2
            have HB5 : Hid (Blk wr B gr (rowL valA (P ++ L ++ R ++ Q)).toArray T) := by have h := HB4.out; unfold Hid; rw [← hR]; simpa using h
            have HO5 := Lib.hid HO4.out
            clear hR
            go_wp2_with fail
            have HS9 : Hid (Sd (L ++ R) (A ++ C)) := by
              have h := Up.sym (A1 := A1) (A2 := A2) (C1 := C1) (C2 := C2) (by rw [HF.out.1]; exact HA.out) (by rw [HF.out.2.1]; exact HC.out) HK1.out HK2.out HSL.out HSR.out
              rw [HF.out.1, HF.out.2.1] at h
              exact h
            have HB9 : Hid (Blk wr B gr (rowL valA (P ++ ((L ++ R) ++ Q))).toArray T) := by have h := HB5.out; unfold Hid; simpa using h
            have HO9 := Lib.hid HO5.out
            refine bodyPost_end (results_none rfl _ _ _) rfl ?_
            first | exact ⟨rfl, L ++ R, HS9.out, HB9.out, HO9.out⟩ | exact ⟨rfl, L ++ R, HS9.out, by have h := HB9.out; simpa using h, HO9.out⟩
        · skip
          have q3 : decide ((s : Int) < (m : Int)) = false := decide_eq_false (by have := HF.out; have := HMM.out; omega)
          have q3n : decide (s < m) = false := decide_eq_false (by have := HF.out; have := HMM.out; omega)
          have q3p : ¬ (s : Int) < (m : Int) := (by have := HF.out; have := HMM.out; omega)
          have q3q : ¬ s < m := (by have := HF.out; have := HMM.out; omega)
          have HB3 : Hid (Blk wr B gr (rowL valA (P ++ A1 ++ C1 ++ (A2 ++ (C2 ++ Q)))).toArray T) := by have h := HB2.out; rw [hx2] at h; unfold Hid; rw [hx2]; simpa using h
          have HO3 := Lib.hid (Oth.nx (b := gr) HX.out)
          rcases Nat.eq_zero_or_pos A1.length with hx0 | hx1
          · exfalso; have h2 := congrArg List.length HF.out.1; rw [List.length_append, hx0, hx2] at h2; have := HF.out; simp only [List.length_nil] at h2; omega
          · skip
            have r1 : decide ((a : Int) < (s : Int)) = true := decide_eq_true (by have := HF.out; have := HMM.out; omega)
            have r1n : decide (a < s) = true := decide_eq_true (by have := HF.out; have := HMM.out; omega)
            have r1p : (a : Int) < (s : Int) := (by have := HF.out; have := HMM.out; omega)
            have r1q : a < s := (by have := HF.out; have := HMM.out; omega)
            have r2 : decide ((s : Int) < (mid : Int)) = true := decide_eq_true (by have := HF.out; have := HMM.out; omega)
            have r2n : decide (s < mid) = true := decide_eq_true (by have := HF.out; have := HMM.out; omega)
            have r2p : (s : Int) < (mid : Int) := (by have := HF.out; have := HMM.out; omega)
            have r2q : s < mid := (by have := HF.out; have := HMM.out; omega)
            have hih := HIH.out wr B gr n c T P A1 C1 (A2 ++ (C2 ++ Q)) (by have := HNN.out; simp only [List.length_append]; omega) hn9 hx1 hy1 (by have := HF.out; have := HMM.out; have h1 := congrArg List.length HF.out.1; have h2 := congrArg List.length HF.out.2.1; rw [List.length_append] at h1 h2; omega) (by have h := HA.out; rw [← HF.out.1] at h; exact (List.pairwise_append.1 h).1) (by have h := HC.out; rw [← HF.out.2.1] at h; exact (List.pairwise_append.1 h).1)
              (by have h := HB3.out; simpa using h) (fun x hx => by
                simp only [List.mem_append] at hx
                rcases hx with ((h | h) | h) | h | h | h <;> exact HOX.out x (by simp [h])) a s mid (by have := HF.out; have := HMM.out; omega) (by have := HF.out; have := HMM.out; omega) (by have := HF.out; have := HMM.out; omega)
            have HI2 := Lib.hid hih
            clear hih
            go_upto_region 42 with (fail)
            go_wp2_with fail
            refine HI2.out.mono ?_; rintro e w7 ⟨rfl, L, hsl, hb7, ho7⟩
            have HSL := Lib.hid hsl
            have HB4 : Hid (Blk w7 B gr (rowL valA (P ++ L ++ (A2 ++ (C2 ++ Q)))).toArray T) := hb7
            have HO4 := Lib.hid (HO3.out.trans ho7)
            clear hsl hb7 ho7
            have t1 : decide ((mid : Int) < (en : Int)) = false := decide_eq_false (by have := HF.out; have := HMM.out; omega)
            have t1n : decide (mid < en) = false := decide_eq_false (by have := HF.out; have := HMM.out; omega)
            have t1p : ¬ (mid : Int) < (en : Int) := (by have := HF.out; have := HMM.out; omega)
            have t1q : ¬ mid < en := (by have := HF.out; have := HMM.out; omega)
            obtain ⟨R, hR⟩ : ∃ R, A2 ++ C2 = R := ⟨_, rfl⟩
            have HSR : Hid (Sd R (A2 ++ C2)) := by
              have h1 := HA.out
              have h2 := HC.out
              rw [← HF.out.1] at h1
              rw [← HF.out.2.1] at h2
              have u1 : Up A2 := (List.pairwise_append.1 h1).2.1
              have u2 : Up C2 := (List.pairwise_append.1 h2).2.1
              refine ⟨by rw [hR], ?_⟩
              rw [← hR, hx2, List.nil_append]
              exact u2
            have HB5 : Hid (Blk w7 B gr (rowL valA (P ++ L ++ R ++ Q)).toArray T) := by have h := HB4.out; unfold Hid; rw [← hR]; simpa using h
            have HO5 := Lib.hid HO4.out
            clear hR
            go_wp2_with fail
            have HS9 : Hid (Sd (L ++ R) (A ++ C)) := by
              have h := Up.sym (A1 := A1) (A2 := A2) (C1 := C1) (C2 := C2) (by rw [HF.out.1]; exact HA.out) (by rw [HF.out.2.1]; exact HC.out) HK1.out HK2.out HSL.out HSR.out
              rw [HF.out.1, HF.out.2.1] at h
              exact h
            have HB9 : Hid (Blk w7 B gr (rowL valA (P ++ ((L ++ R) ++ Q))).toArray T) := by have h := HB5.out; unfold Hid; simpa using h
            have HO9 := Lib.hid HO5.out
            refine bodyPost_end (results_none rfl _ _ _) rfl ?_
            first | exact ⟨rfl, L ++ R, HS9.out, HB9.out, HO9.out⟩ | exact ⟨rfl, L ++ R, HS9.out, by have h := HB9.out; simpa using h, HO9.out⟩
      · skip
        rcases Nat.eq_zero_or_pos C1.length with hy0 | hy1
        · have hy1 : C1 = [] := List.eq_nil_of_length_eq_zero hy0
          have q3 : decide ((s : Int) < (m : Int)) = true := decide_eq_true (by have := HF.out; have := HMM.out; omega)
          have q3n : decide (s < m) = true := decide_eq_true (by have := HF.out; have := HMM.out; omega)
          have q3p : (s : Int) < (m : Int) := (by have := HF.out; have := HMM.out; omega)
          have q3q : s < m := (by have := HF.out; have := HMM.out; omega)
          have q4 : decide ((m : Int) < (en : Int)) = false := decide_eq_false (by have := HF.out; have := HMM.out; omega)
          have q4n : decide (m < en) = false := decide_eq_false (by have := HF.out; have := HMM.out; omega)
          have q4p : ¬ (m : Int) < (en : Int) := (by have := HF.out; have := HMM.out; omega)
          have q4q : ¬ m < en := (by have := HF.out; have := HMM.out; omega)
          have HB3 : Hid (Blk wr B gr (rowL valA (P ++ A1 ++ C1 ++ (A2 ++ (C2 ++ Q)))).toArray T) := by have h := HB2.out; rw [hy1] at h; unfold Hid; rw [hy1]; simpa using h
          have HO3 := Lib.hid (Oth.nx (b := gr) HX.out)
          rcases Nat.eq_zero_or_pos A1.length with hx0 | hx1
          · have hx1 : A1 = [] := List.eq_nil_of_length_eq_zero hx0
            have r1 : decide ((a : Int) < (s : Int)) = false := decide_eq_false (by have := HF.out; have := HMM.out; omega)
            have r1n : decide (a < s) = false := decide_eq_false (by have := HF.out; have := HMM.out; omega)
            have r1p : ¬ (a : Int) < (s : Int) := (by have := HF.out; have := HMM.out; omega)
            have r1q : ¬ a < s := (by have := HF.out; have := HMM.out; omega)
            obtain ⟨L, hL⟩ : ∃ L, A1 ++ C1 = L := ⟨_, rfl⟩
            have HSL : Hid (Sd L (A1 ++ C1)) := by
              have h1 := HA.out
              have h2 := HC.out
              rw [← HF.out.1] at h1
              rw [← HF.out.2.1] at h2
              have u1 : Up A1 := (List.pairwise_append.1 h1).1
              have u2 : Up C1 := (List.pairwise_append.1 h2).1
              refine ⟨by rw [hL], ?_⟩
              rw [← hL, hx1, List.nil_append]
              exact u2
            have HB4 : Hid (Blk wr B gr (rowL valA (P ++ L ++ (A2 ++ (C2 ++ Q)))).toArray T) := by have h := HB3.out; unfold Hid; rw [← hL]; simpa using h
            have HO4 := Lib.hid HO3.out
            clear hL
            rcases Nat.eq_zero_or_pos C2.length with hy0 | hy2
            · exfalso; have h2 := congrArg List.length HF.out.2.1; rw [List.length_append, hy0, hy1] at h2; have := HF.out; simp only [List.length_nil] at h2; omega
            · skip
              have t1 : decide ((mid : Int) < (en : Int)) = true := decide_eq_true (by have := HF.out; have := HMM.out; omega)
              have t1n : decide (mid < en) = true := decide_eq_true (by have := HF.out; have := HMM.out; omega)
              have t1p : (mid : Int) < (en : Int) := (by have := HF.out; have := HMM.out; omega)
              have t1q : mid < en := (by have := HF.out; have := HMM.out; omega)
              have t2 : decide ((en : Int) < (b : Int)) = true := decide_eq_true (by have := HF.out; have := HMM.out; omega)
              have t2n : decide (en < b) = true := decide_eq_true (by have := HF.out; have := HMM.out; omega)
              have t2p : (en : Int) < (b : Int) := (by have := HF.out; have := HMM.out; omega)
              have t2q : en < b := (by have := HF.out; have := HMM.out; omega)
              have hls : L.length = A1.length + C1.length := by rw [HSL.out.1.length_eq, List.length_append]
              have hih := HIH.out wr B gr n c T (P ++ L) A2 C2 Q (by have := HNN.out; simp only [List.length_append]; omega) hn9 hx2 hy2 (by have := HF.out; have := HMM.out; have h1 := congrArg List.length HF.out.1; have h2 := congrArg List.length HF.out.2.1; rw [List.length_append] at h1 h2; omega) (by have h := HA.out; rw [← HF.out.1] at h; exact (List.pairwise_append.1 h).2.1) (by have h := HC.out; rw [← HF.out.2.1] at h; exact (List.pairwise_append.1 h).2.1)
                (by have h := HB4.out; simpa using h) (fun x hx => by
                  simp only [List.mem_append] at hx
                  rcases hx with ((h | h) | h) | h
                  · rcases h with h | h
                    · exact HOX.out x (by simp [h])
                    · have h2 := HSL.out.1.mem_iff.1 h
                      rcases List.mem_append.1 h2 with h3 | h3 <;> exact HOX.out x (by simp [h3])
                  · exact HOX.out x (by simp [h])
                  · exact HOX.out x (by simp [h])
                  · exact HOX.out x (by simp [h])) mid en b (by have := HF.out; have := HMM.out; rw [List.length_append]; omega) (by have := HF.out; have := HMM.out; omega) (by have := HF.out; have := HMM.out; omega)
              have HI3 := Lib.hid hih
              clear hih hls
              go_wp2_with fail
              refine HI3.out.mono ?_; rintro e w8 ⟨rfl, R, hsr, hb8, ho8⟩
              have HSR := Lib.hid hsr
              have HB5 : Hid (Blk w8 B gr (rowL valA (P ++ L ++ R ++ Q)).toArray T) := hb8
              have HO5 := Lib.hid (HO4.out.trans ho8)
              clear hsr hb8 ho8
              go_wp2_with fail
              have HS9 : Hid (Sd (L ++ R) (A ++ C)) := by
                have h := Up.sym (A1 := A1) (A2 := A2) (C1 := C1) (C2 := C2) (by rw [HF.out.1]; exact HA.out) (by rw [HF.out.2.1]; exact HC.out) HK1.out HK2.out HSL.out HSR.out
                rw [HF.out.1, HF.out.2.1] at h
                exact h
              have HB9 : Hid (Blk w8 B gr (rowL valA (P ++ ((L ++ R) ++ Q))).toArray T) := by have h := HB5.out; unfold Hid; simpa using h
              have HO9 := Lib.hid HO5.out
              refine bodyPost_end (results_none rfl _ _ _) rfl ?_
              first | exact ⟨rfl, L ++ R, HS9.out, HB9.out, HO9.out⟩ | exact ⟨rfl, L ++ R, HS9.out, by have h := HB9.out; simpa using h, HO9.out⟩
          · skip
            have r1 : decide ((a : Int) < (s : Int)) = true := decide_eq_true (by have := HF.out; have := HMM.out; omega)
            have r1n : decide (a < s) = true := decide_eq_true (by have := HF.out; have := HMM.out; omega)
            have r1p : (a : Int) < (s : Int) := (by have := HF.out; have := HMM.out; omega)
            have r1q : a < s := (by have := HF.out; have := HMM.out; omega)
            have r2 : decide ((s : Int) < (mid : Int)) = false := decide_eq_false (by have := HF.out; have := HMM.out; omega)
            have r2n : decide (s < mid) = false := decide_eq_false (by have := HF.out; have := HMM.out; omega)
            have r2p : ¬ (s : Int) < (mid : Int) := (by have := HF.out; have := HMM.out; omega)
            have r2q : ¬ s < mid := (by have := HF.out; have := HMM.out; omega)
            obtain ⟨L, hL⟩ : ∃ L, A1 ++ C1 = L := ⟨_, rfl⟩
            have HSL : Hid (Sd L (A1 ++ C1)) := by
              have h1 := HA.out
              have h2 := HC.out
              rw [← HF.out.1] at h1
              rw [← HF.out.2.1] at h2
              have u1 : Up A1 := (List.pairwise_append.1 h1).1
              have u2 : Up C1 := (List.pairwise_append.1 h2).1
              refine ⟨by rw [hL], ?_⟩
              rw [← hL, hy1, List.append_nil]
              exact u1
            have HB4 : Hid (Blk wr B gr (rowL valA (P ++ L ++ (A2 ++ (C2 ++ Q)))).toArray T) := by have h := HB3.out; unfold Hid; rw [← hL]; simpa using h
            have HO4 := Lib.hid HO3.out
            clear hL
            rcases Nat.eq_zero_or_pos C2.length with hy0 | hy2
            · exfalso; have h2 := congrArg List.length HF.out.2.1; rw [List.length_append, hy0, hy1] at h2; have := HF.out; simp only [List.length_nil] at h2; omega
            · skip
              have t1 : decide ((mid : Int) < (en : Int)) = true := decide_eq_true (by have := HF.out; have := HMM.out; omega)
              have t1n : decide (mid < en) = true := decide_eq_true (by have := HF.out; have := HMM.out; omega)
              have t1p : (mid : Int) < (en : Int) := (by have := HF.out; have := HMM.out; omega)
              have t1q : mid < en := (by have := HF.out; have := HMM.out; omega)
              have t2 : decide ((en : Int) < (b : Int)) = true := decide_eq_true (by have := HF.out; have := HMM.out; omega)
              have t2n : decide (en < b) = true := decide_eq_true (by have := HF.out; have := HMM.out; omega)
              have t2p : (en : Int) < (b : Int) := (by have := HF.out; have := HMM.out; omega)
              have t2q : en < b := (by have := HF.out; have := HMM.out; omega)
              have hls : L.length = A1.length + C1.length := by rw [HSL.out.1.length_eq, List.length_append]
              have hih := HIH.out wr B gr n c T (P ++ L) A2 C2 Q (by have := HNN.out; simp only [List.length_append]; omega) hn9 hx2 hy2 (by have := HF.out; have := HMM.out; have h1 := congrArg List.length HF.out.1; have h2 := congrArg List.length HF.out.2.1; rw [List.length_append] at h1 h2; omega) (by have h := HA.out; rw [← HF.out.1] at h; exact (List.pairwise_append.1 h).2.1) (by have h := HC.out; rw [← HF.out.2.1] at h; exact (List.pairwise_append.1 h).2.1)
                (by have h := HB4.out; simpa using h) (fun x hx => by
                  simp only [List.mem_append] at hx
                  rcases hx with ((h | h) | h) | h
                  · rcases h with h | h
                    · exact HOX.out x (by simp [h])
                    · have h2 := HSL.out.1.mem_iff.1 h
                      rcases List.mem_append.1 h2 with h3 | h3 <;> exact HOX.out x (by simp [h3])
                  · exact HOX.out x (by simp [h])
                  · exact HOX.out x (by simp [h])
                  · exact HOX.out x (by simp [h])) mid en b (by have := HF.out; have := HMM.out; rw [List.length_append]; omega) (by have := HF.out; have := HMM.out; omega) (by have := HF.out; have := HMM.out; omega)
              have HI3 := Lib.hid hih
              clear hih hls
              go_wp2_with fail
              refine HI3.out.mono ?_; rintro e w8 ⟨rfl, R, hsr, hb8, ho8⟩
              have HSR := Lib.hid hsr
              have HB5 : Hid (Blk w8 B gr (rowL valA (P ++ L ++ R ++ Q)).toArray T) := hb8
              have HO5 := Lib.hid (HO4.out.trans ho8)
              clear hsr hb8 ho8
              go_wp2_with fail
              have HS9 : Hid (Sd (L ++ R) (A ++ C)) := by
                have h := Up.sym (A1 := A1) (A2 := A2) (C1 := C1) (C2 := C2) (by rw [HF.out.1]; exact HA.out) (by rw [HF.out.2.1]; exact HC.out) HK1.out HK2.out HSL.out HSR.out
                rw [HF.out.1, HF.out.2.1] at h
                exact h
              have HB9 : Hid (Blk w8 B gr (rowL valA (P ++ ((L ++ R) ++ Q))).toArray T) := by have h := HB5.out; unfold Hid; simpa using h
              have HO9 := Lib.hid HO5.out
              refine bodyPost_end (results_none rfl _ _ _) rfl ?_
              first | exact ⟨rfl, L ++ R, HS9.out, HB9.out, HO9.out⟩ | exact ⟨rfl, L ++ R, HS9.out, by have h := HB9.out; simpa using h, HO9.out⟩
        · skip
          have q3 : decide ((s : Int) < (m : Int)) = true := decide_eq_true (by have := HF.out; have := HMM.out; omega)
          have q3n : decide (s < m) = true := decide_eq_true (by have := HF.out; have := HMM.out; omega)
          have q3p : (s : Int) < (m : Int) := (by have := HF.out; have := HMM.out; omega)
          have q3q : s < m := (by have := HF.out; have := HMM.out; omega)
          have q4 : decide ((m : Int) < (en : Int)) = true := decide_eq_true (by have := HF.out; have := HMM.out; omega)
          have q4n : decide (m < en) = true := decide_eq_true (by have := HF.out; have := HMM.out; omega)
          have q4p : (m : Int) < (en : Int) := (by have := HF.out; have := HMM.out; omega)
          have q4q : m < en := (by have := HF.out; have := HMM.out; omega)
          have HRO := Lib.hid (rotv_any wr B gr n c T (P ++ A1) A2 C1 (C2 ++ Q) (by have := HNN.out; simp only [List.length_append]; omega) hn9 hx2 hy1 HB2.out (fun x hx => by
              simp only [List.mem_append] at hx
              rcases hx with (((h | h) | h) | h) | h | h <;> exact HOX.out x (by simp [h])) s m en (by have := HF.out; have := HMM.out; rw [List.length_append]; omega) (by have := HF.out; have := HMM.out; omega) (by have := HF.out; have := HMM.out; omega) (.func (.func 8) #[] #[]))
          go_upto_region 40 with (fail)
          go_wp2_with fail
          refine HRO.out.mono ?_; rintro e w6 ⟨rfl, hb6, ho6⟩
          have HB3 : Hid (Blk w6 B gr (rowL valA (P ++ A1 ++ C1 ++ (A2 ++ (C2 ++ Q)))).toArray T) := by unfold Hid; simpa using hb6
          have HO3 := Lib.hid ((Oth.nx (b := gr) HX.out).trans ho6)
          clear hb6 ho6
          rcases Nat.eq_zero_or_pos A1.length with hx0 | hx1
          · have hx1 : A1 = [] := List.eq_nil_of_length_eq_zero hx0
            have r1 : decide ((a : Int) < (s : Int)) = false := decide_eq_false (by have := HF.out; have := HMM.out; omega)
            have r1n : decide (a < s) = false := decide_eq_false (by have := HF.out; have := HMM.out; omega)
            have r1p : ¬ (a : Int) < (s : Int) := (by have := HF.out; have := HMM.out; omega)
            have r1q : ¬ a < s := (by have := HF.out; have := HMM.out; omega)
            obtain ⟨L, hL⟩ : ∃ L, A1 ++ C1 = L := ⟨_, rfl⟩
            have HSL : Hid (Sd L (A1 ++ C1)) := by
              have h1 := HA.out
              have h2 := HC.out
              rw [← HF.out.1] at h1
              rw [← HF.out.2.1] at h2
              have u1 : Up A1 := (List.pairwise_append.1 h1).1
              have u2 : Up C1 := (List.pairwise_append.1 h2).1
              refine ⟨by rw [hL], ?_⟩
              rw [← hL, hx1, List.nil_append]
              exact u2
            have HB4 : Hid (Blk w6 B gr (rowL valA (P ++ L ++ (A2 ++ (C2 ++ Q)))).toArray T) := by have h := HB3.out; unfold Hid; rw [← hL]; simpa using h
            have HO4 := Lib.hid HO3.out
            clear hL
            rcases Nat.eq_zero_or_pos C2.length with hy0 | hy2
            · have hy2 : C2 = [] := List.eq_nil_of_length_eq_zero hy0
              have t1 : decide ((mid : Int) < (en : Int)) = true := decide_eq_true (by have := HF.out; have := HMM.out; omega)
              have t1n : decide (mid < en) = true := decide_eq_true (by have := HF.out; have := HMM.out; omega)
              have t1p : (mid : Int) < (en : Int) := (by have := HF.out; have := HMM.out; omega)
              have t1q : mid < en := (by have := HF.out; have := HMM.out; omega)
              have t2 : decide ((en : Int) < (b : Int)) = false := decide_eq_false (by have := HF.out; have := HMM.out; omega)
              have t2n : decide (en < b) = false := decide_eq_false (by have := HF.out; have := HMM.out; omega)
              have t2p : ¬ (en : Int) < (b : Int) := (by have := HF.out; have := HMM.out; omega)
              have t2q : ¬ en < b := (by have := HF.out; have := HMM.out; omega)
              obtain ⟨R, hR⟩ : ∃ R, A2 ++ C2 = R := ⟨_, rfl⟩
              have HSR : Hid (Sd R (A2 ++ C2)) := by
                have h1 := HA.out
                have h2 := HC.out
                rw [← HF.out.1] at h1
                rw [← HF.out.2.1] at h2
                have u1 : Up A2 := (List.pairwise_append.1 h1).2.1
                have u2 : Up C2 := (List.pairwise_append.1 h2).2.1
                refine ⟨by rw [hR], ?_⟩
                rw [← hR, hy2, List.append_nil]
                exact u1
              have HB5 : Hid (Blk w6 B gr (rowL valA (P ++ L ++ R ++ Q)).toArray T) := by have h := HB4.out; unfold Hid; rw [← hR]; simpa using h
              have HO5 := Lib.hid HO4.out
              clear hR
              go_wp2_with fail
              have HS9 : Hid (Sd (L ++ R) (A ++ C)) := by
                have h := Up.sym (A1 := A1) (A2 := A2) (C1 := C1) (C2 := C2) (by rw [HF.out.1]; exact HA.out) (by rw [HF.out.2.1]; exact HC.out) HK1.out HK2.out HSL.out HSR.out
                rw [HF.out.1, HF.out.2.1] at h
                exact h
              have HB9 : Hid (Blk w6 B gr (rowL valA (P ++ ((L ++ R) ++ Q))).toArray T) := by have h := HB5.out; unfold Hid; simpa using h
              have HO9 := Lib.hid HO5.out
              refine bodyPost_end (results_none rfl _ _ _) rfl ?_
              first | exact ⟨rfl, L ++ R, HS9.out, HB9.out, HO9.out⟩ | exact ⟨rfl, L ++ R, HS9.out, by have h := HB9.out; simpa using h, HO9.out⟩
            · skip
              have t1 : decide ((mid : Int) < (en : Int)) = true := decide_eq_true (by have := HF.out; have := HMM.out; omega)
              have t1n : decide (mid < en) = true := decide_eq_true (by have := HF.out; have := HMM.out; omega)
              have t1p : (mid : Int) < (en : Int) := (by have := HF.out; have := HMM.out; omega)
              have t1q : mid < en := (by have := HF.out; have := HMM.out; omega)
              have t2 : decide ((en : Int) < (b : Int)) = true := decide_eq_true (by have := HF.out; have := HMM.out; omega)
              have t2n : decide (en < b) = true := decide_eq_true (by have := HF.out; have := HMM.out; omega)
              have t2p : (en : Int) < (b : Int) := (by have := HF.out; have := HMM.out; omega)
              have t2q : en < b := (by have := HF.out; have := HMM.out; omega)
              have hls : L.length = A1.length + C1.length := by rw [HSL.out.1.length_eq, List.length_append]
              have hih := HIH.out w6 B gr n c T (P ++ L) A2 C2 Q (by have := HNN.out; simp only [List.length_append]; omega) hn9 hx2 hy2 (by have := HF.out; have := HMM.out; have h1 := congrArg List.length HF.out.1; have h2 := congrArg List.length HF.out.2.1; rw [List.length_append] at h1 h2; omega) (by have h := HA.out; rw [← HF.out.1] at h; exact (List.pairwise_append.1 h).2.1) (by have h := HC.out; rw [← HF.out.2.1] at h; exact (List.pairwise_append.1 h).2.1)
                (by have h := HB4.out; simpa using h) (fun x hx => by
                  simp only [List.mem_append] at hx
                  rcases hx with ((h | h) | h) | h
                  · rcases h with h | h
                    · exact HOX.out x (by simp [h])
                    · have h2 := HSL.out.1.mem_iff.1 h
                      rcases List.mem_append.1 h2 with h3 | h3 <;> exact HOX.out x (by simp [h3])
                  · exact HOX.out x (by simp [h])
                  · exact HOX.out x (by simp [h])
                  · exact HOX.out x (by simp [h])) mid en b (by have := HF.out; have := HMM.out; rw [List.length_append]; omega) (by have := HF.out; have := HMM.out; omega) (by have := HF.out; have := HMM.out; omega)
              have HI3 := Lib.hid hih
              clear hih hls
              go_wp2_with fail
              refine HI3.out.mono ?_; rintro e w8 ⟨rfl, R, hsr, hb8, ho8⟩
              have HSR := Lib.hid hsr
              have HB5 : Hid (Blk w8 B gr (rowL valA (P ++ L ++ R ++ Q)).toArray T) := hb8
              have HO5 := Lib.hid (HO4.out.trans ho8)
              clear hsr hb8 ho8
              go_wp2_with fail
              have HS9 : Hid (Sd (L ++ R) (A ++ C)) := by
                have h := Up.sym (A1 := A1) (A2 := A2) (C1 := C1) (C2 := C2) (by rw [HF.out.1]; exact HA.out) (by rw [HF.out.2.1]; exact HC.out) HK1.out HK2.out HSL.out HSR.out
                rw [HF.out.1, HF.out.2.1] at h
                exact h
              have HB9 : Hid (Blk w8 B gr (rowL valA (P ++ ((L ++ R) ++ Q))).toArray T) := by have h := HB5.out; unfold Hid; simpa using h
              have HO9 := Lib.hid HO5.out
              refine bodyPost_end (results_none rfl _ _ _) rfl ?_
              first | exact ⟨rfl, L ++ R, HS9.out, HB9.out, HO9.out⟩ | exact ⟨rfl, L ++ R, HS9.out, by have h := HB9.out; simpa using h, HO9.out⟩
          · skip
            have r1 : decide ((a : Int) < (s : Int)) = true := decide_eq_true (by have := HF.out; have := HMM.out; omega)
            have r1n : decide (a < s) = true := decide_eq_true (by have := HF.out; have := HMM.out; omega)
            have r1p : (a : Int) < (s : Int) := (by have := HF.out; have := HMM.out; omega)
            have r1q : a < s := (by have := HF.out; have := HMM.out; omega)
            have r2 : decide ((s : Int) < (mid : Int)) = true := decide_eq_true (by have := HF.out; have := HMM.out; omega)
            have r2n : decide (s < mid) = true := decide_eq_true (by have := HF.out; have := HMM.out; omega)
            have r2p : (s : Int) < (mid : Int) := (by have := HF.out; have := HMM.out; omega)
            have r2q : s < mid := (by have := HF.out; have := HMM.out; omega)
            have hih := HIH.out w6 B gr n c T P A1 C1 (A2 ++ (C2 ++ Q)) (by have := HNN.out; simp only [List.length_append]; omega) hn9 hx1 hy1 (by have := HF.out; have := HMM.out; have h1 := congrArg List.length HF.out.1; have h2 := congrArg List.length HF.out.2.1; rw [List.length_append] at h1 h2; omega) (by have h := HA.out; rw [← HF.out.1] at h; exact (List.pairwise_append.1 h).1) (by have h := HC.out; rw [← HF.out.2.1] at h; exact (List.pairwise_append.1 h).1)
              (by have h := HB3.out; simpa using h) (fun x hx => by
                simp only [List.mem_append] at hx
                rcases hx with ((h | h) | h) | h | h | h <;> exact HOX.out x (by simp [h])) a s mid (by have := HF.out; have := HMM.out; omega) (by have := HF.out; have := HMM.out; omega) (by have := HF.out; have := HMM.out; omega)
            have HI2 := Lib.hid hih
            clear hih
            go_upto_region 42 with (fail)
            go_wp2_with fail
            refine HI2.out.mono ?_; rintro e w7 ⟨rfl, L, hsl, hb7, ho7⟩
            have HSL := Lib.hid hsl
            have HB4 : Hid (Blk w7 B gr (rowL valA (P ++ L ++ (A2 ++ (C2 ++ Q)))).toArray T) := hb7
            have HO4 := Lib.hid (HO3.out.trans ho7)
            clear hsl hb7 ho7
            rcases Nat.eq_zero_or_pos C2.length with hy0 | hy2
            · have hy2 : C2 = [] := List.eq_nil_of_length_eq_zero hy0
              have t1 : decide ((mid : Int) < (en : Int)) = true := decide_eq_true (by have := HF.out; have := HMM.out; omega)
              have t1n : decide (mid < en) = true := decide_eq_true (by have := HF.out; have := HMM.out; omega)
              have t1p : (mid : Int) < (en : Int) := (by have := HF.out; have := HMM.out; omega)
              have t1q : mid < en := (by have := HF.out; have := HMM.out; omega)
              have t2 : decide ((en : Int) < (b : Int)) = false := decide_eq_false (by have := HF.out; have := HMM.out; omega)
              have t2n : decide (en < b) = false := decide_eq_false (by have := HF.out; have := HMM.out; omega)
              have t2p : ¬ (en : Int) < (b : Int) := (by have := HF.out; have := HMM.out; omega)
              have t2q : ¬ en < b := (by have := HF.out; have := HMM.out; omega)
              obtain ⟨R, hR⟩ : ∃ R, A2 ++ C2 = R := ⟨_, rfl⟩
              have HSR : Hid (Sd R (A2 ++ C2)) := by
                have h1 := HA.out
                have h2 := HC.out
                rw [← HF.out.1] at h1
                rw [← HF.out.2.1] at h2
                have u1 : Up A2 := (List.pairwise_append.1 h1).2.1
                have u2 : Up C2 := (List.pairwise_append.1 h2).2.1
                refine ⟨by rw [hR], ?_⟩
                rw [← hR, hy2, List.append_nil]
                exact u1
              have HB5 : Hid (Blk w7 B gr (rowL valA (P ++ L ++ R ++ Q)).toArray T) := by have h := HB4.out; unfold Hid; rw [← hR]; simpa using h
              have HO5 := Lib.hid HO4.out
              clear hR
              go_wp2_with fail
              have HS9 : Hid (Sd (L ++ R) (A ++ C)) := by
                have h := Up.sym (A1 := A1) (A2 := A2) (C1 := C1) (C2 := C2) (by rw [HF.out.1]; exact HA.out) (by rw [HF.out.2.1]; exact HC.out) HK1.out HK2.out HSL.out HSR.out
                rw [HF.out.1, HF.out.2.1] at h
                exact h
              have HB9 : Hid (Blk w7 B gr (rowL valA (P ++ ((L ++ R) ++ Q))).toArray T) := by have h := HB5.out; unfold Hid; simpa using h
              have HO9 := Lib.hid HO5.out
              refine bodyPost_end (results_none rfl _ _ _) rfl ?_
              first | exact ⟨rfl, L ++ R, HS9.out, HB9.out, HO9.out⟩ | exact ⟨rfl, L ++ R, HS9.out, by have h := HB9.out; simpa using h, HO9.out⟩
            · skip
              have t1 : decide ((mid : Int) < (en : Int)) = true := decide_eq_true (by have := HF.out; have := HMM.out; omega)
              have t1n : decide (mid < en) = true := decide_eq_true (by have := HF.out; have := HMM.out; omega)
              have t1p : (mid : Int) < (en : Int) := (by have := HF.out; have := HMM.out; omega)
              have t1q : mid < en := (by have := HF.out; have := HMM.out; omega)
              have t2 : decide ((en : Int) < (b : Int)) = true := decide_eq_true (by have := HF.out; have := HMM.out; omega)
              have t2n : decide (en < b) = true := decide_eq_true (by have := HF.out; have := HMM.out; omega)
              have t2p : (en : Int) < (b : Int) := (by have := HF.out; have := HMM.out; omega)
              have t2q : en < b := (by have := HF.out; have := HMM.out; omega)
              have hls : L.length = A1.length + C1.length := by rw [HSL.out.1.length_eq, List.length_append]
              have hih := HIH.out w7 B gr n c T (P ++ L) A2 C2 Q (by have := HNN.out; simp only [List.length_append]; omega) hn9 hx2 hy2 (by have := HF.out; have := HMM.out; have h1 := congrArg List.length HF.out.1; have h2 := congrArg List.length HF.out.2.1; rw [List.length_append] at h1 h2; omega) (by have h := HA.out; rw [← HF.out.1] at h; exact (List.pairwise_append.1 h).2.1) (by have h := HC.out; rw [← HF.out.2.1] at h; exact (List.pairwise_append.1 h).2.1)
                (by have h := HB4.out; simpa using h) (fun x hx => by
                  simp only [List.mem_append] at hx
                  rcases hx with ((h | h) | h) | h
                  · rcases h with h | h
                    · exact HOX.out x (by simp [h])
                    · have h2 := HSL.out.1.mem_iff.1 h
                      rcases List.mem_append.1 h2 with h3 | h3 <;> exact HOX.out x (by simp [h3])
                  · exact HOX.out x (by simp [h])
                  · exact HOX.out x (by simp [h])
                  · exact HOX.out x (by simp [h])) mid en b (by have := HF.out; have := HMM.out; rw [List.length_append]; omega) (by have := HF.out; have := HMM.out; omega) (by have := HF.out; have := HMM.out; omega)
              have HI3 := Lib.hid hih
              clear hih hls
              go_wp2_with fail
              refine HI3.out.mono ?_; rintro e w8 ⟨rfl, R, hsr, hb8, ho8⟩
              have HSR := Lib.hid hsr
              have HB5 : Hid (Blk w8 B gr (rowL valA (P ++ L ++ R ++ Q)).toArray T) := hb8
              have HO5 := Lib.hid (HO4.out.trans ho8)
              clear hsr hb8 ho8
              go_wp2_with fail
              have HS9 : Hid (Sd (L ++ R) (A ++ C)) := by
                have h := Up.sym (A1 := A1) (A2 := A2) (C1 := C1) (C2 := C2) (by rw [HF.out.1]; exact HA.out) (by rw [HF.out.2.1]; exact HC.out) HK1.out HK2.out HSL.out HSR.out
                rw [HF.out.1, HF.out.2.1] at h
                exact h
              have HB9 : Hid (Blk w8 B gr (rowL valA (P ++ ((L ++ R) ++ Q))).toArray T) := by have h := HB5.out; unfold Hid; simpa using h
              have HO9 := Lib.hid HO5.out
              refine bodyPost_end (results_none rfl _ _ _) rfl ?_
              first | exact ⟨rfl, L ++ R, HS9.out, HB9.out, HO9.out⟩ | exact ⟨rfl, L ++ R, HS9.out, by have h := HB9.out; simpa using h, HO9.out⟩
theorem sym_zero : SymC 0 := by
  intro w B gr n c T P A C Q hn hn9 h1 h2 h3
  omega
theorem sym_any : ∀ N, SymC N
  | 0 => sym_zero
  | N + 1 => by
    intro w B gr n c T P A C Q hn hn9 hA0 hC0 hN hA hC hB hok a m b ha hm hb
    by_cases h1 : A.length = 1
    · obtain ⟨x, rfl⟩ := List.length_eq_one_iff.1 h1
      exact sym_one w B gr n c T P C Q x hn hn9 hC0 hC hB hok a m b ha (by rw [hm]; rfl) hb
    · by_cases h2 : C.length = 1
      · obtain ⟨x, rfl⟩ := List.length_eq_one_iff.1 h2
        exact sym_two w B gr n c T P A Q x hn hn9 (by omega) hA hB hok a m b ha hm (by rw [hb]; rfl)
      · exact sym_gen N (sym_any N) w B gr n c T P A C Q hn hn9 (by omega) (by omega) hN hA hC hB hok a m b ha hm hb
end Go.Proofs.Ytjeadmndnbggmaa
