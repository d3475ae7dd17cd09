/- Two ranges of a row of numbers, as values, change places. -/
import Derived.Test.YtjeadmndnbggmaaOrI
set_option linter.unusedVariables false
set_option linter.unusedSimpArgs false
namespace Go.Proofs.Ytjeadmndnbggmaa
open Go.RowKit

def swR (xs : List ValS) (a b : Nat) : Nat → List ValS
  | 0 => xs
  | i + 1 => ((swR xs a b i).set (a + i) ((swR xs a b i).getD (b + i) zeroS)).set (b + i) ((swR xs a b i).getD (a + i) zeroS)
theorem swR_len (xs : List ValS) (a b : Nat) : ∀ i, (swR xs a b i).length = xs.length
  | 0 => rfl
  | i + 1 => by unfold swR; rw [List.length_set, List.length_set, swR_len xs a b i]
theorem swR_ok {xs : List ValS} {P : ValS → Prop} (h : ∀ x ∈ xs, P x) (a b : Nat) : ∀ i, a + i ≤ xs.length → b + i ≤ xs.length → ∀ x ∈ swR xs a b i, P x
  | 0, _, _ => h
  | i + 1, h1, h2 => by
    have ih := swR_ok h a b i (by omega) (by omega)
    have hl := swR_len xs a b i
    intro x hx
    unfold swR at hx
    have g : ∀ j, j < xs.length → P ((swR xs a b i).getD j zeroS) := fun j hj => by
      have : j < (swR xs a b i).length := by omega
      simp only [List.getD, List.getElem?_eq_getElem this, Option.getD_some]
      exact ih _ (List.getElem_mem _)
    rcases List.mem_or_eq_of_mem_set hx with hx | rfl
    · rcases List.mem_or_eq_of_mem_set hx with hx | rfl
      · exact ih x hx
      · exact g _ (by omega)
    · exact g _ (by omega)
set_option maxRecDepth 100000 in
set_option maxHeartbeats 6400000 in
theorem swv_any (w : World) (B gr n c : Nat) (T : TypeId) (xs : List ValS) (hn : xs.length = n) (hn9 : n ≤ 100)
    (hB : Blk w B gr (rowL valA xs).toArray T) (hok : ∀ x ∈ xs, OkS x) (a b k : Nat) (hab : a + k ≤ b) (hbk : b + k ≤ n) (fv : Value) :
    Calls Try.prog 41 #[.slice (some ⟨gr, 0, none⟩) n c, .int .i64 (a : Int), .int .i64 (b : Int), .int .i64 (k : Int), fv] w fun e w' => e = .returned (.tuple #[]) ∧ Blk w' B gr (rowL valA (swR xs a b k)).toArray T ∧ Oth gr w w' := by
  have HB := Lib.hid hB
  have HOK := Lib.hid hok
  have HN := Lib.hid hn
  clear hB hok hn
  go_enter Try.func41, Try.ntmps41
  go_wp2_with fail
  go_loopw [10] (fun x wr => ∃ (i : Nat), x = .int .i64 (i : Int) ∧ i ≤ k ∧ Hid (Blk wr B gr (rowL valA (swR xs a b i)).toArray T) ∧ Hid (Oth gr w wr)) (fun x _ => (k - intOf x).toNat)
  case atStart => exact ⟨0, rfl, Nat.zero_le _, HB.out, Oth.refl _ _⟩
  case round =>
    obtain ⟨i, rfl, hi, HK, HT⟩ := hrel
    by_cases hlt : i < k
    · have q1 : decide ((i : Int) < (k : Int)) = true := decide_eq_true (by omega)
      have q2 : (i : Int) < (k : Int) := by omega
      have HLT := Lib.hid hlt
      obtain ⟨p, hp⟩ : ∃ p : Nat, a + i = p := ⟨_, rfl⟩
      obtain ⟨q, hq⟩ : ∃ q : Nat, b + i = q := ⟨_, rfl⟩
      have hpi : (a : Int) + (i : Int) = (p : Int) := by omega
      have hqi : (b : Int) + (i : Int) = (q : Int) := by omega
      have hpw : IntKind.i64.wrap (p : Int) = (p : Int) := by rw [IntKind.wrap_i64]; omega
      have hqw : IntKind.i64.wrap (q : Int) = (q : Int) := by rw [IntKind.wrap_i64]; omega
      have hpq : p < q := by omega
      have hpn : ¬ p = q := by omega
      have hqn : ¬ q = p := by omega
      have p1 : (p : Int) < (n : Int) := by omega
      have p0 : (0 : Int) ≤ (p : Int) := by omega
      have q1' : (q : Int) < (n : Int) := by omega
      have q0' : (0 : Int) ≤ (q : Int) := by omega
      have hl : (swR xs a b i).length = n := by rw [swR_len, HN.out]
      have hpl : p < (swR xs a b i).length := by omega
      have hql : q < (swR xs a b i).length := by omega
      obtain ⟨X, hX⟩ : ∃ X, (swR xs a b i)[p] = X := ⟨_, rfl⟩
      obtain ⟨Y, hY⟩ : ∃ Y, (swR xs a b i)[q] = Y := ⟨_, rfl⟩
      have hall := swR_ok (P := OkS) HOK.out a b i (by rw [HN.out]; omega) (by rw [HN.out]; omega)
      have hxk : OkS X := hX ▸ hall _ (List.getElem_mem _)
      have hyk : OkS Y := hY ▸ hall _ (List.getElem_mem _)
      have HSW : Hid (swR xs a b (i + 1) = ((swR xs a b i).set p Y).set q X) := by
        unfold Hid
        rw [← hX, ← hY]
        show ((swR xs a b i).set (a + i) ((swR xs a b i).getD (b + i) zeroS)).set (b + i) ((swR xs a b i).getD (a + i) zeroS) = _
        rw [hp, hq]
        simp only [List.getD, List.getElem?_eq_getElem hpl, List.getElem?_eq_getElem hql, Option.getD_some]
      obtain ⟨⟨XA, Xu, Xc, hXl⟩, ⟨XD, Xe, Xf, hXd⟩⟩ := hxk.slv
      obtain ⟨⟨YA, Yu, Yc, hYl⟩, ⟨YD, Ye, Yf, hYd⟩⟩ := hyk.slv
      have HVX : Hid (valA X = #[.int .i64 (X.k : Int), .int .i64 X.n, .string ⟨X.s.toArray⟩, .slice XA Xu Xc, .slice XD Xe Xf]) := by unfold Hid valA; rw [hXl, hXd]
      have HVY : Hid (valA Y = #[.int .i64 (Y.k : Int), .int .i64 Y.n, .string ⟨Y.s.toArray⟩, .slice YA Yu Yc, .slice YD Ye Yf]) := by unfold Hid valA; rw [hYl, hYd]
      have fx : ∀ j, j < 5 → wr.cell? ⟨gr, p * 5 + j, none⟩ = (valA X)[j]? := fun j hj => by rw [HK.out.rcell hpl hj, hX]
      have fy : ∀ j, j < 5 → wr.cell? ⟨gr, q * 5 + j, none⟩ = (valA Y)[j]? := fun j hj => by rw [HK.out.rcell hql hj, hY]
      have hk5 := (HK.out.row hpl Y).row (i := q) (by rw [List.length_set]; exact hql) X
      rw [← HSW.out] at hk5
      rw [HVX.out, HVY.out] at hk5
      rw [HVX.out] at fx
      rw [HVY.out] at fy
      obtain ⟨Xk, hXk⟩ : ∃ k, (X.k : Int) = k := ⟨_, rfl⟩
      obtain ⟨Xn, hXn⟩ : ∃ k, X.n = k := ⟨_, rfl⟩
      obtain ⟨Xs, hXs⟩ : ∃ s, ByteArray.mk X.s.toArray = s := ⟨_, rfl⟩
      obtain ⟨Yk, hYk⟩ : ∃ k, (Y.k : Int) = k := ⟨_, rfl⟩
      obtain ⟨Yn, hYn⟩ : ∃ k, Y.n = k := ⟨_, rfl⟩
      obtain ⟨Ys, hYs⟩ : ∃ s, ByteArray.mk Y.s.toArray = s := ⟨_, rfl⟩
      rw [hXk, hXn, hXs] at fx hk5
      rw [hYk, hYn, hYs] at fy hk5
      have ho5 : Oth gr w (wputs (wputs wr gr (p * 5) [.int .i64 Yk, .int .i64 Yn, .string Ys, .slice YA Yu Yc, .slice YD Ye Yf]) gr (q * 5) [.int .i64 Xk, .int .i64 Xn, .string Xs, .slice XA Xu Xc, .slice XD Xe Xf]) := Oth.owns _ _ (Oth.owns _ _ HT.out)
      have hk6 : Blk (wputs (wputs wr gr (p * 5) [.int .i64 Yk, .int .i64 Yn, .string Ys, .slice YA Yu Yc, .slice YD Ye Yf]) gr (q * 5) [.int .i64 Xk, .int .i64 Xn, .string Xs, .slice XA Xu Xc, .slice XD Xe Xf]) B gr (rowL valA (swR xs a b (i + 1))).toArray T := hk5
      have HK5 := Lib.hid hk6
      have HO5 := Lib.hid ho5
      have x0 : wr.cell? ⟨gr, p * 5, none⟩ = some (.int .i64 Xk) := fx 0 (by decide)
      have x1 : wr.cell? ⟨gr, p * 5 + 1, none⟩ = some (.int .i64 Xn) := fx 1 (by decide)
      have x2 : wr.cell? ⟨gr, p * 5 + 2, none⟩ = some (.string Xs) := fx 2 (by decide)
      have x3 : wr.cell? ⟨gr, p * 5 + 3, none⟩ = some (.slice XA Xu Xc) := fx 3 (by decide)
      have x4 : wr.cell? ⟨gr, p * 5 + 4, none⟩ = some (.slice XD Xe Xf) := fx 4 (by decide)
      have y0 : wr.cell? ⟨gr, q * 5, none⟩ = some (.int .i64 Yk) := fy 0 (by decide)
      have y1 : wr.cell? ⟨gr, q * 5 + 1, none⟩ = some (.int .i64 Yn) := fy 1 (by decide)
      have y2 : wr.cell? ⟨gr, q * 5 + 2, none⟩ = some (.string Ys) := fy 2 (by decide)
      have y3 : wr.cell? ⟨gr, q * 5 + 3, none⟩ = some (.slice YA Yu Yc) := fy 3 (by decide)
      have y4 : wr.cell? ⟨gr, q * 5 + 4, none⟩ = some (.slice YD Ye Yf) := fy 4 (by decide)
      have rp0 := HK.out.free (p * 5)
      have rp1 := HK.out.free (p * 5 + 1)
      have rp2 := HK.out.free (p * 5 + 2)
      have rp3 := HK.out.free (p * 5 + 3)
      have rp4 := HK.out.free (p * 5 + 4)
      have rq0 := HK.out.free (q * 5)
      have rq1 := HK.out.free (q * 5 + 1)
      have rq2 := HK.out.free (q * 5 + 2)
      have rq3 := HK.out.free (q * 5 + 3)
      have rq4 := HK.out.free (q * 5 + 4)
      clear hk5 hk6 ho5 fx fy hXk hXn hXs hYk hYn hYs HVX HVY hXl hXd hYl hYd hxk hyk hall hX hY hpl hql hl hi hp hq hlt HSW
      go_upto_region 3 with (fail)
      go_region
      change Exit.inBlock _ _ _ _ (wputs (wputs wr gr (p * 5) [.int .i64 Yk, .int .i64 Yn, .string Ys, .slice YA Yu Yc, .slice YD Ye Yf]) gr (q * 5) [.int .i64 Xk, .int .i64 Xn, .string Xs, .slice XA Xu Xc, .slice XD Xe Xf]).drew
      clear x0 x1 x2 x3 x4 y0 y1 y2 y3 y4 rp0 rp1 rp2 rp3 rp4 rq0 rq1 rq2 rq3 rq4 HK HT
      generalize (wputs (wputs wr gr (p * 5) [.int .i64 Yk, .int .i64 Yn, .string Ys, .slice YA Yu Yc, .slice YD Ye Yf]) gr (q * 5) [.int .i64 Xk, .int .i64 Xn, .string Xs, .slice XA Xu Xc, .slice XD Xe Xf]) = w5 at *
      go_wp2_with fail
      go_roundw
      case rel => exact ⟨i + 1, by go_num, HLT.out, HK5.out.drew 1, HO5.out.trans ⟨rfl, rfl, rfl, Nat.le_refl _, fun _ _ _ => rfl⟩⟩
      case measure => have := HLT.out; simp [intOf]; omega
    · have q1 : decide ((i : Int) < (k : Int)) = false := decide_eq_false (by omega)
      have q2 : ¬ (i : Int) < (k : Int) := by omega
      obtain rfl : k = i := by omega
      clear hlt
      go_wp2_with fail
      go_end0
      exact ⟨rfl, HK.out, HT.out⟩
/-- two ranges of one length that lie apart -/
theorem swR_mid : ∀ (L R : List ValS) (A B M P Q : List ValS), L.length = R.length → A.length = B.length →
    swR (P ++ (L ++ A) ++ M ++ (R ++ B) ++ Q) P.length (P.length + (L ++ A).length + M.length) L.length = P ++ (R ++ A) ++ M ++ (L ++ B) ++ Q := by
  intro L
  generalize hk : L.length = k
  induction k generalizing L with
  | zero =>
    intro R A B M P Q h1 h2
    obtain rfl := List.eq_nil_of_length_eq_zero hk
    obtain rfl := List.eq_nil_of_length_eq_zero h1.symm
    rfl
  | succ k ih =>
    intro R A B M P Q h1 h2
    obtain ⟨L', x, rfl⟩ : ∃ l x, L = l ++ [x] := ⟨L.dropLast, L.getLast (by intro e; rw [e] at hk; simp at hk), (List.dropLast_concat_getLast _).symm⟩
    obtain ⟨R', y, rfl⟩ : ∃ l x, R = l ++ [x] := ⟨R.dropLast, R.getLast (by intro e; rw [e] at h1; simp at h1), (List.dropLast_concat_getLast _).symm⟩
    have hL : L'.length = k := by simpa using hk
    have hR : R'.length = k := by simp at h1; omega
    have e := ih L' hL R' ([x] ++ A) ([y] ++ B) M P Q (by omega) (by simp; omega)
    rw [show P ++ (L' ++ [x] ++ A) ++ M ++ (R' ++ [y] ++ B) ++ Q = P ++ (L' ++ ([x] ++ A)) ++ M ++ (R' ++ ([y] ++ B)) ++ Q by simp, show (L' ++ [x] ++ A).length = (L' ++ ([x] ++ A)).length by simp]
    unfold swR
    rw [e]
    have g1 : (P ++ (R' ++ ([x] ++ A)) ++ M ++ (L' ++ ([y] ++ B)) ++ Q).getD (P.length + k) zeroS = x := by
      rw [show P ++ (R' ++ ([x] ++ A)) ++ M ++ (L' ++ ([y] ++ B)) ++ Q = (P ++ R') ++ x :: (A ++ M ++ (L' ++ ([y] ++ B)) ++ Q) by simp, show P.length + k = (P ++ R').length by simp [hR]]
      simp [List.getD]
    have g2 : (P ++ (R' ++ ([x] ++ A)) ++ M ++ (L' ++ ([y] ++ B)) ++ Q).getD (P.length + (L' ++ ([x] ++ A)).length + M.length + k) zeroS = y := by
      rw [show P ++ (R' ++ ([x] ++ A)) ++ M ++ (L' ++ ([y] ++ B)) ++ Q = (P ++ (R' ++ ([x] ++ A)) ++ M ++ L') ++ y :: (B ++ Q) by simp, show P.length + (L' ++ ([x] ++ A)).length + M.length + k = (P ++ (R' ++ ([x] ++ A)) ++ M ++ L').length by simp only [List.length_append, List.length_cons, List.length_nil, hR, hL] <;> omega]
      simp [List.getD]
    rw [g1, g2]
    have s1 : (P ++ (R' ++ ([x] ++ A)) ++ M ++ (L' ++ ([y] ++ B)) ++ Q).set (P.length + k) y = P ++ (R' ++ ([y] ++ A)) ++ M ++ (L' ++ ([y] ++ B)) ++ Q := by
      rw [show P ++ (R' ++ ([x] ++ A)) ++ M ++ (L' ++ ([y] ++ B)) ++ Q = (P ++ R') ++ x :: (A ++ M ++ (L' ++ ([y] ++ B)) ++ Q) by simp, show P.length + k = (P ++ R').length by simp [hR], List.set_append, if_neg (by omega), Nat.sub_self]
      simp
    rw [s1]
    rw [show P ++ (R' ++ ([y] ++ A)) ++ M ++ (L' ++ ([y] ++ B)) ++ Q = (P ++ (R' ++ ([y] ++ A)) ++ M ++ L') ++ y :: (B ++ Q) by simp, show P.length + (L' ++ ([x] ++ A)).length + M.length + k = (P ++ (R' ++ ([y] ++ A)) ++ M ++ L').length by simp only [List.length_append, List.length_cons, List.length_nil, hR, hL] <;> omega, List.set_append, if_neg (by omega), Nat.sub_self]
    simp
/-- neighbours of one length, or with others between, change places -/
theorem swR_apart (P A M B Q : List ValS) (h : A.length = B.length) : swR (P ++ A ++ M ++ B ++ Q) P.length (P.length + A.length + M.length) A.length = P ++ B ++ M ++ A ++ Q := by
  have := swR_mid A B [] [] M P Q h rfl
  simpa using this
end Go.Proofs.Ytjeadmndnbggmaa
