/- The contract of Twins: are two values the same in all that they say? -/
import Derived.Test.YtjeadmndnbggmaaOrM
import Derived.Test.YtjeadmndnbggmaaBlk
import Derived.Test.YtjeadmndnbggmaaHyb
import Derived.Deep.QuietTactic
import Derived.BigQuiet
import Derived.StillTailTactics
set_option linter.unusedVariables false
set_option linter.unusedSimpArgs false
namespace Go.Proofs.Ytjeadmndnbggmaa
open Go.RowKit

theorem twnL_step {f : Val → Val → Bool} {l m : List Val} {i : Nat} (hi : i < l.length) (hj : i < m.length) : twnL f (l.drop i) (m.drop i) = (f l[i] m[i] && twnL f (l.drop (i + 1)) (m.drop (i + 1))) := by
  rw [List.drop_eq_getElem_cons hi, List.drop_eq_getElem_cons hj]; rfl
theorem twnL_len {f : Val → Val → Bool} : ∀ {l m : List Val}, l.length ≠ m.length → twnL f l m = false
  | [], [], h => absurd rfl h
  | [], _ :: _, _ => rfl
  | _ :: _, [], _ => rfl
  | x :: xs, y :: ys, h => by
    unfold twnL
    rw [twnL_len (fun e => h (by simp [e])), Bool.and_false]
def TwC (n : Nat) : Prop := ∀ (w : World) (x y : ValS) (A B : Val), RdV n w x A → RdV n w y B →
  Calls Try.prog 6 #[.agg (valA x), .agg (valA y)] w fun e w' => e = .returned (.bool (twnV n A B)) ∧ Nx w w'
set_option maxRecDepth 100000 in
set_option maxHeartbeats 6400000 in
theorem twins_step (n : Nat) (ih : TwC n) : TwC (n + 1) := by
  intro w x y A B hx hy
  obtain ⟨k, a, s, l, d⟩ := A
  obtain ⟨k', a', s', m, f⟩ := B
  obtain ⟨xk, xn, xs, xl, xd⟩ := x
  obtain ⟨yk, yn, ys, yl, yd⟩ := y
  obtain ⟨h1, h2, h3, hl, hd⟩ := hx
  dsimp only at h1 h2 h3 hl hd
  subst h1 h2 h3
  obtain ⟨h1, h2, h3, hl', hd'⟩ := hy
  dsimp only at h1 h2 h3 hl' hd'
  subst h1 h2 h3
  obtain ⟨lA, lc, us, rfl, hl1, hl2, hl3, hl4, hl5⟩ := hl
  obtain ⟨mA, mc, vs, rfl, hm1, hm2, hm3, hm4, hm5⟩ := hl'
  obtain ⟨dA, dc, rfl, hd1, hd2, hd3⟩ := hd
  obtain ⟨fA, fc, rfl, hf1, hf2, hf3⟩ := hd'
  rw [valA_agg, valA_agg]
  obtain ⟨L, hL⟩ : ∃ L, l.length = L := ⟨_, rfl⟩
  obtain ⟨M, hM⟩ : ∃ M, m.length = M := ⟨_, rfl⟩
  obtain ⟨D, hD⟩ : ∃ D, d.length = D := ⟨_, rfl⟩
  obtain ⟨F, hF⟩ : ∃ F, f.length = F := ⟨_, rfl⟩
  have HLM : Hid (l.length = L ∧ m.length = M ∧ d.length = D ∧ f.length = F) := ⟨hL, hM, hD, hF⟩
  have HT : Hid (twnV (n + 1) (.mk xk xn xs l d) (.mk yk yn ys m f) = (decide (xk = yk) && decide (xn = yn) && decide (xs = ys) && decide (d = f) && twnL (twnV n) l m)) := rfl
  obtain ⟨R, hR⟩ : ∃ R, twnV (n + 1) (.mk xk xn xs l d) (.mk yk yn ys m f) = R := ⟨_, rfl⟩
  have HR : Hid ((decide (xk = yk) && decide (xn = yn) && decide (xs = ys) && decide (d = f) && twnL (twnV n) l m) = R) := by unfold Hid; rw [← HT.out, hR]
  rw [hR]
  clear hR HT
  have HL3 := Lib.hid hl3
  have HM3 := Lib.hid hm3
  have HD3 := Lib.hid hd3
  have HF3 := Lib.hid hf3
  have HL5 : Hid (us.length = l.length ∧ ∀ i (h1 : i < us.length) (h2 : i < l.length), RdV n w us[i] l[i]) := ⟨hl4, hl5⟩
  have HM5 : Hid (vs.length = m.length ∧ ∀ i (h1 : i < vs.length) (h2 : i < m.length), RdV n w vs[i] m[i]) := ⟨hm4, hm5⟩
  rw [hL] at hl1
  rw [hM] at hm1
  rw [hD] at hd1
  rw [hF] at hf1
  simp only
  rw [hL, hM, hD, hF]
  clear hl3 hm3 hd3 hf3 hl4 hl5 hm4 hm5 hL hM hD hF
  obtain ⟨g1, hg1⟩ : ∃ g, w.heap.size = g := ⟨_, rfl⟩
  obtain ⟨w1, hw1⟩ : ∃ x, w.alloc (.cells #[.int .i64 (xk : Int), .int .i64 xn, .string ⟨xs.toArray⟩, .slice lA L lc, .slice dA D dc] 29) = x := ⟨_, rfl⟩
  have hb1 : Blk w1 g1 g1 #[.int .i64 (xk : Int), .int .i64 xn, .string ⟨xs.toArray⟩, .slice lA L lc, .slice dA D dc] 29 := by rw [← hw1, ← hg1]; exact Blk.new w _ _
  have hn1 : Nx w w1 := by rw [← hw1]; exact nx0 _ _
  obtain ⟨g2, hg2⟩ : ∃ g, w1.heap.size = g := ⟨_, rfl⟩
  obtain ⟨w2, hw2⟩ : ∃ x, w1.alloc (.cells #[.int .i64 (yk : Int), .int .i64 yn, .string ⟨ys.toArray⟩, .slice mA M mc, .slice fA F fc] 29) = x := ⟨_, rfl⟩
  have hb2 : Blk w2 g2 g2 #[.int .i64 (yk : Int), .int .i64 yn, .string ⟨ys.toArray⟩, .slice mA M mc, .slice fA F fc] 29 := by rw [← hw2, ← hg2]; exact Blk.new w1 _ _
  have hn2 : Nx w1 w2 := by rw [← hw2]; exact nx0 _ _
  have HB1 := Lib.hid (hb1.below hn2)
  have HB2 := Lib.hid hb2
  have HN2 := Lib.hid (hn1.trans hn2)
  have a0 : w2.cell? ⟨g1, 0, none⟩ = some (.int .i64 (xk : Int)) := HB1.out.cell 0
  have a1 : w2.cell? ⟨g1, 1, none⟩ = some (.int .i64 xn) := HB1.out.cell 1
  have a2 : w2.cell? ⟨g1, 2, none⟩ = some (.string ⟨xs.toArray⟩) := HB1.out.cell 2
  have a3 : w2.cell? ⟨g1, 3, none⟩ = some (.slice lA L lc) := HB1.out.cell 3
  have a4 : w2.cell? ⟨g1, 4, none⟩ = some (.slice dA D dc) := HB1.out.cell 4
  have b0 : w2.cell? ⟨g2, 0, none⟩ = some (.int .i64 (yk : Int)) := HB2.out.cell 0
  have b1 : w2.cell? ⟨g2, 1, none⟩ = some (.int .i64 yn) := HB2.out.cell 1
  have b2 : w2.cell? ⟨g2, 2, none⟩ = some (.string ⟨ys.toArray⟩) := HB2.out.cell 2
  have b3 : w2.cell? ⟨g2, 3, none⟩ = some (.slice mA M mc) := HB2.out.cell 3
  have b4 : w2.cell? ⟨g2, 4, none⟩ = some (.slice fA F fc) := HB2.out.cell 4
  have hL47 : (L : Int) ≤ 9223372036854775807 := by have := hl2; simp only [maxLen] at this; omega
  have hD47 : (D : Int) ≤ 9223372036854775807 := by have := hd2; simp only [maxLen] at this; omega
  clear hb1 hn1 hb2 hn2
  go_enter Try.func6, Try.ntmps6
  by_cases e1 : (xk : Int) = (yk : Int)
  case neg =>
    have q1 : ((xk : Int) == (yk : Int)) = false := by rw [beq_eq_false_iff_ne]; exact e1
    have q2 : (xk == yk) = false := by rw [beq_eq_false_iff_ne]; omega
    have q3 : ¬ xk = yk := by omega
    obtain rfl : R = false := by rw [← HR.out, decide_eq_false q3]; simp
    go_wp2_with fail
    go_ret
    exact ⟨rfl, HN2.out⟩
  obtain rfl : xk = yk := by omega
  have q1 : ((xk : Int) == (xk : Int)) = true := by simp
  have q1n : (xk == xk) = true := by simp
  clear e1
  by_cases e2 : xn = yn
  case neg =>
    have p1 : (xn == yn) = false := by rw [beq_eq_false_iff_ne]; exact e2
    obtain rfl : R = false := by rw [← HR.out, decide_eq_false e2]; simp
    go_wp2_with fail
    go_ret
    exact ⟨rfl, HN2.out⟩
  obtain rfl := e2
  have p1 : (xn == xn) = true := by simp
  by_cases e3 : xs = ys
  case neg =>
    have r1 : (xs == ys) = false := by rw [beq_eq_false_iff_ne]; exact e3
    obtain rfl : R = false := by rw [← HR.out, decide_eq_false e3]; simp
    go_wp2_with fail
    go_ret
    exact ⟨rfl, HN2.out⟩
  obtain rfl := e3
  have r1 : (xs == xs) = true := by simp
  by_cases e4 : (L : Int) = (M : Int)
  case neg =>
    have s1 : ((L : Int) == (M : Int)) = false := by rw [beq_eq_false_iff_ne]; exact e4
    have s2 : (L == M) = false := by rw [beq_eq_false_iff_ne]; omega
    have s3 : ¬ L = M := by omega
    obtain rfl : R = false := by rw [← HR.out, twnL_len (by have := HLM.out; omega)]; simp
    go_wp2_with fail
    go_ret
    exact ⟨rfl, HN2.out⟩
  obtain rfl : L = M := by omega
  have s1 : ((L : Int) == (L : Int)) = true := by simp
  have s2 : (L == L) = true := by simp
  clear e4
  by_cases e5 : (D : Int) = (F : Int)
  case neg =>
    have t1 : ((D : Int) == (F : Int)) = false := by rw [beq_eq_false_iff_ne]; exact e5
    have t2 : (D == F) = false := by rw [beq_eq_false_iff_ne]; omega
    have t3 : ¬ D = F := by omega
    obtain rfl : R = false := by rw [← HR.out, decide_eq_false (p := d = f) (fun e => by have := HLM.out; subst e; omega)]; simp
    go_wp2_with fail
    go_ret
    exact ⟨rfl, HN2.out⟩
  obtain rfl : D = F := by omega
  have t1 : ((D : Int) == (D : Int)) = true := by simp
  have t2 : (D == D) = true := by simp
  clear e5
  go_wp2_with fail
  clear hw1 hg1 hw2 hg2
  go_loopw [5] (fun v5 wr => ∃ i : Nat, v5 = .int .i64 (i : Int) ∧ i ≤ D ∧ Hid (d.take i = f.take i) ∧ Hid (Nx w2 wr)) (fun v _ => (D - intOf v).toNat)
  case atStart => exact ⟨0, rfl, Nat.zero_le _, rfl, Nx.refl _⟩
  case round =>
    obtain ⟨i, rfl, hi, HDF, HX⟩ := hrel
    have a4' : wr.cell? ⟨g1, 4, none⟩ = some (.slice dA D dc) := (HX.out.cell (p := ⟨g1, 4, none⟩) HB1.out.lt).trans (HB1.out.cell 4)
    have b4' : wr.cell? ⟨g2, 4, none⟩ = some (.slice fA D fc) := (HX.out.cell (p := ⟨g2, 4, none⟩) HB2.out.lt).trans (HB2.out.cell 4)
    clear a0 a1 a2 a3 a4 b0 b1 b2 b3 b4
    by_cases hlt : i < D
    · have c1 : decide ((i : Int) < (D : Int)) = true := decide_eq_true (by omega)
      have c2 : (i : Int) < (D : Int) := by omega
      have c3 : (0 : Int) ≤ (i : Int) := by omega
      have c4 : decide (i < D) = true := decide_eq_true hlt
      have hid : i < d.length := by rw [HLM.out.2.2.1]; exact hlt
      have hif : i < f.length := by rw [HLM.out.2.2.2]; exact hlt
      obtain ⟨ga, offa, rfl, hga, hca⟩ := (HD3.out.below (HN2.out.trans HX.out)).at_ hid
      obtain ⟨gb, offb, rfl, hgb, hcb⟩ := (HF3.out.below (HN2.out.trans HX.out)).at_ hif
      obtain ⟨X, hX⟩ : ∃ X, d[i] = X := ⟨_, rfl⟩
      obtain ⟨Y, hY⟩ : ∃ Y, f[i] = Y := ⟨_, rfl⟩
      rw [hX] at hca
      rw [hY] at hcb
      have HXY : Hid (d.take (i + 1) = d.take i ++ [X] ∧ f.take (i + 1) = f.take i ++ [Y]) := by
        unfold Hid; rw [List.take_succ_eq_append_getElem hid, List.take_succ_eq_append_getElem hif, hX, hY]; exact ⟨rfl, rfl⟩
      have HNE : Hid (X ≠ Y → d ≠ f) := fun h e => h (by subst e; rw [← hX, ← hY])
      have HLT := Lib.hid hlt
      clear hlt hid hif hX hY hga hgb
      by_cases e6 : X = Y
      · obtain rfl := e6
        have u1 : (X == X) = true := by simp
        go_wp2_with fail
        go_quiet (fail)
        go_wp2_with fail
        go_roundw
        case rel => exact ⟨i + 1, by go_num, HLT.out, by unfold Hid; rw [HXY.out.1, HXY.out.2, HDF.out], HX.out.dr _⟩
        case measure => have := HLT.out; simp [intOf]; omega
      · have u1 : (X == Y) = false := by rw [beq_eq_false_iff_ne]; exact e6
        obtain rfl : R = false := by rw [← HR.out, decide_eq_false (HNE.out e6)]; simp
        go_wp2_with fail
        go_quiet (fail)
        go_wp2_with fail
        go_ret
        exact ⟨rfl, (HN2.out.trans HX.out).dr _⟩
    · have c1 : decide ((i : Int) < (D : Int)) = false := decide_eq_false (by omega)
      have c2 : ¬ (i : Int) < (D : Int) := by omega
      have c4 : decide (i < D) = false := decide_eq_false hlt
      obtain rfl : i = D := by omega
      have HDE : Hid (d = f) := by
        have h := HDF.out
        rwa [List.take_of_length_le (by have := HLM.out; omega), List.take_of_length_le (by have := HLM.out; omega)] at h
      clear hlt
      go_wp2_with fail
      go_loopw [6] (fun v6 wq => ∃ j : Nat, v6 = .int .i64 (j : Int) ∧ j ≤ L ∧ Hid (twnL (twnV n) l m = twnL (twnV n) (l.drop j) (m.drop j)) ∧ Hid (Nx w2 wq)) (fun v _ => (L - intOf v).toNat)
      case atStart => exact ⟨0, rfl, Nat.zero_le _, rfl, HX.out⟩
      case round =>
        obtain ⟨j, rfl, hj, HTL, HQ⟩ := hrel
        clear a4' b4'
        have a3' : _ = some (Value.slice lA L lc) := (HQ.out.cell (p := ⟨g1, 3, none⟩) HB1.out.lt).trans (HB1.out.cell 3)
        have b3' : _ = some (Value.slice mA L mc) := (HQ.out.cell (p := ⟨g2, 3, none⟩) HB2.out.lt).trans (HB2.out.cell 3)
        by_cases hlt : j < L
        · have c1 : decide ((j : Int) < (L : Int)) = true := decide_eq_true (by omega)
          have c2 : (j : Int) < (L : Int) := by omega
          have c3 : (0 : Int) ≤ (j : Int) := by omega
          have c4 : decide (j < L) = true := decide_eq_true hlt
          have hjl : j < l.length := by rw [HLM.out.1]; exact hlt
          have hjm : j < m.length := by rw [HLM.out.2.1]; exact hlt
          have hju : j < us.length := by rw [HL5.out.1]; exact hjl
          have hjv : j < vs.length := by rw [HM5.out.1]; exact hjm
          have hu := HL5.out.2 j hju hjl
          have hv := HM5.out.2 j hjv hjm
          obtain ⟨ga, offa, rfl, hga, hca⟩ := (HL3.out.nx (HN2.out.trans HQ.out)) (by omega)
          obtain ⟨gb, offb, rfl, hgb, hcb⟩ := (HM3.out.nx (HN2.out.trans HQ.out)) (by omega)
          have hca0 := hca j hju
          have hcb0 := hcb j hjv
          have HSTEP : Hid (twnL (twnV n) (l.drop j) (m.drop j) = (twnV n l[j] m[j] && twnL (twnV n) (l.drop (j + 1)) (m.drop (j + 1)))) := twnL_step hjl hjm
          obtain ⟨u, hu0⟩ : ∃ u, us[j] = u := ⟨_, rfl⟩
          obtain ⟨v, hv0⟩ : ∃ v, vs[j] = v := ⟨_, rfl⟩
          obtain ⟨U, hU0⟩ : ∃ U, l[j] = U := ⟨_, rfl⟩
          obtain ⟨V, hV0⟩ : ∃ V, m[j] = V := ⟨_, rfl⟩
          rw [hu0] at hu hca0
          rw [hv0] at hv hcb0
          rw [hU0] at hu HSTEP
          rw [hV0] at hv HSTEP
          clear hu0 hv0 hU0 hV0 hca hcb
          obtain ⟨T, hT⟩ : ∃ T, twnV n U V = T := ⟨_, rfl⟩
          rw [hT] at HSTEP
          have HCALL : Hid (∀ wx, Nx w wx → Calls Try.prog 6 #[.agg (valA u), .agg (valA v)] wx fun e w' => e = .returned (.bool T) ∧ Nx wx w') := by
            intro wx hx
            have := ih wx u v U V (hu.nx hx) (hv.nx hx)
            rwa [hT] at this
          obtain ⟨uk, un, us', ul, ud⟩ := u
          obtain ⟨vk, vn, vs', vl, vd⟩ := v
          have x0 := hca0 0 (by decide)
          have x1 := hca0 1 (by decide)
          have x2 := hca0 2 (by decide)
          have x3 := hca0 3 (by decide)
          have x4 := hca0 4 (by decide)
          have y0 := hcb0 0 (by decide)
          have y1 := hcb0 1 (by decide)
          have y2 := hcb0 2 (by decide)
          have y3 := hcb0 3 (by decide)
          have y4 := hcb0 4 (by decide)
          simp only [valA, Nat.add_zero, List.getElem?_toArray, List.getElem?_cons_zero, List.getElem?_cons_succ] at x0 x1 x2 x3 x4 y0 y1 y2 y3 y4
          have HLT := Lib.hid hlt
          clear hca0 hcb0 hu hv hT hlt hjl hjm hju hjv
          go_wp2_with fail
          go_still_tail 10, (by kernel_rfl)
          change wpList _ _ _ _ _ wr.drew
          have HQ2 : Hid (Nx w2 wr.drew) := HQ.out.dr 1
          clear a3' b3' x0 x1 x2 x3 x4 y0 y1 y2 y3 y4 HQ
          generalize wr.drew = w3 at *
          go_wp2_with fail
          refine (HCALL.out w3 (HN2.out.trans HQ2.out)).mono ?_; rintro e w4 ⟨rfl, hn4⟩
          have HN4 := Lib.hid (HQ2.out.trans hn4)
          clear hn4 HCALL
          cases T with
          | true =>
            go_wp2_with fail
            go_roundw
            case rel => exact ⟨j + 1, by go_num, HLT.out, by unfold Hid; rw [HTL.out, HSTEP.out, Bool.true_and], HN4.out⟩
            case measure => have := HLT.out; simp [intOf]; omega
          | false =>
            obtain rfl : R = false := by rw [← HR.out, HTL.out, HSTEP.out]; simp
            go_wp2_with fail
            go_ret
            exact ⟨rfl, HN2.out.trans HN4.out⟩
        · have c1 : decide ((j : Int) < (L : Int)) = false := decide_eq_false (by omega)
          have c2 : ¬ (j : Int) < (L : Int) := by omega
          have c4 : decide (j < L) = false := decide_eq_false hlt
          obtain rfl : j = L := by omega
          obtain rfl : R = true := by
            rw [← HR.out, HTL.out, List.drop_of_length_le (by have := HLM.out; omega), List.drop_of_length_le (by have := HLM.out; omega), decide_eq_true HDE.out]
            simp [twnL]
          clear hlt
          go_wp2_with fail
          go_ret
          exact ⟨rfl, HN2.out.trans HQ.out⟩
theorem Twins_any : ∀ n, TwC n
  | 0 => fun _ _ _ _ _ h => h.elim
  | n + 1 => twins_step n (Twins_any n)
end Go.Proofs.Ytjeadmndnbggmaa
