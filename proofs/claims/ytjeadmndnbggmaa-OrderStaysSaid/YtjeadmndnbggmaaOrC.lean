/- Two rows of values held against each other, place by place. -/
import Derived.Test.YtjeadmndnbggmaaOrA
import Derived.Test.YtjeadmndnbggmaaOrB
import Derived.Deep.DeepCutAuto
set_option linter.unusedVariables false
set_option linter.unusedSimpArgs false
namespace Go.Proofs.Ytjeadmndnbggmaa
open Go.RowKit

theorem RdV.slv {w : World} : ∀ {n : Nat} {x : ValS} {v : Val}, RdV n w x v → IsSlv x.l ∧ IsSlv x.ids
  | 0, _, _, h => h.elim
  | n + 1, x, .mk k a s l i, h => by
    obtain ⟨A, c, ys, e, -⟩ := h.2.2.2.1
    obtain ⟨B, d, e2, -⟩ := h.2.2.2.2
    exact ⟨⟨_, _, _, e⟩, ⟨_, _, _, e2⟩⟩
theorem cmpL_step {f : Val → Val → Int} {l m : List Val} {i : Nat} (hi : i < l.length) (hj : i < m.length) : cmpL f (l.drop i) (m.drop i) = if f l[i] m[i] = 0 then cmpL f (l.drop (i + 1)) (m.drop (i + 1)) else f l[i] m[i] := by
  rw [List.drop_eq_getElem_cons hi, List.drop_eq_getElem_cons hj]; rfl
theorem cmpL_more {f : Val → Val → Int} {l m : List Val} {i : Nat} (hi : i < l.length) (hj : m.length ≤ i) : cmpL f (l.drop i) (m.drop i) = 1 := by
  rw [List.drop_eq_getElem_cons hi, List.drop_of_length_le hj]; rfl
theorem cmpL_less {f : Val → Val → Int} {l m : List Val} {i : Nat} (hi : l.length ≤ i) (hj : i < m.length) : cmpL f (l.drop i) (m.drop i) = -1 := by
  rw [List.drop_eq_getElem_cons hj, List.drop_of_length_le hi]; rfl
theorem cmpL_end {f : Val → Val → Int} {l m : List Val} {i : Nat} (hi : l.length ≤ i) (hj : m.length ≤ i) : cmpL f (l.drop i) (m.drop i) = 0 := by
  rw [List.drop_of_length_le hj, List.drop_of_length_le hi]; rfl
set_option maxRecDepth 100000 in
set_option maxHeartbeats 6400000 in
theorem cfn_any (n : Nat) (ih : CmpC n) (w : World) (v1 v2 : Value) (l m : List Val) (h1 : RdL (RdV n w) w v1 l) (h2 : RdL (RdV n w) w v2 m) (ok1 : ∀ x ∈ l, okV n x) (ok2 : ∀ x ∈ m, okV n x) :
    Calls Try.prog 19 #[v1, v2, .func (.func 8) #[] #[]] w fun e w' => e = .returned (.int .i64 (cmpL (cmpV n) l m)) ∧ Nx w w' := by
  obtain ⟨lA, lc, us, rfl, hl1, hl2, hl3, hl4, hl5⟩ := h1
  obtain ⟨mA, mc, vs, rfl, hm1, hm2, hm3, hm4, hm5⟩ := h2
  obtain ⟨L, hL⟩ : ∃ L, l.length = L := ⟨_, rfl⟩
  obtain ⟨M, hM⟩ : ∃ M, m.length = M := ⟨_, rfl⟩
  have HLM : Hid (l.length = L ∧ m.length = M) := ⟨hL, hM⟩
  obtain ⟨R, hR⟩ : ∃ R, cmpL (cmpV n) l m = R := ⟨_, rfl⟩
  have HR := Lib.hid hR
  have HL3 := Lib.hid hl3
  have HM3 := Lib.hid hm3
  have HL5 : Hid (us.length = l.length ∧ ∀ i (h1 : i < us.length) (h2 : i < l.length), RdV n w us[i] l[i]) := ⟨hl4, hl5⟩
  have HM5 : Hid (vs.length = m.length ∧ ∀ i (h1 : i < vs.length) (h2 : i < m.length), RdV n w vs[i] m[i]) := ⟨hm4, hm5⟩
  have HOK : Hid ((∀ x ∈ l, okV n x) ∧ ∀ x ∈ m, okV n x) := ⟨ok1, ok2⟩
  rw [hL] at hl1
  rw [hM] at hm1
  rw [hL, hM, hR]
  have hL47 : (L : Int) ≤ 9223372036854775807 := by have := hl2; simp only [maxLen] at this; omega
  clear hl3 hm3 hl4 hl5 hm4 hm5 hL hM hR ok1 ok2
  go_enter Try.func19, Try.ntmps19
  go_wp2_with fail
  go_loopw [13] (fun v wr => ∃ i : Nat, v = .int .i64 (i : Int) ∧ i ≤ L ∧ i ≤ M ∧ Hid (cmpL (cmpV n) (l.drop i) (m.drop i) = R) ∧ Hid (Nx w wr)) (fun v _ => (L - intOf v).toNat)
  case atStart => exact ⟨0, rfl, Nat.zero_le _, Nat.zero_le _, HR.out, Nx.refl _⟩
  case round =>
    obtain ⟨i, rfl, hi, hiM, HC, HX⟩ := hrel
    by_cases hlt : i < L
    · have c1 : decide ((i : Int) < (L : Int)) = true := decide_eq_true (by omega)
      have c2 : (i : Int) < (L : Int) := by omega
      have c3 : (0 : Int) ≤ (i : Int) := by omega
      have c4 : decide (i < L) = true := decide_eq_true hlt
      have hil : i < l.length := by rw [HLM.out.1]; exact hlt
      have hiu : i < us.length := by rw [HL5.out.1]; exact hil
      have hu := HL5.out.2 i hiu hil
      obtain ⟨ga, offa, rfl, hga, hca⟩ := (HL3.out.nx HX.out) (by omega)
      have hca0 := hca i hiu
      obtain ⟨u, hu0⟩ : ∃ u, us[i] = u := ⟨_, rfl⟩
      rw [hu0] at hu hca0
      obtain ⟨uk, un, us', ul, ud⟩ := u
      obtain ⟨⟨ulA, ulu, ulc, hul⟩, ⟨udA, udu, udc, hud⟩⟩ := hu.slv
      dsimp only at hul hud
      subst hul hud
      have x0 := hca0 0 (by decide)
      have x1 := hca0 1 (by decide)
      have x2 := hca0 2 (by decide)
      have x3 := hca0 3 (by decide)
      have x4 := hca0 4 (by decide)
      simp only [valA, Nat.add_zero, List.getElem?_toArray, List.getElem?_cons_zero, List.getElem?_cons_succ] at x0 x1 x2 x3 x4
      obtain ⟨g1, hg1⟩ : ∃ g, wr.heap.size = g := ⟨_, rfl⟩
      obtain ⟨w1, hw1⟩ : ∃ x, wr.alloc (.cells #[.int .i64 (uk : Int), .int .i64 un, .string ⟨us'.toArray⟩, .slice ulA ulu ulc, .slice udA udu udc] 29) = x := ⟨_, rfl⟩
      have HB1 : Hid (Blk w1 g1 g1 #[.int .i64 (uk : Int), .int .i64 un, .string ⟨us'.toArray⟩, .slice ulA ulu ulc, .slice udA udu udc] 29) := by rw [← hw1, ← hg1]; exact Blk.new wr _ _
      have HN1 : Hid (Nx w w1) := by rw [← hw1]; exact HX.out.trans (nx0 _ _)
      have HW1 := Lib.hid hw1
      have HG1 := Lib.hid hg1
      have HLT := Lib.hid hlt
      obtain ⟨U, hU0⟩ : ∃ U, l[i] = U := ⟨_, rfl⟩
      have HU : Hid (RdV n w ⟨uk, un, us', .slice ulA ulu ulc, .slice udA udu udc⟩ U ∧ okV n U ∧ ∃ h : i < l.length, l[i] = U) := ⟨hU0 ▸ hu, hU0 ▸ HOK.out.1 _ (List.getElem_mem _), hil, hU0⟩
      clear hca0 hu hw1 hg1 hlt hU0 hil hiu hu0 hca
      go_upto_region 4 with (fail)
      rw [HW1.out, HG1.out]
      clear HW1 HG1 x0 x1 x2 x3 x4
      by_cases hM : i < M
      · have d1 : decide ((M : Int) ≤ (i : Int)) = false := decide_eq_false (by omega)
        have d2 : ¬ (M : Int) ≤ (i : Int) := by omega
        have d3 : (i : Int) < (M : Int) := by omega
        have d4 : decide (M ≤ i) = false := decide_eq_false (by omega)
        have him : i < m.length := by rw [HLM.out.2]; exact hM
        have hiv : i < vs.length := by rw [HM5.out.1]; exact him
        have hv := HM5.out.2 i hiv him
        obtain ⟨gb, offb, rfl, hgb, hcb⟩ := (HM3.out.nx HN1.out) (by omega)
        have hcb0 := hcb i hiv
        obtain ⟨v, hv0⟩ : ∃ v, vs[i] = v := ⟨_, rfl⟩
        rw [hv0] at hv hcb0
        obtain ⟨vk, vn, vs', vl, vd⟩ := v
        obtain ⟨⟨vlA, vlu, vlc, hvl⟩, ⟨vdA, vdu, vdc, hvd⟩⟩ := hv.slv
        dsimp only at hvl hvd
        subst hvl hvd
        have y0 := hcb0 0 (by decide)
        have y1 := hcb0 1 (by decide)
        have y2 := hcb0 2 (by decide)
        have y3 := hcb0 3 (by decide)
        have y4 := hcb0 4 (by decide)
        simp only [valA, Nat.add_zero, List.getElem?_toArray, List.getElem?_cons_zero, List.getElem?_cons_succ] at y0 y1 y2 y3 y4
        obtain ⟨g2, hg2⟩ : ∃ g, w1.heap.size = g := ⟨_, rfl⟩
        obtain ⟨w2, hw2⟩ : ∃ x, w1.alloc (.cells #[.int .i64 (vk : Int), .int .i64 vn, .string ⟨vs'.toArray⟩, .slice vlA vlu vlc, .slice vdA vdu vdc] 29) = x := ⟨_, rfl⟩
        have hb2 : Blk w2 g2 g2 #[.int .i64 (vk : Int), .int .i64 vn, .string ⟨vs'.toArray⟩, .slice vlA vlu vlc, .slice vdA vdu vdc] 29 := by rw [← hw2, ← hg2]; exact Blk.new w1 _ _
        have hn2 : Nx w1 w2 := by rw [← hw2]; exact nx0 _ _
        have hb1 := HB1.out.below hn2
        have HN2 := Lib.hid (HN1.out.trans hn2)
        have HW2 := Lib.hid hw2
        have HG2 := Lib.hid hg2
        obtain ⟨V, hV0⟩ : ∃ V, m[i] = V := ⟨_, rfl⟩
        have HSTEP : Hid ((if cmpV n U V = 0 then cmpL (cmpV n) (l.drop (i + 1)) (m.drop (i + 1)) else cmpV n U V) = R) := by
          obtain ⟨-, -, h, e⟩ := HU.out
          unfold Hid; rw [← e, ← hV0, ← cmpL_step h him]; exact HC.out
        have hokv : okV n V := hV0 ▸ HOK.out.2 _ (List.getElem_mem _)
        rw [hV0] at hv
        obtain ⟨T, hT⟩ : ∃ T, cmpV n U V = T := ⟨_, rfl⟩
        have hcall := ih w2 ⟨uk, un, us', .slice ulA ulu ulc, .slice udA udu udc⟩ ⟨vk, vn, vs', .slice vlA vlu vlc, .slice vdA vdu vdc⟩ U V (HU.out.1.nx HN2.out) (hv.nx HN2.out) HU.out.2.1 hokv
        rw [hT] at HSTEP hcall
        have HCALL := Lib.hid hcall
        have HM := Lib.hid hM
        have b0 : w2.cell? ⟨g1, 0, none⟩ = some (.int .i64 (uk : Int)) := hb1.cell 0
        have b1 : w2.cell? ⟨g1, 1, none⟩ = some (.int .i64 un) := hb1.cell 1
        have b2 : w2.cell? ⟨g1, 2, none⟩ = some (.string ⟨us'.toArray⟩) := hb1.cell 2
        have b3 : w2.cell? ⟨g1, 3, none⟩ = some (.slice ulA ulu ulc) := hb1.cell 3
        have b4 : w2.cell? ⟨g1, 4, none⟩ = some (.slice udA udu udc) := hb1.cell 4
        have e0 : w2.cell? ⟨g2, 0, none⟩ = some (.int .i64 (vk : Int)) := hb2.cell 0
        have e1 : w2.cell? ⟨g2, 1, none⟩ = some (.int .i64 vn) := hb2.cell 1
        have e2 : w2.cell? ⟨g2, 2, none⟩ = some (.string ⟨vs'.toArray⟩) := hb2.cell 2
        have e3 : w2.cell? ⟨g2, 3, none⟩ = some (.slice vlA vlu vlc) := hb2.cell 3
        have e4 : w2.cell? ⟨g2, 4, none⟩ = some (.slice vdA vdu vdc) := hb2.cell 4
        clear hcb0 hv hv0 hcb hokv hV0 him hiv hb1 hb2 hn2 hcall hw2 hg2 hT HB1 HN1 hM HC
        go_upto_region 7 with (fail)
        rw [HW2.out, HG2.out]
        clear HW2 HG2 y0 y1 y2 y3 y4
        go_wp2_with fail
        refine HCALL.out.mono ?_; rintro e w3 ⟨rfl, hn3⟩
        have HN3 := Lib.hid (HN2.out.trans hn3)
        clear b0 b1 b2 b3 b4 e0 e1 e2 e3 e4 hn3 HCALL HN2
        by_cases hT0 : T = 0
        · subst hT0
          go_wp2_with fail
          go_roundw
          case rel => exact ⟨i + 1, by go_num, HLT.out, HM.out, by unfold Hid; rw [← HSTEP.out]; simp, HN3.out⟩
          case measure => have := HLT.out; simp [intOf]; omega
        · have t1 : (T == 0) = false := by rw [beq_eq_false_iff_ne]; exact hT0
          have HS2 := HSTEP.out
          rw [if_neg hT0] at HS2
          subst HS2
          go_wp2_with fail
          go_ret
          exact ⟨rfl, HN3.out⟩
      · have d1 : decide ((M : Int) ≤ (i : Int)) = true := decide_eq_true (by omega)
        have d2 : (M : Int) ≤ (i : Int) := by omega
        have d4 : decide (M ≤ i) = true := decide_eq_true (by omega)
        obtain rfl : R = 1 := by rw [← HC.out]; exact cmpL_more HU.out.2.2.1 (by rw [HLM.out.2]; omega)
        clear hM
        go_wp2_with fail
        go_ret
        exact ⟨rfl, HN1.out⟩
    · have c1 : decide ((i : Int) < (L : Int)) = false := decide_eq_false (by omega)
      have c2 : ¬ (i : Int) < (L : Int) := by omega
      have c4 : decide (i < L) = false := decide_eq_false hlt
      obtain rfl : i = L := by omega
      clear hlt
      by_cases hM : i < M
      · have d1 : decide ((i : Int) < (M : Int)) = true := decide_eq_true (by omega)
        have d2 : (i : Int) < (M : Int) := by omega
        have d4 : decide (i < M) = true := decide_eq_true hM
        obtain rfl : R = -1 := by rw [← HC.out]; exact cmpL_less (by rw [HLM.out.1]; omega) (by rw [HLM.out.2]; omega)
        clear hM
        go_wp2_with fail
        go_ret
        exact ⟨rfl, HX.out⟩
      · have d1 : decide ((i : Int) < (M : Int)) = false := decide_eq_false (by omega)
        have d2 : ¬ (i : Int) < (M : Int) := by omega
        have d4 : decide (i < M) = false := decide_eq_false hM
        obtain rfl : R = 0 := by rw [← HC.out]; exact cmpL_end (by rw [HLM.out.1]; omega) (by rw [HLM.out.2]; omega)
        clear hM
        go_wp2_with fail
        go_ret
        exact ⟨rfl, HX.out⟩
end Go.Proofs.Ytjeadmndnbggmaa
