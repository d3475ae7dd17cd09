/- All parts' normal forms: order.normalParts. -/
import Derived.Test.YtjeadmndnbggmaaOrG
set_option linter.unusedVariables false
set_option linter.unusedSimpArgs false
namespace Go.Proofs.Ytjeadmndnbggmaa
open Go.RowKit

theorem rowL_set {α : Type} {f : α → Array Value} (hf : ∀ x, (f x).size = 5) (xs : List α) (i : Nat) (hi : i < xs.length) (y : α) : putC (rowL f xs).toArray (i * 5) (f y).toList = (rowL f (xs.set i y)).toArray := by
  apply Array.ext_getElem?
  intro j
  have hl : (rowL f xs).length = xs.length * 5 := rowL_length hf xs
  have hl2 : (rowL f (xs.set i y)).length = xs.length * 5 := by rw [rowL_length hf, List.length_set]
  have e1 : (rowL f (xs.set i y)).toArray[j]? = (rowL f (xs.set i y))[j]? := by simp
  have e2 : (rowL f xs).toArray[j]? = (rowL f xs)[j]? := by simp
  have e3 : (f y).toList.length = 5 := by rw [Array.length_toList, hf]
  have e4 : (rowL f xs).toArray.size = xs.length * 5 := by simp [hl]
  rw [putC_get, e1, e2, e3, e4]
  by_cases h : j < xs.length * 5
  · have hq : j / 5 < xs.length := by omega
    have hr : j % 5 < 5 := Nat.mod_lt _ (by decide)
    have g1 := rowL_get hf (xs.set i y) (j / 5) (by rw [List.length_set]; exact hq) (j % 5) hr
    have g2 := rowL_get hf xs (j / 5) hq (j % 5) hr
    rw [show j / 5 * 5 + j % 5 = j by omega] at g1 g2
    rw [g1, g2, List.getElem_set]
    by_cases hc : i = j / 5
    · rw [if_pos (by omega), if_pos hc, show j - i * 5 = j % 5 by omega]; simp
    · rw [if_neg (by omega), if_neg hc]
  · rw [if_neg (by omega), List.getElem?_eq_none (by omega), List.getElem?_eq_none (by omega)]
theorem Blk.row {w : World} {B g : Nat} {T : TypeId} {xs : List ValS} (h : Blk w B g (rowL valA xs).toArray T) {i : Nat} (hi : i < xs.length) (y : ValS) : Blk (wputs w g (i * 5) (valA y).toList) B g (rowL valA (xs.set i y)).toArray T := by
  have := h.puts (valA y).toList (i * 5)
  rw [rowL_set valA_size xs i hi y] at this
  exact this
theorem Blk.rcell {w : World} {B g : Nat} {T : TypeId} {xs : List ValS} (h : Blk w B g (rowL valA xs).toArray T) {i : Nat} (hi : i < xs.length) {j : Nat} (hj : j < 5) : w.cell? ⟨g, i * 5 + j, none⟩ = (valA xs[i])[j]? := by
  rw [h.cell, ← rowL_get valA_size xs i hi j hj]; simp
set_option maxRecDepth 100000 in
set_option maxHeartbeats 12800000 in
theorem parts_any (n : Nat) (w : World) (v : Value) (l : List Val) (hv : RdL (RdV n w) w v l) (hl : ∀ x ∈ l, leafOk x) (h20 : l.length ≤ 20) :
    Calls Try.prog 11 #[v] w fun e w' => ∃ g ys, e = .returned (.tuple #[.slice (some ⟨g, 0, none⟩) l.length l.length, .int .i64 0]) ∧ Blk w' w.heap.size g (rowL valA ys).toArray 29 ∧ (∀ y ∈ ys, OkS y) ∧ ys.map lfV = l ∧ Nx w w' := by
  obtain ⟨lA, lc, us, rfl, hl1, hl2, hl3, hl4, hl5⟩ := hv
  obtain ⟨N, hN⟩ : ∃ N, l.length = N := ⟨_, rfl⟩
  have HLN := Lib.hid hN
  have HL3 := Lib.hid hl3
  have HL5 : Hid (us.length = l.length ∧ ∀ i (h1 : i < us.length) (h2 : i < l.length), RdV n w us[i] l[i]) := ⟨hl4, hl5⟩
  have HOK := Lib.hid hl
  rw [hN] at hl1 h20 ⊢
  have hN20 : (N : Int) ≤ 20 := by omega
  have h100 : N ≤ 100000 := by omega
  clear hl3 hl4 hl5 hl hN
  go_enter Try.func11, Try.ntmps11
  go_wp2_with (refine wpList_mkV _ rfl _ _ rfl .i64 .i64 N rfl rfl h100 ?_; intro gp w1 HBP HN1)
  go_loopw [14] (fun v wr => ∃ (i : Nat) (ys : List ValS), v = .int .i64 (i : Int) ∧ i ≤ N ∧ Hid (ys.length = i ∧ (∀ y ∈ ys, OkS y) ∧ ys.map lfV = l.take i) ∧ Hid (Blk wr w.heap.size gp (rowL valA (ys ++ List.replicate (N - i) zeroS)).toArray 29) ∧ Hid (Nx w wr)) (fun v _ => (N - intOf v).toNat)
  case atStart => exact ⟨0, [], rfl, Nat.zero_le _, ⟨rfl, (fun y h => by cases h), rfl⟩, HBP.out, HN1.out⟩
  case round =>
    obtain ⟨i, ys, rfl, hi, HY, HB, HX⟩ := hrel
    by_cases hlt : i < N
    · have c1 : decide ((i : Int) < (N : Int)) = true := decide_eq_true (by omega)
      have c2 : (i : Int) < (N : Int) := by omega
      have c3 : (0 : Int) ≤ (i : Int) := by omega
      have c4 : decide (i < N) = true := decide_eq_true hlt
      have hil : i < l.length := by rw [HLN.out]; exact hlt
      have hiu : i < us.length := by rw [HL5.out.1]; exact hil
      have hu := HL5.out.2 i hiu hil
      obtain ⟨ga, offa, rfl, hga, hca⟩ := (HL3.out.nx HX.out) (by omega)
      have hca0 := hca i hiu
      obtain ⟨u, hu0⟩ : ∃ u, us[i] = u := ⟨_, rfl⟩
      rw [hu0] at hu hca0
      obtain ⟨U, hU0⟩ : ∃ U, l[i] = U := ⟨_, rfl⟩
      rw [hU0] at hu
      have hlu : leafOk U := hU0 ▸ HOK.out _ (List.getElem_mem _)
      have huo := OkS.of hu hlu
      have HU : Hid (RdV n w u U ∧ leafOk U ∧ OkS u ∧ ∃ h : i < l.length, l[i] = U) := ⟨hu, hlu, huo.1, hil, hU0⟩
      have HNM : Hid (∀ wx, Nx w wx → Calls Try.prog 5 #[.agg (valA u)] wx fun e w' => ∃ y, e = .returned (.tuple #[.agg (valA y), .int .i64 0]) ∧ RdV n w' y U ∧ IsSlv y.l ∧ IsSlv y.ids ∧ Nx wx w') := fun wx hw => by
        have hb : bareV U := by
          obtain ⟨k, a, s, l', d⟩ := U
          exact hlu.2.2
        exact norml_any n wx u U (hu.nx hw) hb (intK_lt huo.1.2.2.2.1).1 (intK_lt huo.1.2.2.2.1).2.2.2 (intK_lt huo.1.2.2.2.1).2.1
      obtain ⟨⟨ulA, ulu, ulc, hul⟩, ⟨udA, udu, udc, hud⟩⟩ := hu.slv
      obtain ⟨uk, un, us', ul, ud⟩ := u
      dsimp only at hul hud
      subst hul hud
      rw [valA_agg] at HNM
      have x0 := hca0 0 (by decide)
      have x1 := hca0 1 (by decide)
      have x2 := hca0 2 (by decide)
      have x3 := hca0 3 (by decide)
      have x4 := hca0 4 (by decide)
      simp only [valA, Nat.add_zero, List.getElem?_toArray, List.getElem?_cons_zero, List.getElem?_cons_succ] at x0 x1 x2 x3 x4
      obtain ⟨g1, hg1⟩ : ∃ g, wr.heap.size = g := ⟨_, rfl⟩
      obtain ⟨w2, hw2⟩ : ∃ x, wr.alloc (.cells #[.int .i64 (uk : Int), .int .i64 un, .string ⟨us'.toArray⟩, .slice ulA ulu ulc, .slice udA udu udc] 29) = x := ⟨_, rfl⟩
      have hb1 : Blk w2 g1 g1 #[.int .i64 (uk : Int), .int .i64 un, .string ⟨us'.toArray⟩, .slice ulA ulu ulc, .slice udA udu udc] 29 := by rw [← hw2, ← hg1]; exact Blk.new wr _ _
      have hn2 : Nx wr w2 := by rw [← hw2]; exact nx0 _ _
      have HB2 := Lib.hid (HB.out.below hn2)
      have HN2 := Lib.hid (HX.out.trans hn2)
      have b0 : w2.cell? ⟨g1, 0, none⟩ = some (.int .i64 (uk : Int)) := hb1.cell 0
      have b1 : w2.cell? ⟨g1, 1, none⟩ = some (.int .i64 un) := hb1.cell 1
      have b2 : w2.cell? ⟨g1, 2, none⟩ = some (.string ⟨us'.toArray⟩) := hb1.cell 2
      have b3 : w2.cell? ⟨g1, 3, none⟩ = some (.slice ulA ulu ulc) := hb1.cell 3
      have b4 : w2.cell? ⟨g1, 4, none⟩ = some (.slice udA udu udc) := hb1.cell 4
      have HW2 := Lib.hid hw2
      have HG1 := Lib.hid hg1
      have HLT := Lib.hid hlt
      clear hca0 hu hw2 hg1 hlt hil hiu hu0 hca hU0 hlu huo hb1 hn2
      go_upto_region 5 with (fail)
      rw [HW2.out, HG1.out]
      clear HW2 HG1 x0 x1 x2 x3 x4
      go_wp2_with fail
      refine (HNM.out w2 HN2.out).mono ?_
      rintro e w3 ⟨⟨yk, yn, ys', yl, yd⟩, rfl, hy, ⟨mA, mu, mc, rfl⟩, ⟨eA, eu, ec, rfl⟩, hn3⟩
      have hyo := OkS.of hy HU.out.2.1
      have HYO := Lib.hid hyo
      rw [valA_agg]
      have HB3 := Lib.hid (HB2.out.below hn3)
      have HN3 := Lib.hid (HN2.out.trans hn3)
      clear b0 b1 b2 b3 b4 hn3 hy hyo HNM
      obtain ⟨g3, hg3⟩ : ∃ g, w3.heap.size = g := ⟨_, rfl⟩
      obtain ⟨w4, hw4⟩ : ∃ x, w3.alloc (.cells #[.int .i64 (yk : Int), .int .i64 yn, .string ⟨ys'.toArray⟩, .slice mA mu mc, .slice eA eu ec] 29) = x := ⟨_, rfl⟩
      have hb3 : Blk w4 g3 g3 #[.int .i64 (yk : Int), .int .i64 yn, .string ⟨ys'.toArray⟩, .slice mA mu mc, .slice eA eu ec] 29 := by rw [← hw4, ← hg3]; exact Blk.new w3 _ _
      have hn4 : Nx w3 w4 := by rw [← hw4]; exact nx0 _ _
      have hne : ¬ g3 = gp := by rw [← hg3]; have := HB3.out.lt; omega
      have HB4 := Lib.hid (HB3.out.below hn4)
      have HN4 := Lib.hid (HN3.out.trans hn4)
      have b0 : w4.cell? ⟨g3, 0, none⟩ = some (.int .i64 (yk : Int)) := hb3.cell 0
      have b1 : w4.cell? ⟨g3, 1, none⟩ = some (.int .i64 yn) := hb3.cell 1
      have b2 : w4.cell? ⟨g3, 2, none⟩ = some (.string ⟨ys'.toArray⟩) := hb3.cell 2
      have b3 : w4.cell? ⟨g3, 3, none⟩ = some (.slice mA mu mc) := hb3.cell 3
      have b4 : w4.cell? ⟨g3, 4, none⟩ = some (.slice eA eu ec) := hb3.cell 4
      have HW4 := Lib.hid hw4
      have HG3 := Lib.hid hg3
      clear hw4 hg3 hb3 hn4
      go_upto_region 6 with (fail)
      rw [HW4.out, HG3.out]
      clear HW4 HG3
      have hlen : i < (ys ++ List.replicate (N - i) zeroS).length := by rw [List.length_append, HY.out.1, List.length_replicate]; have := HLT.out; omega
      have z0 : ∃ z, w4.cell? ⟨gp, i * 5, none⟩ = some z := ⟨_, HB4.out.rcell hlen (j := 0) (by decide)⟩
      have z1 : ∃ z, w4.cell? ⟨gp, i * 5 + 1, none⟩ = some z := ⟨_, HB4.out.rcell hlen (j := 1) (by decide)⟩
      have z2 : ∃ z, w4.cell? ⟨gp, i * 5 + 2, none⟩ = some z := ⟨_, HB4.out.rcell hlen (j := 2) (by decide)⟩
      have z3 : ∃ z, w4.cell? ⟨gp, i * 5 + 3, none⟩ = some z := ⟨_, HB4.out.rcell hlen (j := 3) (by decide)⟩
      have z4 : ∃ z, w4.cell? ⟨gp, i * 5 + 4, none⟩ = some z := ⟨_, HB4.out.rcell hlen (j := 4) (by decide)⟩
      obtain ⟨q0, z0⟩ := z0
      obtain ⟨q1, z1⟩ := z1
      obtain ⟨q2, z2⟩ := z2
      obtain ⟨q3, z3⟩ := z3
      obtain ⟨q4, z4⟩ := z4
      have r0 := HB4.out.free (i * 5)
      have r1 := HB4.out.free (i * 5 + 1)
      have r2 := HB4.out.free (i * 5 + 2)
      have r3 := HB4.out.free (i * 5 + 3)
      have r4 := HB4.out.free (i * 5 + 4)
      have HLE := Lib.hid hlen
      clear hlen
      go_wp2_with fail
      have HPUT : Hid (Blk (wputs w4 gp (i * 5) [.int .i64 (yk : Int), .int .i64 yn, .string ⟨ys'.toArray⟩, .slice mA mu mc, .slice eA eu ec]) w.heap.size gp (rowL valA ((ys ++ List.replicate (N - i) zeroS).set i ⟨yk, yn, ys', .slice mA mu mc, .slice eA eu ec⟩)).toArray 29) := HB4.out.row HLE.out ⟨yk, yn, ys', .slice mA mu mc, .slice eA eu ec⟩
      have HNX : Hid (Nx w (wputs w4 gp (i * 5) [.int .i64 (yk : Int), .int .i64 yn, .string ⟨ys'.toArray⟩, .slice mA mu mc, .slice eA eu ec])) := Nx.puts HB4.out.1 [.int .i64 (yk : Int), .int .i64 yn, .string ⟨ys'.toArray⟩, .slice mA mu mc, .slice eA eu ec] (i * 5) HN4.out
      have HST : Hid ((ys ++ List.replicate (N - i) zeroS).set i ⟨yk, yn, ys', .slice mA mu mc, .slice eA eu ec⟩ = (ys ++ [⟨yk, yn, ys', .slice mA mu mc, .slice eA eu ec⟩]) ++ List.replicate (N - (i + 1)) zeroS) := by
        unfold Hid
        obtain ⟨m, hm⟩ : ∃ m, N - i = m + 1 := ⟨N - i - 1, by have := HLT.out; omega⟩
        rw [hm, show N - (i + 1) = m by omega, List.set_append, if_neg (by rw [HY.out.1]; omega), HY.out.1, Nat.sub_self, List.replicate_succ, List.set_cons_zero]
        simp
      rw [HST.out] at HPUT
      go_roundw
      case rel =>
        refine ⟨i + 1, ys ++ [(⟨yk, yn, ys', .slice mA mu mc, .slice eA eu ec⟩ : ValS)], by go_num, HLT.out, ⟨by rw [List.length_append, HY.out.1]; rfl, fun y hy => ?_, ?_⟩, HPUT.out, HNX.out⟩
        · rcases List.mem_append.1 hy with hy | hy
          · exact HY.out.2.1 y hy
          · rw [List.mem_singleton.1 hy]; exact HYO.out.1
        · obtain ⟨-, -, -, h, e⟩ := HU.out
          rw [List.map_append, HY.out.2.2, List.map_cons, List.map_nil, HYO.out.2, List.take_succ_eq_append_getElem h, e]
      case measure => have := HLT.out; simp [intOf]; omega
    · have c1 : decide ((i : Int) < (N : Int)) = false := decide_eq_false (by omega)
      have c2 : ¬ (i : Int) < (N : Int) := by omega
      have c4 : decide (i < N) = false := decide_eq_false hlt
      obtain rfl : i = N := by omega
      clear hlt
      go_wp2_with fail
      go_ret2
      have hb := HB.out
      rw [Nat.sub_self, List.replicate_zero, List.append_nil] at hb
      exact ⟨gp, rfl, ys, hb, HY.out.2.1, by rw [HY.out.2.2, List.take_of_length_le (by rw [HLN.out]; exact Nat.le_refl _)], HX.out⟩
end Go.Proofs.Ytjeadmndnbggmaa
