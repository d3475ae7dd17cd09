/- The walk of FieldOrders. -/
import Derived.Test.YtpfecpcgdfbekaaFdH
set_option linter.unusedVariables false
set_option linter.unusedSimpArgs false
namespace Go.Proofs.Ytpfecpcgdfbekaa
open Go.RowKit

def sawL (o : List Nat) : List Value := (List.range 20).map fun k => .bool (decide (k ∈ o))
theorem saw_set (o : List Nat) (i : Nat) (hi : i < o.length) (h : o[i] < 20) : ((sawL (o.take i)).toArray).setIfInBounds o[i] (.bool true) = (sawL (o.take (i + 1))).toArray := by
  apply Array.ext_getElem?
  intro k
  rw [Array.getElem?_setIfInBounds]
  have hz : (sawL (o.take i)).toArray.size = 20 := by simp [sawL]
  rw [hz]
  by_cases hk : k < 20
  · have e : ∀ p, (sawL p).toArray[k]? = some (.bool (decide (k ∈ p))) := fun p => by simp [sawL, hk]
    rw [e, e]
    have ht : o.take (i + 1) = o.take i ++ [o[i]] := List.take_succ_eq_append_getElem hi
    rw [ht]
    by_cases hk2 : o[i] = k
    · rw [if_pos hk2, if_pos (by omega)]
      subst hk2
      rw [decide_eq_true (List.mem_append_right _ (List.mem_singleton.2 rfl))]
    · rw [if_neg hk2]
      have hne : ¬ k = o[i] := fun e => hk2 e.symm
      simp only [List.mem_append, List.mem_singleton, hne, or_false]
  · have e : ∀ p, (sawL p).toArray[k]? = none := fun p => by simp [sawL]; omega
    rw [e, e, if_neg (by omega)]
set_option maxRecDepth 100000 in
set_option maxHeartbeats 6400000 in
theorem FieldOrders_walk (a : Option Addr) (z : List Int) (cap : Nat) (w : World) (hr : Rd (Value.int .i8) w a z) (hl : z.length ≤ cap) (hm : cap ≤ maxLen) (hwf : ∀ n ∈ z, (Lit.int .i8 n).wf = true) :
    Calls Try.prog 6 #[.slice a z.length cap] w fun e w' => e = .returned (.bool true) ∧ Below w.heap.size w w' := by
  have HBG := Lib.hid (fdbegun_any w)
  have HR := Lib.hid hr
  have HWF := Lib.hid hwf
  obtain ⟨n, hn⟩ : ∃ n, z.length = n := ⟨_, rfl⟩
  have HN := Lib.hid hn
  rw [hn] at hl ⊢
  clear hr hwf hn
  go_enter Try.func6, Try.ntmps6
  go_wp2_with fail
  refine HBG.out.mono ?_; rintro e w1 ⟨rfl, hn1⟩
  have HN1 := Lib.hid hn1
  clear hn1 HBG
  by_cases h20 : 20 < n
  · have q1 : decide ((20 : Int) < (n : Int)) = true := decide_eq_true (by omega)
    have q2 : (20 : Int) < (n : Int) := by omega
    have q3 : decide (20 < n) = true := decide_eq_true h20
    go_wp2_with fail
    go_ret
    exact ⟨rfl, HN1.out⟩
  have q1 : decide ((20 : Int) < (n : Int)) = false := decide_eq_false (by omega)
  have q2 : ¬ (20 : Int) < (n : Int) := by omega
  have q3 : decide (20 < n) = false := decide_eq_false h20
  have hn20 : (n : Int) ≤ 20 := by omega
  have HN20 : Hid (n ≤ 20) := by unfold Hid; omega
  clear hl hm
  go_wp2_with fail
  clear q1 q2 q3 h20
  go_loopw [3, 4] (fun v3 v4 wr => ∃ i : Nat, v4 = .int .i64 (i : Int) ∧ i ≤ n ∧ Hid (Own iv 3 wr w1.heap.size v3 (z.take i)) ∧ Hid (Nx w1 wr)) (fun _ v _ => (n - intOf v).toNat)
  case atStart => exact ⟨0, rfl, Nat.zero_le _, Own.nil_, Nx.refl _⟩
  case round =>
    obtain ⟨i, rfl, hi, HO, HX⟩ := hrel
    obtain ⟨A2, m2, hv, -, -, -⟩ := HO.out.sl
    rw [hv] at HO
    subst hv
    have hlt2 : (z.take i).length = i := by rw [List.length_take, HN.out]; omega
    rw [hlt2] at HO
    rw [hlt2]
    by_cases hlt : i < n
    · have q1 : decide ((i : Int) < (n : Int)) = true := decide_eq_true (by omega)
      have q2 : (i : Int) < (n : Int) := by omega
      have q3 : (0 : Int) ≤ (i : Int) := by omega
      have hiz : i < z.length := by rw [HN.out]; exact hlt
      obtain ⟨x, hx⟩ : ∃ x, z[i] = x := ⟨_, rfl⟩
      obtain ⟨g, off, rfl, hg, hc⟩ := (HR.out.below (HN1.out.trans HX.out)).at_ hiz
      rw [hx] at hc
      have hwx : -128 ≤ x ∧ x ≤ 127 := by
        have := HWF.out x (hx ▸ List.getElem_mem hiz)
        simp [Lit.wf, IntKind.min, IntKind.max, IntKind.signed, IntKind.bits] at this
        omega
      have hw64 : IntKind.i64.wrap x = x := by rw [IntKind.wrap_i64]; omega
      have HLT := Lib.hid hlt
      have HTK : Hid (z.take i ++ [x] = z.take (i + 1)) := by unfold Hid; rw [List.take_succ_eq_append_getElem hiz, hx]
      have hlen9 : ((z.take i).length : Int) ≤ 20 := by omega
      have hw1 : w1.heap.size ≤ wr.heap.size := HX.out.size
      have HW1 := Lib.hid hw1
      clear hg hx hiz hlt hlt2 hlen9 hw1
      go_wp2_with (at_builtin; go_must (refine wpList_app (f := iv) _ elI rfl _ _ rfl (fun _ => rfl) w1.heap.size _ _ [x] rfl (HO.out.alloc _) _ _ rfl (Rd.one rfl rfl) (by simp [maxLen]; omega) (by simp; omega) (by simp; have := HW1.out; omega) ?_; intro v' w6 hown6 hbel6))
      have hb56 : Nx w1 w6 := (HX.out.alloc HW1.out _).trans hbel6
      rw [HTK.out] at hown6
      have HO6 := Lib.hid hown6
      have HX6 := Lib.hid hb56
      clear hown6 hbel6 hb56 hc
      go_roundw
      case rel => exact ⟨i + 1, by go_num, HLT.out, HO6.out, HX6.out⟩
      case measure => have := HLT.out; simp [intOf]; omega
    · have q1 : decide ((i : Int) < (n : Int)) = false := decide_eq_false (by omega)
      have q2 : ¬ (i : Int) < (n : Int) := by omega
      obtain rfl : i = n := by omega
      rw [List.take_of_length_le (by rw [HN.out]; exact Nat.le_refl _)] at HO
      obtain ⟨A3, m3, e3, hm3, hm4, hr3⟩ := HO.out.sl
      rw [HN.out] at e3 hm3
      have hA : A3 = A2 := by injection e3 with h1 h2 h3; exact h1.symm
      have hm : m3 = m2 := by injection e3 with h1 h2 h3; exact h3.symm
      subst hA hm
      have HR3 := Lib.hid hr3
      have HC : Hid (Calls Try.prog 11 #[.slice A3 i m3] wr fun e w' => ∃ gr o, e = .returned (.slice (some ⟨gr, 0, none⟩) i i) ∧ Ord (fun k => z.getD k 0) i o ∧ Blk w' wr.heap.size gr ((o.map nv).toArray) 3 ∧ Nx wr w') := by
        have := Order_any wr A3 m3 z hr3 (by rw [HN.out]; exact HN20.out) (by rw [HN.out]; exact hm3) hm4
        unfold OrdR at this
        rw [HN.out] at this
        exact this
      clear hr3 e3 hm3 hm4 hlt hlt2
      go_wp2_with fail
      refine HC.out.mono ?_; rintro e w2 ⟨gr, o, rfl, ho, hb, hn2⟩
      have HOR := Lib.hid ho
      have b1 : ((i : Int) != (i : Int)) = false := by simp
      obtain ⟨gs, hgs⟩ : ∃ g, w2.heap.size = g := ⟨_, rfl⟩
      obtain ⟨w3, hw3⟩ : ∃ x, w2.alloc (.cells #[.bool false, .bool false, .bool false, .bool false, .bool false, .bool false, .bool false, .bool false, .bool false, .bool false, .bool false, .bool false, .bool false, .bool false, .bool false, .bool false, .bool false, .bool false, .bool false, .bool false] 46) = x := ⟨_, rfl⟩
      have hb3 : Blk w3 gs gs (sawL []).toArray 46 := by rw [← hw3, ← hgs]; exact Blk.new w2 _ _
      have hn3 : Nx w2 w3 := by rw [← hw3]; exact nx0 w2 _
      have HB3 := Lib.hid hb3
      have HBR := Lib.hid (hb.below hn3)
      have HN3 := Lib.hid (HX.out.trans (hn2.trans hn3))
      have HRD := Lib.hid (HR3.out.below hn2)
      have HN23 := Lib.hid hn3
      have HW12 : Hid (w1.heap.size ≤ gs) := by unfold Hid; rw [← hgs]; exact Nat.le_trans HX.out.size hn2.size
      have HGS : Hid (gr < gs ∧ w2.heap.size = gs) := ⟨by rw [← hgs]; exact hb.lt, hgs⟩
      clear ho hb hb3 hn2 hn3 HC
      go_wp2_with fail
      clear hw3 hgs
      go_loopw [7] (fun v wr => ∃ k : Nat, v = .int .i64 (k : Int) ∧ k ≤ i ∧ Hid (Blk wr gs gs (sawL (o.take k)).toArray 46) ∧ Hid (Oth gs w3 wr)) (fun v _ => (i - intOf v).toNat)
      case atStart => exact ⟨0, rfl, Nat.zero_le _, HB3.out, Oth.refl _ _⟩
      case round =>
        obtain ⟨k, rfl, hk, HS, HT⟩ := hrel
        have hol : o.length = i := HOR.out.len
        by_cases hlt3 : k < i
        · have q3 : decide ((k : Int) < (i : Int)) = true := decide_eq_true (by omega)
          have q4 : (k : Int) < (i : Int) := by omega
          have q5 : (0 : Int) ≤ (k : Int) := by omega
          have hko : k < o.length := by rw [hol]; exact hlt3
          obtain ⟨x, hx⟩ : ∃ x, o[k] = x := ⟨_, rfl⟩
          have hxi : x < i := by rw [← hx]; exact HOR.out.get hko
          have hbr := HT.out.blk HBR.out (by have := HGS.out.1; omega)
          have cr : wr.cell? ⟨gr, k, none⟩ = some (.int .i64 (x : Int)) := by rw [hbr.cell k]; simp [hko, nv, hx]
          have cs : wr.cell? ⟨gs, x, none⟩ = some (.bool false) := by
            rw [HS.out.cell x]
            have : x ∉ o.take k := fun hm => by
              obtain ⟨j, hj, e⟩ := List.mem_take_iff_getElem.1 hm
              exact HOR.out.ne (show j < o.length by omega) hko (by omega) (by rw [e, hx])
            have hx20 : x < 20 := by have := HN20.out; omega
            simp [sawL, hx20, this]
          have fs := HS.out.free x
          have x0 : (0 : Int) ≤ (x : Int) := by omega
          have x1 : (x : Int) < 20 := by have := HN20.out; omega
          have d2 : decide ((i : Int) ≤ (x : Int)) = false := decide_eq_false (by omega)
          have d3 : ¬ (i : Int) ≤ (x : Int) := by omega
          have d4 : decide (i ≤ x) = false := decide_eq_false (by omega)
          have d5 : ¬ i ≤ x := by omega
          have d6 : decide ((x : Int) < 0) = false := decide_eq_false (by omega)
          have d7 : ¬ (x : Int) < 0 := by omega
          have hxs : ∃ w5, wr.setCell ⟨gs, x, none⟩ (.bool true) = w5 ∧ Hid (Blk w5 gs gs (sawL (o.take (k + 1))).toArray 46) ∧ Hid (Oth gs w3 w5) := ⟨_, rfl, by
            have h := HS.out.put x (.bool true)
            have h2 := saw_set o k hko (by rw [hx]; have := HN20.out; omega)
            rw [hx] at h2
            rw [h2] at h
            exact h, HT.out.own⟩
          obtain ⟨w5, hw5, HS5, HT5⟩ := hxs
          have HLT3 := Lib.hid hlt3
          have HXI : Hid (o[k]? = some x) := by unfold Hid; rw [List.getElem?_eq_getElem hko, hx]
          clear hx hko hxi hol hbr hlt3
          go_upto_region 20 with (fail)
          try rw [hw5]
          clear cr cs fs hw5 d2 d3 d4 d5 d6 d7
          by_cases hk0 : 0 < k
          · have k1 : decide ((0 : Int) < (k : Int)) = true := decide_eq_true (by omega)
            have k2 : (0 : Int) < (k : Int) := by omega
            have k3 : decide (0 < k) = true := decide_eq_true hk0
            obtain ⟨kp, hkp⟩ : ∃ kp : Nat, kp + 1 = k := ⟨k - 1, by omega⟩
            have kpi : (k : Int) - 1 = (kp : Int) := by omega
            have kp0 : (0 : Int) ≤ (kp : Int) := by omega
            have kp1 : (kp : Int) < (i : Int) := by omega
            have hol : o.length = i := HOR.out.len
            have hpo : kp < o.length := by omega
            have hko : k < o.length := by have := HLT3.out; omega
            have hxx : o[k] = x := by have := HXI.out; rw [List.getElem?_eq_getElem hko] at this; exact Option.some.inj this
            obtain ⟨p, hp⟩ : ∃ p, o[kp] = p := ⟨_, rfl⟩
            have hpi : p < i := by rw [← hp]; exact HOR.out.get hpo
            have hxi : x < i := by rw [← hxx]; exact HOR.out.get hko
            have hrise : lx (fun q => z.getD q 0) p x := by
              have := HOR.out.rise (i := kp) (by omega)
              simp only [hkp] at this
              rw [hp, hxx] at this
              exact this
            have hbr := HT5.out.blk HBR.out (by have := HGS.out.1; omega)
            have cr : w5.cell? ⟨gr, k, none⟩ = some (.int .i64 (x : Int)) := by rw [hbr.cell k]; simp [hko, nv, hxx]
            have cp : w5.cell? ⟨gr, kp, none⟩ = some (.int .i64 (p : Int)) := by rw [hbr.cell kp]; simp [hpo, nv, hp]
            obtain ⟨gz, oz, rfl, hgz, hcz⟩ := (rd_oth HRD.out (HT5.out.mono HN23.out) (by rw [HGS.out.2]; exact Nat.le_refl _)) (by rw [HN.out]; omega)
            obtain ⟨X, hX⟩ : ∃ X, z.getD p 0 = X := ⟨_, rfl⟩
            obtain ⟨Y, hY⟩ : ∃ Y, z.getD x 0 = Y := ⟨_, rfl⟩
            have hpz : p < z.length := by rw [HN.out]; exact hpi
            have hxz : x < z.length := by rw [HN.out]; exact hxi
            have zp : w5.cell? ⟨gz, oz + p, none⟩ = some (.int .i64 X) := by rw [hcz p hpz, ← hX]; simp [iv, List.getD, hpz]
            have zx : w5.cell? ⟨gz, oz + x, none⟩ = some (.int .i64 Y) := by rw [hcz x hxz, ← hY]; simp [iv, List.getD, hxz]
            have p0 : (0 : Int) ≤ (p : Int) := by omega
            have p1 : (p : Int) < (i : Int) := by omega
            have x2 : (x : Int) < (i : Int) := by omega
            unfold lx at hrise
            dsimp only at hrise
            rw [hX, hY] at hrise
            clear hcz hX hY hpz hxz hpi hxi hbr hp hxx hko hpo hol hgz hkp
            rcases hrise with hr | ⟨hr, hpx⟩
            · have e1 : decide (Y < X) = false := decide_eq_false (by omega)
              have e2 : (X == Y) = false := by rw [beq_eq_false_iff_ne]; omega
              have e3 : ¬ X = Y := by omega
              have e4 : ¬ Y < X := by omega
              clear hr
              go_wp2_with fail
              go_quiet (fail)
              go_wp2_with fail
              go_roundw
              case rel => exact ⟨k + 1, by go_num, HLT3.out, HS5.out.drew _, HT5.out.trans ⟨rfl, rfl, rfl, Nat.le_refl _, fun _ _ _ => rfl⟩⟩
              case measure => have := HLT3.out; simp [intOf]; omega
            · subst hr
              have e1 : decide (X < X) = false := decide_eq_false (by omega)
              have e2 : (X == X) = true := by simp
              have e4 : ¬ X < X := by omega
              have e5 : decide ((x : Int) < (p : Int)) = false := decide_eq_false (by omega)
              have e6 : ¬ (x : Int) < (p : Int) := by omega
              have e7 : decide (x < p) = false := decide_eq_false (by omega)
              have e8 : ¬ x < p := by omega
              clear hpx
              go_wp2_with fail
              go_quiet (fail)
              go_wp2_with fail
              go_roundw
              case rel => exact ⟨k + 1, by go_num, HLT3.out, HS5.out.drew _, HT5.out.trans ⟨rfl, rfl, rfl, Nat.le_refl _, fun _ _ _ => rfl⟩⟩
              case measure => have := HLT3.out; simp [intOf]; omega
          · have k1 : decide ((0 : Int) < (k : Int)) = false := decide_eq_false (by omega)
            have k2 : ¬ (0 : Int) < (k : Int) := by omega
            have k3 : decide (0 < k) = false := decide_eq_false hk0
            go_wp2_with fail
            go_quiet (fail)
            go_wp2_with fail
            go_roundw
            case rel => exact ⟨k + 1, by go_num, HLT3.out, HS5.out.drew _, HT5.out.trans ⟨rfl, rfl, rfl, Nat.le_refl _, fun _ _ _ => rfl⟩⟩
            case measure => have := HLT3.out; simp [intOf]; omega
        · have q3 : decide ((k : Int) < (i : Int)) = false := decide_eq_false (by omega)
          have q4 : ¬ (k : Int) < (i : Int) := by omega
          clear hol
          go_wp2_with fail
          go_ret
          exact ⟨rfl, HN1.out.trans (HT.out.to HN3.out HW12.out)⟩
end Go.Proofs.Ytpfecpcgdfbekaa
