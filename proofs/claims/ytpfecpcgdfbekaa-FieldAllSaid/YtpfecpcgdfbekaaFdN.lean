/- The document's answer: the order of numbers. -/
import Derived.Test.YtpfecpcgdfbekaaFdR
import Derived.Deep.Light
set_option linter.unusedVariables false
set_option linter.unusedSimpArgs false
namespace Go.Proofs.Ytpfecpcgdfbekaa
open Go.RowKit

/-- what the document's Order hands back -/
def ROrd (n : Nat) (vs : List Int) (w : World) (e : Ending) (w' : World) : Prop := ∃ A c o, e = .returned (.slice A n c) ∧ Ord (fun i => vs.getD i 0) n o ∧ Rd nv w' A o ∧ Nx w w'
theorem Ord.insK {v : Nat → Int} {n k : Nat} {o : List Nat} (h : Ord v n o) (ha : ∀ m (h : m < o.length), m < k → v o[m] ≤ v n) (hb : ∀ (h : k < o.length), v n < v o[k]) : Ord v (n + 1) (o.take k ++ [n] ++ o.drop k) := by
  have h2 : Ord v n (o.take k ++ o.drop k) := by rw [List.take_append_drop]; exact h
  have := h2.ins (fun x hx => by
      obtain ⟨m, hm, rfl⟩ := List.mem_take_iff_getElem.1 hx
      exact ha m (by omega) (by omega)) (fun x hx => by
      by_cases hk : k < o.length
      · have hd := List.drop_eq_getElem_cons hk
        rw [hd] at hx h2
        exact h2.first (hb hk) x hx
      · rw [List.drop_of_length_le (by omega)] at hx; cases hx)
  simpa using this
set_option maxRecDepth 100000 in
set_option maxHeartbeats 12800000 in
theorem rord_any (w : World) (A : Option Addr) (c : Nat) (vs : List Int) (hr : Rd iv w A vs) (hn : vs.length ≤ 20) (hc1 : vs.length ≤ c) (hc2 : c ≤ maxLen) :
    Calls Try.prog 12 #[.slice A vs.length c] w fun e w' => ROrd vs.length vs w e w' := by
  obtain ⟨n, hN⟩ : ∃ n, vs.length = n := ⟨_, rfl⟩
  rw [hN] at hn hc1 ⊢
  have HN := Lib.hid hN
  have HR := Lib.hid hr
  have hni : (n : Int) ≤ 20 := by omega
  have HN20 := Lib.hid hn
  clear hr hN hn hc1 hc2
  go_enter Try.func12, Try.ntmps12
  go_wp2_with fail
  go_loopw [3, 4] (fun v3 v4 wr => ∃ (i : Nat) (o : List Nat), v4 = .int .i64 (i : Int) ∧ i ≤ n ∧ Hid (Ord (fun j => vs.getD j 0) i o) ∧ Hid (Own nv 3 wr w.heap.size v3 o) ∧ Hid (Nx w wr)) (fun _ v _ => (n - intOf v).toNat)
  case atStart => exact ⟨0, [], rfl, Nat.zero_le _, Ord.nil_ _, Own.nil_, Nx.refl _⟩
  case round =>
    obtain ⟨i, o, rfl, hi, HOR, HO, HX⟩ := hrel
    obtain ⟨A3, c3, rfl, hc3, -, hro⟩ := HO.out.sl
    have HRI := Lib.hid hro
    have HOC := Lib.hid hc3
    have HOL : Hid (o.length = i) := HOR.out.len
    clear hro hc3
    by_cases hlt : i < n
    · have q1 : decide ((i : Int) < (n : Int)) = true := decide_eq_true (by omega)
      have q2 : (i : Int) < (n : Int) := by omega
      have q3 : (0 : Int) ≤ (i : Int) := by omega
      have HLT := Lib.hid hlt
      have HI20 : Hid (i < 20) := by unfold Hid; have := HN20.out; omega
      rw [HOL.out]
      clear hlt
      go_wp2_with fail
      go_loopw [5] (fun v wq => ∃ k : Nat, v = .int .i64 (k : Int) ∧ k ≤ i ∧ Hid (∀ m (h : m < o.length), m < k → vs.getD o[m] 0 ≤ vs.getD i 0) ∧ Hid (Nx wr wq)) (fun v _ => (i - intOf v).toNat)
      case atStart => exact ⟨0, rfl, Nat.zero_le _, fun m _ h => absurd h (by omega), Nx.refl _⟩
      case round =>
        obtain ⟨k, rfl, hk, HM, HQ⟩ := hrel
        have HK := Lib.hid hk
        by_cases hki : k < i
        · have k1 : decide ((k : Int) < (i : Int)) = true := decide_eq_true (by omega)
          have k2 : (k : Int) < (i : Int) := by omega
          have k3 : (0 : Int) ≤ (k : Int) := by omega
          have hko : k < o.length := by rw [HOL.out]; exact hki
          obtain ⟨p, hp⟩ : ∃ p, o[k] = p := ⟨_, rfl⟩
          have hpi : p < i := by rw [← hp]; exact HOR.out.get hko
          obtain ⟨g3, o3, rfl, hg3, cr⟩ := (HRI.out.below HQ.out).at_ hko
          rw [hp] at cr
          unfold nv at cr
          have hnn : 0 < vs.length := by rw [HN.out]; have := HLT.out; omega
          obtain ⟨g, off, rfl, hg, hcz⟩ := (HR.out.below (HX.out.trans HQ.out)) hnn
          obtain ⟨X, hX⟩ : ∃ X, vs.getD p 0 = X := ⟨_, rfl⟩
          obtain ⟨Y, hY⟩ : ∃ Y, vs.getD i 0 = Y := ⟨_, rfl⟩
          have hpz : p < vs.length := by rw [HN.out]; have := HLT.out; omega
          have hiz : i < vs.length := by rw [HN.out]; exact HLT.out
          have zp : wr.cell? ⟨g, off + p, none⟩ = some (.int .i64 X) := by rw [hcz p hpz, ← hX]; simp [iv, List.getD, hpz]
          have zi : wr.cell? ⟨g, off + i, none⟩ = some (.int .i64 Y) := by rw [hcz i hiz, ← hY]; simp [iv, List.getD, hiz]
          have p0 : (0 : Int) ≤ (p : Int) := by omega
          have p1 : (p : Int) < (n : Int) := by have := HLT.out; omega
          have HPV : Hid (vs.getD o[k] 0 = X ∧ vs.getD i 0 = Y) := ⟨by rw [hp]; exact hX, hY⟩
          by_cases hXY : X ≤ Y
          · have e1 : decide (X ≤ Y) = true := decide_eq_true hXY
            have HM2 : Hid (∀ m (h : m < o.length), m < k + 1 → vs.getD o[m] 0 ≤ vs.getD i 0) := fun m h h2 => by
              rcases Nat.lt_or_ge m k with h3 | h3
              · exact HM.out m h h3
              · obtain rfl : m = k := by omega
                rw [HPV.out.1, HPV.out.2]; exact hXY
            have HKI := Lib.hid hki
            have k4 : decide (k < i) = true := decide_eq_true hki
            clear HPV hp hpi hX hY hpz hiz hcz hnn hg hg3 hk hko
            go_wp2_with fail
            go_quiet (fail)
            go_wp2_with fail
            go_roundw
            case rel => exact ⟨k + 1, by go_num, HKI.out, HM2, HQ.out.dr _⟩
            case measure => have := HKI.out; simp [intOf]; omega
          · have e1 : decide (X ≤ Y) = false := decide_eq_false hXY
            have HIN : Hid (Ord (fun j => vs.getD j 0) (i + 1) (o.take k ++ [i] ++ o.drop k)) := HOR.out.insK HM.out (fun h => by
              show vs.getD i 0 < vs.getD o[k] 0
              rw [HPV.out.1, HPV.out.2]; omega)
            have k4 : decide (k < i) = true := decide_eq_true hki
            clear HPV hp hpi hX hY hpz hiz hcz hnn hg hg3 hk hko
            go_wp2_with fail
            go_quiet (fail)
            have HRO : Hid (Rd nv (wr.drewN nq) (some ⟨g3, o3, none⟩) o) := HRI.out.below (HQ.out.dr nq)
            have HX8 : Hid (Nx w (wr.drewN nq)) := HX.out.trans (HQ.out.dr nq)
            clear cr zp zi
            generalize wr.drewN nq = w8 at *
            have HKO : Hid (k ≤ o.length) := by unfold Hid; rw [HOL.out]; exact HK.out
            go_upto_region 8 with (fail)
            refine RI.wp_region_Y (fun ls x w' => ∃ cv ct, OrV (.slice (some ⟨g3, o3, none⟩) i c3) k i o w8 (fun j => ls.getD j false) x w' cv ct) rfl (by kernel_rfl) (by kernel_rfl) ?_ ?_ ?_
            · exact ⟨_, _, OrV.start _ k i o w8 _ rfl⟩
            · refine ⟨?_, ?_, ?_, ?_, ?_, ?_, ?_, ?_, ?_, ?_, ?_, ?_, ?_, trivial⟩
              · intro a x ls w' hS hsz hni hcl hin hout hd K hK
                obtain ⟨cv, ct, hS⟩ := hS
                have n0 : ls.getD 0 false = false := RI.off_of (by rw [hsz]; decide) hni
                have n4 : ls.getD 4 false = false := hcl.not 20 4 0 (by kernel_rfl) hni
                have n7 : ls.getD 7 false = false := hcl.not 20 7 0 (by kernel_rfl) hni
                have n11 : ls.getD 11 false = false := hcl.not 20 11 0 (by kernel_rfl) hni
                have := hK _ _ ⟨_, _, by rw [getD_updF (by rw [hsz]; decide)]; exact hS.set0 n0 n4 n7 n11⟩
                clear hin hout hd hcl hS hK
                go_simp
                exact this
              · intro a x ls w' hS hsz hni hcl hin hout hd K hK
                obtain ⟨cv, ct, hS⟩ := hS
                have n12 : ls.getD 12 false = false := hcl.not 20 12 1 (by kernel_rfl) hni
                have o1 : a.eval (.tmp 3) = .slice (some ⟨g3, o3, none⟩) i c3 := (hin 3 12 (by kernel_rfl) (show 3 < 45 by decide)).trans (hS.y12 n12)
                have := hK w' _ ⟨cv, ct, by rw [getD_updF (by rw [hsz]; decide)]; exact hS.set1⟩
                rw [← o1] at this
                exact this
              · intro a x ls w' hS hsz hni hcl hin hout hd K hK
                obtain ⟨cv, ct, hS⟩ := hS
                have o1 : a.eval (.tmp 5) = .int .i64 (k : Int) := hout 5 (by kernel_rfl)
                have := hK w' (.int .i64 (k : Int)) ⟨cv, ct, by rw [getD_updF (by rw [hsz]; decide)]; exact hS.set2⟩
                rw [← o1] at this
                exact this
              · intro a x ls w' hS hsz hni hcl hin hout hd K hK
                obtain ⟨cv, ct, hS⟩ := hS
                have i1 : a.eval (.tmp 33) = .slice (some ⟨g3, o3, none⟩) o.length c3 := by
                  rw [HOL.out]
                  exact (hin 33 1 (by kernel_rfl) (show 33 < 45 by decide)).trans (hS.y1 (hd ⟨1, .data⟩ (by simp) rfl))
                have i2 : a.eval (.tmp 34) = .int .i64 (k : Int) := (hin 34 2 (by kernel_rfl) (show 34 < 45 by decide)).trans (hS.y2 (hd ⟨2, .data⟩ (by simp) rfl))
                refine op_slI elI (.tmp 33) none (some (.tmp 34)) rfl _ o c3 i1 (HRO.out.below hS.nx) HOC.out 0 (k : Int) (.inl ⟨rfl, rfl⟩) (.inr ⟨.i64, _, rfl, i2⟩) (by omega) (by omega) (by have := HKO.out; omega) fun A' c' hr => ?_
                have hr2 : Rd nv w8 A' (o.take k) := (hr w8 HRO.out).cast (by simp)
                have := hK w' _ ⟨cv, ct, by rw [getD_updF (by rw [hsz]; decide)]; exact hS.set3 A' c' hr2⟩
                simpa using this
              · intro a x ls w' hS hsz hni hcl hin hout hd K hK
                obtain ⟨cv, ct, hS⟩ := hS
                have n4 : ls.getD 4 false = false := RI.off_of (by rw [hsz]; decide) hni
                have n7 : ls.getD 7 false = false := hcl.not 20 7 4 (by kernel_rfl) hni
                have n11 : ls.getD 11 false = false := hcl.not 20 11 4 (by kernel_rfl) hni
                have y0 := hd ⟨0, .data⟩ (by simp) rfl
                obtain ⟨e0, rfl⟩ := hS.o0 y0 n4
                obtain ⟨A', c', e3, hr3⟩ := hS.y3 (hd ⟨3, .data⟩ (by simp) rfl)
                have i0 : a.eval (.tmp 32) = cv := (hin 32 0 (by kernel_rfl) (show 32 < 45 by decide)).trans e0.symm
                have i1 : a.eval (.tmp 35) = .slice A' (o.take k).length c' := (hin 35 3 (by kernel_rfl) (show 35 < 45 by decide)).trans e3
                refine op_appI elI (.tmp 32) (.tmp 35) rfl w8.heap.size cv [] (o.take k) i0 hS.ob A' c' i1 (hr3.below hS.nx) (by have := HOL.out; simp; omega) (by decide) hS.nx.size fun v' w2 ho hb hk hbk => ?_
                exact hK w2 v' ⟨v', _, by rw [getD_updF (by rw [hsz]; decide)]; exact hS.set4 y0 n7 n11 (Below.trans (B := w8.heap.size) hS.nx hb) (by simpa using ho) hk hbk⟩
              · intro a x ls w' hS hsz hni hcl hin hout hd K hK
                obtain ⟨cv, ct, hS⟩ := hS
                have o1 : a.eval (.tmp 4) = .int .i64 (i : Int) := hout 4 (by kernel_rfl)
                have := hK w' (.int .i64 (i : Int)) ⟨cv, ct, by rw [getD_updF (by rw [hsz]; decide)]; exact hS.set5⟩
                rw [← o1] at this
                exact this
              · intro a x ls w' hS hsz hni hcl hin hout hd K hK
                obtain ⟨cv, ct, hS⟩ := hS
                have n6 : ls.getD 6 false = false := RI.off_of (by rw [hsz]; decide) hni
                have n7 : ls.getD 7 false = false := hcl.not 20 7 6 (by kernel_rfl) hni
                have q1 : a.tmps.getD 37 undef = .int .i64 (i : Int) := (hin 37 5 (by kernel_rfl) (show 37 < 45 by decide)).trans (hS.y5 (hd ⟨5, .data⟩ (by simp) rfl))
                have q2 := q1
                rw [Array.getD_eq_getD_getElem?] at q2
                have := hK _ _ ⟨_, _, by rw [getD_updF (by rw [hsz]; decide)]; exact hS.set6 n7⟩
                clear hin hout hd hcl hS hK
                go_simp
                exact this
              · intro a x ls w' hS hsz hni hcl hin hout hd K hK
                obtain ⟨cv, ct, hS⟩ := hS
                have n7 : ls.getD 7 false = false := RI.off_of (by rw [hsz]; decide) hni
                have n11 : ls.getD 11 false = false := hcl.not 20 11 7 (by kernel_rfl) hni
                have y4 := hd ⟨4, .data⟩ (by simp) rfl
                have y0 : ls.getD 0 false = true := hcl.reach 20 4 0 (by kernel_rfl) y4
                obtain ⟨e4, rfl⟩ := hS.o4 y4 n7
                obtain ⟨g, e6, hb6, -, -⟩ := hS.y6 (hd ⟨6, .data⟩ (by simp) rfl) n7
                have i0 : a.eval (.tmp 36) = cv := (hin 36 4 (by kernel_rfl) (show 36 < 45 by decide)).trans e4.symm
                have i1 : a.eval (.tmp 38) = .slice (some ⟨g, 0, none⟩) 1 1 := (hin 38 6 (by kernel_rfl) (show 38 < 45 by decide)).trans e6
                have hr6 : Rd nv w' (some ⟨g, 0, none⟩) [i] := fun _ => ⟨g, 0, rfl, hb6.lt, fun j hj => by
                  have hj : j < 1 := hj
                  obtain rfl : j = 0 := by omega
                  exact hb6.cell 0⟩
                refine op_appI elI (.tmp 36) (.tmp 38) rfl w8.heap.size cv (o.take k) [i] i0 hS.ob _ 1 i1 hr6 (by have := HOL.out; simp; omega) (by decide) hS.nx.size fun v' w2 ho hb hk hbk => ?_
                exact hK w2 v' ⟨v', _, by rw [getD_updF (by rw [hsz]; decide)]; exact hS.set7 y0 y4 n11 (Below.trans (B := w8.heap.size) hS.nx hb) ho hk hbk⟩
              · intro a x ls w' hS hsz hni hcl hin hout hd K hK
                obtain ⟨cv, ct, hS⟩ := hS
                have n12 : ls.getD 12 false = false := hcl.not 20 12 8 (by kernel_rfl) hni
                have o1 : a.eval (.tmp 3) = .slice (some ⟨g3, o3, none⟩) i c3 := (hin 3 12 (by kernel_rfl) (show 3 < 45 by decide)).trans (hS.y12 n12)
                have := hK w' _ ⟨cv, ct, by rw [getD_updF (by rw [hsz]; decide)]; exact hS.set8⟩
                rw [← o1] at this
                exact this
              · intro a x ls w' hS hsz hni hcl hin hout hd K hK
                obtain ⟨cv, ct, hS⟩ := hS
                have o1 : a.eval (.tmp 5) = .int .i64 (k : Int) := hout 5 (by kernel_rfl)
                have := hK w' (.int .i64 (k : Int)) ⟨cv, ct, by rw [getD_updF (by rw [hsz]; decide)]; exact hS.set9⟩
                rw [← o1] at this
                exact this
              · intro a x ls w' hS hsz hni hcl hin hout hd K hK
                obtain ⟨cv, ct, hS⟩ := hS
                have i1 : a.eval (.tmp 40) = .slice (some ⟨g3, o3, none⟩) o.length c3 := by
                  rw [HOL.out]
                  exact (hin 40 8 (by kernel_rfl) (show 40 < 45 by decide)).trans (hS.y8 (hd ⟨8, .data⟩ (by simp) rfl))
                have i2 : a.eval (.tmp 41) = .int .i64 (k : Int) := (hin 41 9 (by kernel_rfl) (show 41 < 45 by decide)).trans (hS.y9 (hd ⟨9, .data⟩ (by simp) rfl))
                refine op_slI elI (.tmp 40) (some (.tmp 41)) none rfl _ o c3 i1 (HRO.out.below hS.nx) HOC.out (k : Int) (o.length : Int) (.inr ⟨.i64, _, rfl, i2⟩) (.inl ⟨rfl, rfl⟩) (by omega) (by have := HKO.out; omega) (by omega) fun A' c' hr => ?_
                have hr2 : Rd nv w8 A' (o.drop k) := (hr w8 HRO.out).cast (by simp)
                have := hK w' _ ⟨cv, ct, by rw [getD_updF (by rw [hsz]; decide)]; exact hS.set10 A' c' hr2⟩
                simpa using this
              · intro a x ls w' hS hsz hni hcl hin hout hd K hK
                obtain ⟨cv, ct, hS⟩ := hS
                have n11 : ls.getD 11 false = false := RI.off_of (by rw [hsz]; decide) hni
                have n12 : ls.getD 12 false = false := hcl.not 20 12 11 (by kernel_rfl) hni
                have y7 := hd ⟨7, .data⟩ (by simp) rfl
                have y4 : ls.getD 4 false = true := hcl.reach 20 7 4 (by kernel_rfl) y7
                have y0 : ls.getD 0 false = true := hcl.reach 20 7 0 (by kernel_rfl) y7
                obtain ⟨e7, rfl⟩ := hS.o7 y7 n11
                obtain ⟨A', c', e3, hr3⟩ := hS.y10 (hd ⟨10, .data⟩ (by simp) rfl)
                have i0 : a.eval (.tmp 39) = cv := (hin 39 7 (by kernel_rfl) (show 39 < 45 by decide)).trans e7.symm
                have i1 : a.eval (.tmp 42) = .slice A' (o.drop k).length c' := (hin 42 10 (by kernel_rfl) (show 42 < 45 by decide)).trans e3
                refine op_appI elI (.tmp 39) (.tmp 42) rfl w8.heap.size cv (o.take k ++ [i]) (o.drop k) i0 hS.ob A' c' i1 (hr3.below hS.nx) (by have := HOL.out; simp; omega) (by decide) hS.nx.size fun v' w2 ho hb hk hbk => ?_
                exact hK w2 v' ⟨v', _, by rw [getD_updF (by rw [hsz]; decide)]; exact hS.set11 y0 y4 y7 n12 (Below.trans (B := w8.heap.size) hS.nx hb) ho hk hbk⟩
              · intro a x ls w' hS hsz hni hcl hin hout hd K hK
                obtain ⟨cv, ct, hS⟩ := hS
                have y11 := hd ⟨11, .data⟩ (by simp) rfl
                have o1 : a.eval (.tmp 43) = x 11 := hin 43 11 (by kernel_rfl) (show 43 < 45 by decide)
                have := hK w' (x 11) ⟨cv, ct, by rw [getD_updF (by rw [hsz]; decide)]; exact hS.set12 y11⟩
                rw [← o1] at this
                exact this
            · intro A' x ls w' hS hall hin hout hA
              obtain ⟨cv, ct, hS⟩ := hS
              obtain ⟨e11, rfl⟩ := hS.o11 (hall 11 (by decide))
              have e12 := hS.z12 (hall 12 (by decide))
              rw [← e11] at e12
              have HO9 := Lib.hid hS.ob
              have HN9 := Lib.hid hS.nx
              have hA2 := hA.out
              clear hA hin hout hall hS
              subst hA2
              simp only [RI.setAll, List.set_cons_succ, List.set_cons_zero]
              rw [e12]
              go_wp2_with fail
              go_roundw
              case rel => exact ⟨i + 1, _, by go_num, HLT.out, HIN.out, HO9.out.less HX8.out.size, HX8.out.trans HN9.out⟩
              case measure => have := HLT.out; simp [intOf]; omega
        · have k1 : decide ((k : Int) < (i : Int)) = false := decide_eq_false (by omega)
          have k2 : ¬ (k : Int) < (i : Int) := by omega
          have HIN : Hid (Ord (fun j => vs.getD j 0) (i + 1) (o.take k ++ [i] ++ o.drop k)) := HOR.out.insK HM.out (fun h => absurd h (by rw [HOL.out]; omega))
          have k4 : decide (k < i) = false := decide_eq_false hki
          clear hk
          go_wp2_with fail
          go_quiet (fail)
          have HRO : Hid (Rd nv (wr.drewN nq) A3 o) := HRI.out.below (HQ.out.dr nq)
          have HX8 : Hid (Nx w (wr.drewN nq)) := HX.out.trans (HQ.out.dr nq)
          generalize wr.drewN nq = w8 at *
          have HKO : Hid (k ≤ o.length) := by unfold Hid; rw [HOL.out]; exact HK.out
          go_upto_region 8 with (fail)
          refine RI.wp_region_Y (fun ls x w' => ∃ cv ct, OrV (.slice A3 i c3) k i o w8 (fun j => ls.getD j false) x w' cv ct) rfl (by kernel_rfl) (by kernel_rfl) ?_ ?_ ?_
          · exact ⟨_, _, OrV.start _ k i o w8 _ rfl⟩
          · refine ⟨?_, ?_, ?_, ?_, ?_, ?_, ?_, ?_, ?_, ?_, ?_, ?_, ?_, trivial⟩
            · intro a x ls w' hS hsz hni hcl hin hout hd K hK
              obtain ⟨cv, ct, hS⟩ := hS
              have n0 : ls.getD 0 false = false := RI.off_of (by rw [hsz]; decide) hni
              have n4 : ls.getD 4 false = false := hcl.not 20 4 0 (by kernel_rfl) hni
              have n7 : ls.getD 7 false = false := hcl.not 20 7 0 (by kernel_rfl) hni
              have n11 : ls.getD 11 false = false := hcl.not 20 11 0 (by kernel_rfl) hni
              have := hK _ _ ⟨_, _, by rw [getD_updF (by rw [hsz]; decide)]; exact hS.set0 n0 n4 n7 n11⟩
              clear hin hout hd hcl hS hK
              go_simp
              exact this
            · intro a x ls w' hS hsz hni hcl hin hout hd K hK
              obtain ⟨cv, ct, hS⟩ := hS
              have n12 : ls.getD 12 false = false := hcl.not 20 12 1 (by kernel_rfl) hni
              have o1 : a.eval (.tmp 3) = .slice A3 i c3 := (hin 3 12 (by kernel_rfl) (show 3 < 45 by decide)).trans (hS.y12 n12)
              have := hK w' _ ⟨cv, ct, by rw [getD_updF (by rw [hsz]; decide)]; exact hS.set1⟩
              rw [← o1] at this
              exact this
            · intro a x ls w' hS hsz hni hcl hin hout hd K hK
              obtain ⟨cv, ct, hS⟩ := hS
              have o1 : a.eval (.tmp 5) = .int .i64 (k : Int) := hout 5 (by kernel_rfl)
              have := hK w' (.int .i64 (k : Int)) ⟨cv, ct, by rw [getD_updF (by rw [hsz]; decide)]; exact hS.set2⟩
              rw [← o1] at this
              exact this
            · intro a x ls w' hS hsz hni hcl hin hout hd K hK
              obtain ⟨cv, ct, hS⟩ := hS
              have i1 : a.eval (.tmp 33) = .slice A3 o.length c3 := by
                rw [HOL.out]
                exact (hin 33 1 (by kernel_rfl) (show 33 < 45 by decide)).trans (hS.y1 (hd ⟨1, .data⟩ (by simp) rfl))
              have i2 : a.eval (.tmp 34) = .int .i64 (k : Int) := (hin 34 2 (by kernel_rfl) (show 34 < 45 by decide)).trans (hS.y2 (hd ⟨2, .data⟩ (by simp) rfl))
              refine op_slI elI (.tmp 33) none (some (.tmp 34)) rfl A3 o c3 i1 (HRO.out.below hS.nx) HOC.out 0 (k : Int) (.inl ⟨rfl, rfl⟩) (.inr ⟨.i64, _, rfl, i2⟩) (by omega) (by omega) (by have := HKO.out; omega) fun A' c' hr => ?_
              have hr2 : Rd nv w8 A' (o.take k) := (hr w8 HRO.out).cast (by simp)
              have := hK w' _ ⟨cv, ct, by rw [getD_updF (by rw [hsz]; decide)]; exact hS.set3 A' c' hr2⟩
              simpa using this
            · intro a x ls w' hS hsz hni hcl hin hout hd K hK
              obtain ⟨cv, ct, hS⟩ := hS
              have n4 : ls.getD 4 false = false := RI.off_of (by rw [hsz]; decide) hni
              have n7 : ls.getD 7 false = false := hcl.not 20 7 4 (by kernel_rfl) hni
              have n11 : ls.getD 11 false = false := hcl.not 20 11 4 (by kernel_rfl) hni
              have y0 := hd ⟨0, .data⟩ (by simp) rfl
              obtain ⟨e0, rfl⟩ := hS.o0 y0 n4
              obtain ⟨A', c', e3, hr3⟩ := hS.y3 (hd ⟨3, .data⟩ (by simp) rfl)
              have i0 : a.eval (.tmp 32) = cv := (hin 32 0 (by kernel_rfl) (show 32 < 45 by decide)).trans e0.symm
              have i1 : a.eval (.tmp 35) = .slice A' (o.take k).length c' := (hin 35 3 (by kernel_rfl) (show 35 < 45 by decide)).trans e3
              refine op_appI elI (.tmp 32) (.tmp 35) rfl w8.heap.size cv [] (o.take k) i0 hS.ob A' c' i1 (hr3.below hS.nx) (by have := HOL.out; simp; omega) (by decide) hS.nx.size fun v' w2 ho hb hk hbk => ?_
              exact hK w2 v' ⟨v', _, by rw [getD_updF (by rw [hsz]; decide)]; exact hS.set4 y0 n7 n11 (Below.trans (B := w8.heap.size) hS.nx hb) (by simpa using ho) hk hbk⟩
            · intro a x ls w' hS hsz hni hcl hin hout hd K hK
              obtain ⟨cv, ct, hS⟩ := hS
              have o1 : a.eval (.tmp 4) = .int .i64 (i : Int) := hout 4 (by kernel_rfl)
              have := hK w' (.int .i64 (i : Int)) ⟨cv, ct, by rw [getD_updF (by rw [hsz]; decide)]; exact hS.set5⟩
              rw [← o1] at this
              exact this
            · intro a x ls w' hS hsz hni hcl hin hout hd K hK
              obtain ⟨cv, ct, hS⟩ := hS
              have n6 : ls.getD 6 false = false := RI.off_of (by rw [hsz]; decide) hni
              have n7 : ls.getD 7 false = false := hcl.not 20 7 6 (by kernel_rfl) hni
              have q1 : a.tmps.getD 37 undef = .int .i64 (i : Int) := (hin 37 5 (by kernel_rfl) (show 37 < 45 by decide)).trans (hS.y5 (hd ⟨5, .data⟩ (by simp) rfl))
              have q2 := q1
              rw [Array.getD_eq_getD_getElem?] at q2
              have := hK _ _ ⟨_, _, by rw [getD_updF (by rw [hsz]; decide)]; exact hS.set6 n7⟩
              clear hin hout hd hcl hS hK
              go_simp
              exact this
            · intro a x ls w' hS hsz hni hcl hin hout hd K hK
              obtain ⟨cv, ct, hS⟩ := hS
              have n7 : ls.getD 7 false = false := RI.off_of (by rw [hsz]; decide) hni
              have n11 : ls.getD 11 false = false := hcl.not 20 11 7 (by kernel_rfl) hni
              have y4 := hd ⟨4, .data⟩ (by simp) rfl
              have y0 : ls.getD 0 false = true := hcl.reach 20 4 0 (by kernel_rfl) y4
              obtain ⟨e4, rfl⟩ := hS.o4 y4 n7
              obtain ⟨g, e6, hb6, -, -⟩ := hS.y6 (hd ⟨6, .data⟩ (by simp) rfl) n7
              have i0 : a.eval (.tmp 36) = cv := (hin 36 4 (by kernel_rfl) (show 36 < 45 by decide)).trans e4.symm
              have i1 : a.eval (.tmp 38) = .slice (some ⟨g, 0, none⟩) 1 1 := (hin 38 6 (by kernel_rfl) (show 38 < 45 by decide)).trans e6
              have hr6 : Rd nv w' (some ⟨g, 0, none⟩) [i] := fun _ => ⟨g, 0, rfl, hb6.lt, fun j hj => by
                have hj : j < 1 := hj
                obtain rfl : j = 0 := by omega
                exact hb6.cell 0⟩
              refine op_appI elI (.tmp 36) (.tmp 38) rfl w8.heap.size cv (o.take k) [i] i0 hS.ob _ 1 i1 hr6 (by have := HOL.out; simp; omega) (by decide) hS.nx.size fun v' w2 ho hb hk hbk => ?_
              exact hK w2 v' ⟨v', _, by rw [getD_updF (by rw [hsz]; decide)]; exact hS.set7 y0 y4 n11 (Below.trans (B := w8.heap.size) hS.nx hb) ho hk hbk⟩
            · intro a x ls w' hS hsz hni hcl hin hout hd K hK
              obtain ⟨cv, ct, hS⟩ := hS
              have n12 : ls.getD 12 false = false := hcl.not 20 12 8 (by kernel_rfl) hni
              have o1 : a.eval (.tmp 3) = .slice A3 i c3 := (hin 3 12 (by kernel_rfl) (show 3 < 45 by decide)).trans (hS.y12 n12)
              have := hK w' _ ⟨cv, ct, by rw [getD_updF (by rw [hsz]; decide)]; exact hS.set8⟩
              rw [← o1] at this
              exact this
            · intro a x ls w' hS hsz hni hcl hin hout hd K hK
              obtain ⟨cv, ct, hS⟩ := hS
              have o1 : a.eval (.tmp 5) = .int .i64 (k : Int) := hout 5 (by kernel_rfl)
              have := hK w' (.int .i64 (k : Int)) ⟨cv, ct, by rw [getD_updF (by rw [hsz]; decide)]; exact hS.set9⟩
              rw [← o1] at this
              exact this
            · intro a x ls w' hS hsz hni hcl hin hout hd K hK
              obtain ⟨cv, ct, hS⟩ := hS
              have i1 : a.eval (.tmp 40) = .slice A3 o.length c3 := by
                rw [HOL.out]
                exact (hin 40 8 (by kernel_rfl) (show 40 < 45 by decide)).trans (hS.y8 (hd ⟨8, .data⟩ (by simp) rfl))
              have i2 : a.eval (.tmp 41) = .int .i64 (k : Int) := (hin 41 9 (by kernel_rfl) (show 41 < 45 by decide)).trans (hS.y9 (hd ⟨9, .data⟩ (by simp) rfl))
              refine op_slI elI (.tmp 40) (some (.tmp 41)) none rfl A3 o c3 i1 (HRO.out.below hS.nx) HOC.out (k : Int) (o.length : Int) (.inr ⟨.i64, _, rfl, i2⟩) (.inl ⟨rfl, rfl⟩) (by omega) (by have := HKO.out; omega) (by omega) fun A' c' hr => ?_
              have hr2 : Rd nv w8 A' (o.drop k) := (hr w8 HRO.out).cast (by simp)
              have := hK w' _ ⟨cv, ct, by rw [getD_updF (by rw [hsz]; decide)]; exact hS.set10 A' c' hr2⟩
              simpa using this
            · intro a x ls w' hS hsz hni hcl hin hout hd K hK
              obtain ⟨cv, ct, hS⟩ := hS
              have n11 : ls.getD 11 false = false := RI.off_of (by rw [hsz]; decide) hni
              have n12 : ls.getD 12 false = false := hcl.not 20 12 11 (by kernel_rfl) hni
              have y7 := hd ⟨7, .data⟩ (by simp) rfl
              have y4 : ls.getD 4 false = true := hcl.reach 20 7 4 (by kernel_rfl) y7
              have y0 : ls.getD 0 false = true := hcl.reach 20 7 0 (by kernel_rfl) y7
              obtain ⟨e7, rfl⟩ := hS.o7 y7 n11
              obtain ⟨A', c', e3, hr3⟩ := hS.y10 (hd ⟨10, .data⟩ (by simp) rfl)
              have i0 : a.eval (.tmp 39) = cv := (hin 39 7 (by kernel_rfl) (show 39 < 45 by decide)).trans e7.symm
              have i1 : a.eval (.tmp 42) = .slice A' (o.drop k).length c' := (hin 42 10 (by kernel_rfl) (show 42 < 45 by decide)).trans e3
              refine op_appI elI (.tmp 39) (.tmp 42) rfl w8.heap.size cv (o.take k ++ [i]) (o.drop k) i0 hS.ob A' c' i1 (hr3.below hS.nx) (by have := HOL.out; simp; omega) (by decide) hS.nx.size fun v' w2 ho hb hk hbk => ?_
              exact hK w2 v' ⟨v', _, by rw [getD_updF (by rw [hsz]; decide)]; exact hS.set11 y0 y4 y7 n12 (Below.trans (B := w8.heap.size) hS.nx hb) ho hk hbk⟩
            · intro a x ls w' hS hsz hni hcl hin hout hd K hK
              obtain ⟨cv, ct, hS⟩ := hS
              have y11 := hd ⟨11, .data⟩ (by simp) rfl
              have o1 : a.eval (.tmp 43) = x 11 := hin 43 11 (by kernel_rfl) (show 43 < 45 by decide)
              have := hK w' (x 11) ⟨cv, ct, by rw [getD_updF (by rw [hsz]; decide)]; exact hS.set12 y11⟩
              rw [← o1] at this
              exact this
          · intro A' x ls w' hS hall hin hout hA
            obtain ⟨cv, ct, hS⟩ := hS
            obtain ⟨e11, rfl⟩ := hS.o11 (hall 11 (by decide))
            have e12 := hS.z12 (hall 12 (by decide))
            rw [← e11] at e12
            have HO9 := Lib.hid hS.ob
            have HN9 := Lib.hid hS.nx
            have hA2 := hA.out
            clear hA hin hout hall hS
            subst hA2
            simp only [RI.setAll, List.set_cons_succ, List.set_cons_zero]
            rw [e12]
            go_wp2_with fail
            go_roundw
            case rel => exact ⟨i + 1, _, by go_num, HLT.out, HIN.out, HO9.out.less HX8.out.size, HX8.out.trans HN9.out⟩
            case measure => have := HLT.out; simp [intOf]; omega
    · have q1 : decide ((i : Int) < (n : Int)) = false := decide_eq_false (by omega)
      have q2 : ¬ (i : Int) < (n : Int) := by omega
      obtain rfl : i = n := by omega
      rw [HOL.out]
      clear hlt
      go_wp2_with fail
      go_ret
      exact ⟨A3, c3, o, rfl, HOR.out, HRI.out, HX.out⟩
end Go.Proofs.Ytpfecpcgdfbekaa
