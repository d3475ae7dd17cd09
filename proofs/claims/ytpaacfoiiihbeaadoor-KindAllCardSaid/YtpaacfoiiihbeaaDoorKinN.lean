/- KindBack: what is shown has that head, and parts are types in their turn. -/
import Derived.Test.YtpaacfoiiihbeaaDoorKinM
set_option linter.unusedVariables false
set_option linter.unusedSimpArgs false
namespace Go.Proofs.YtpaacfoiiihbeaaDoor
open Go.RowKit

/-- the depth of a text -/
def depW (l : List UInt8) : Nat := if (wholeT l).1 ≠ 0 then 0 else depthT (wholeT l).2
def mayW (l : List UInt8) : Bool := decide ((wholeT l).1 = 0)
theorem dep_le (l : List UInt8) : depW l ≤ 12 := by
  unfold depW
  split
  · omega
  · rename_i h
    exact (wholeT_show l (by simpa using h)).2.1
theorem whole_nil : (wholeT []).1 = 2 := by decide +kernel
theorem dep_nil : depW [] = 0 := by unfold depW; rw [whole_nil]; rfl
theorem may_nil : mayW [] = false := by unfold mayW; rw [whole_nil]; rfl
theorem may_show (t : Ty) (h : wfT t) (hd : depthT t ≤ 12) : mayW (showT t) = true := by unfold mayW; rw [wholeT_full t h hd]; rfl
theorem dep_show (t : Ty) (h : wfT t) (hd : depthT t ≤ 12) : depW (showT t) = depthT t := by unfold depW; rw [wholeT_full t h hd]; rfl
/-- what a head says of its text -/
theorem head_back (t : Ty) (h : wfT t) (hd : depthT t ≤ 12) (K : Nat) (N A C : List UInt8) (hh : headT t = (K, N, A, C)) :
    K < 17 ∧ showS (K : Int) N A C = showT t ∧ mayW A = decide (K = 13 ∨ K = 14 ∨ K = 15) ∧ mayW C = decide (K = 13) ∧ ((K = 13 ∨ K = 14 ∨ K = 15) → depthT t = 1 + max (depW A) (depW C)) := by
  cases t with
  | nm s =>
    cases hh
    exact ⟨by decide, show_name _ _ _, by rw [may_nil]; rfl, by rw [may_nil]; rfl, fun h => by omega⟩
  | bs k =>
    cases hh
    have hk : isBs K := h
    have h17 : K < 17 := by unfold isBs at hk; omega
    have hn := bs_ne hk
    refine ⟨h17, ?_, ?_, ?_, fun h => by omega⟩
    · rw [show_word K _ _ _ hn.1 h17]
      unfold partS
      rw [if_neg (by omega), if_neg (by omega), List.append_nil]
      rfl
    · rw [may_nil, decide_eq_false (by omega)]
    · rw [may_nil, decide_eq_false (by omega)]
  | l1 k a =>
    cases hh
    have hk := h.1
    have ha : depthT a ≤ 12 := by simp only [depthT] at hd; omega
    refine ⟨by omega, ?_, ?_, ?_, fun _ => ?_⟩
    · rw [show_word K _ _ _ (by omega) (by omega)]
      unfold partS
      rw [if_pos hk]
      rfl
    · rw [may_show a h.2 ha, decide_eq_true (by omega)]
    · rw [may_nil, decide_eq_false (by omega)]
    · rw [dep_show a h.2 ha, dep_nil]; simp only [depthT]; omega
  | mp a b =>
    cases hh
    have ha : depthT a ≤ 12 := by simp only [depthT] at hd; omega
    have hb : depthT b ≤ 12 := by simp only [depthT] at hd; omega
    refine ⟨by decide, ?_, ?_, ?_, fun _ => ?_⟩
    · rw [show_word 13 _ _ _ (by decide) (by decide)]
      rfl
    · rw [may_show a h.1 ha]; rfl
    · rw [may_show b h.2 hb]; rfl
    · rw [dep_show a h.1 ha, dep_show b h.2 hb]; simp only [depthT]; omega
theorem part_len (t : Ty) (h : wfT t) (n : Nat) (hl : (showT t).length ≤ n) : (headT t).2.1.length ≤ n ∧ (headT t).2.2.1.length ≤ n ∧ (headT t).2.2.2.length ≤ n := by
  cases t with
  | nm s => exact ⟨hl, by simp [headT], by simp [headT]⟩
  | bs k => simp [headT]
  | l1 k a =>
    simp [showT] at hl
    simp [headT]; omega
  | mp a b =>
    simp [showT] at hl
    simp [headT]; omega

set_option maxRecDepth 100000 in
set_option maxHeartbeats 6400000 in
theorem KindBack_walk (s : ByteArray) (w : World) (ht : TabK w) (hm : MaxC w) (hs : s.size ≤ maxLen) :
    Calls Tryd.prog 4 #[.string s] w fun e w' => e = .returned (.bool true) ∧ Below w.heap.size w w' := by
  obtain ⟨l, hl⟩ : ∃ l, Tx s l := ⟨_, rfl⟩
  have HL := Lib.hid hl
  have HT := Lib.hid ht
  have HM := Lib.hid hm
  have hz : (s.size : Int) = (l.length : Int) := by rw [hl.size]
  have HZ := Lib.hid hz
  clear hl ht hm hz
  by_cases hlong : 200 < s.size
  · have g1 : decide ((200 : Int) < (s.size : Int)) = true := decide_eq_true (by omega)
    clear hlong
    go_enter Tryd.func4, Tryd.ntmps4
    go_wp2_with fail
    refine (kbegun_any w HT.out HM.out).mono ?_; rintro e w1 ⟨rfl, hn1⟩
    go_wp2_with fail
    go_ret
    exact ⟨rfl, hn1⟩
  · have g1 : decide ((200 : Int) < (s.size : Int)) = false := decide_eq_false (by omega)
    have hl8 : (l.length : Int) ≤ 8000 := by rw [← HZ.out]; omega
    have HL8 := Lib.hid hl8
    clear hlong hl8
    go_enter Tryd.func4, Tryd.ntmps4
    go_wp2_with fail
    refine (kbegun_any w HT.out HM.out).mono ?_; rintro e w1 ⟨rfl, hn1⟩
    have HN1 := Lib.hid hn1
    clear hn1
    go_wp2_with fail
    refine (head_any w1 s l HL.out HL8.out (HT.out.nx HN1.out) (HM.out.nx HN1.out)).mono ?_; rintro e w2 ⟨rfl, hn2⟩
    have HN2 := Lib.hid (HN1.out.trans hn2)
    clear hn2
    by_cases he : (wholeT l).1 = 0
    · obtain ⟨hwf, hdp, hls⟩ := wholeT_show l he
      have hh : headW l = headT (wholeT l).2 := by unfold headW; rw [if_neg (by simpa using he)]
      obtain ⟨⟨K, N, A, C⟩, hq⟩ : ∃ q, headT (wholeT l).2 = q := ⟨_, rfl⟩
      obtain ⟨hK17, hsh, hmA, hmC, hdep⟩ := head_back _ hwf hdp K N A C hq
      have hlens := part_len _ hwf l.length (by rw [← hls]; exact Nat.le_refl _)
      have hdl : depW l = depthT (wholeT l).2 := by unfold depW; rw [if_neg (by simpa using he)]
      rw [hq] at hlens hh
      rw [hh, he]
      rw [← hls] at hsh
      rw [← hdl] at hdep
      dsimp only at hlens ⊢
      obtain ⟨hN, hA, hC⟩ := hlens
      have HA8 : Hid ((A.length : Int) ≤ 8000) := by have := HL8.out; unfold Hid; omega
      have HC8 : Hid ((C.length : Int) ≤ 8000) := by have := HL8.out; unfold Hid; omega
      have HSH : Hid (bA (showS (K : Int) N A C) = s) := by unfold Hid; rw [hsh]; exact (bA_tx HL.out).symm
      have HMA := Lib.hid hmA
      have HMC := Lib.hid hmC
      have HDEP := Lib.hid hdep
      have HK17 := Lib.hid hK17
      obtain ⟨NB, hNB⟩ : ∃ x, Hid (bA N = x) := ⟨_, rfl⟩
      obtain ⟨AB, hAB⟩ : ∃ x, Hid (bA A = x) := ⟨_, rfl⟩
      obtain ⟨CB, hCB⟩ : ∃ x, Hid (bA C = x) := ⟨_, rfl⟩
      rw [hNB.out, hAB.out, hCB.out]
      have HTN : Hid (Tx NB N) := by unfold Hid; rw [← hNB.out]; exact Tx.of N
      have HTA : Hid (Tx AB A) := by unfold Hid; rw [← hAB.out]; exact Tx.of A
      have HTC : Hid (Tx CB C) := by unfold Hid; rw [← hCB.out]; exact Tx.of C
      clear hwf hdp hls hh hq hK17 hsh hmA hmC hdep hdl he hN hA hC
      have HSHOW : Hid (∀ w, TabK w → Calls Tryd.prog 18 #[.int .i64 (K : Int), .string NB, .string AB, .string CB] w fun e w' => e = .returned (.string s) ∧ Nx w w') := by
        intro w ht
        have h1 := HK17.out
        have h2 := HA8.out
        have h3 := HC8.out
        have h4 := HTA.out.size
        have h5 := HTC.out.size
        have := show_any w (K : Int) NB AB CB N A C HTN.out HTA.out HTC.out (by omega) (by omega) (by omega) (by omega) ht
        rw [HSH.out] at this
        exact this
      have HMAYA : Hid (∀ w, TabK w → MaxC w → Calls Tryd.prog 13 #[.string AB] w fun e w' => e = .returned (.bool (decide (K = 13 ∨ K = 14 ∨ K = 15))) ∧ Nx w w') := by
        intro w ht hm
        have := may_any w AB A HTA.out HA8.out ht hm
        rw [show decide ((wholeT A).1 = 0) = mayW A from rfl, HMA.out] at this
        exact this
      have HMAYC : Hid (∀ w, TabK w → MaxC w → Calls Tryd.prog 13 #[.string CB] w fun e w' => e = .returned (.bool (decide (K = 13))) ∧ Nx w w') := by
        intro w ht hm
        have := may_any w CB C HTC.out HC8.out ht hm
        rw [show decide ((wholeT C).1 = 0) = mayW C from rfl, HMC.out] at this
        exact this
      by_cases hin : K = 13 ∨ K = 14 ∨ K = 15
      · have HIN := Lib.hid (decide_eq_true hin)
        have hde := HDEP.out hin
        obtain ⟨d, hd⟩ : ∃ d, Hid (depW l = d) := ⟨_, rfl⟩
        obtain ⟨dA, hdA⟩ : ∃ d, Hid (depW A = d) := ⟨_, rfl⟩
        obtain ⟨dC, hdC⟩ : ∃ d, Hid (depW C = d) := ⟨_, rfl⟩
        rw [hd.out, hdA.out, hdC.out] at hde
        have hA12 : (dA : Int) ≤ 12 := by have := dep_le A; rw [hdA.out] at this; omega
        have hC12 : (dC : Int) ≤ 12 := by have := dep_le C; rw [hdC.out] at this; omega
        have HD1 : Hid (∀ w, TabK w → MaxC w → Calls Tryd.prog 14 #[.string s] w fun e w' => e = .returned (.int .i64 (d : Int)) ∧ Nx w w') := by
          intro w ht hm
          have := depth_any w s l HL.out HL8.out ht hm
          rw [show (if (wholeT l).1 ≠ 0 then 0 else depthT (wholeT l).2) = depW l from rfl, hd.out] at this
          exact this
        have HD2 : Hid (∀ w, TabK w → MaxC w → Calls Tryd.prog 14 #[.string AB] w fun e w' => e = .returned (.int .i64 (dA : Int)) ∧ Nx w w') := by
          intro w ht hm
          have := depth_any w AB A HTA.out HA8.out ht hm
          rw [show (if (wholeT A).1 ≠ 0 then 0 else depthT (wholeT A).2) = depW A from rfl, hdA.out] at this
          exact this
        have HD3 : Hid (∀ w, TabK w → MaxC w → Calls Tryd.prog 14 #[.string CB] w fun e w' => e = .returned (.int .i64 (dC : Int)) ∧ Nx w w') := by
          intro w ht hm
          have := depth_any w CB C HTC.out HC8.out ht hm
          rw [show (if (wholeT C).1 ≠ 0 then 0 else depthT (wholeT C).2) = depW C from rfl, hdC.out] at this
          exact this
        obtain ⟨M, hM⟩ : ∃ M, max dA dC = M := ⟨_, rfl⟩
        have hmx : (if (dA : Int) < (dC : Int) then (dC : Int) else (dA : Int)) = (M : Int) := by split <;> omega
        have hmx2 : max (dA : Int) (dC : Int) = (M : Int) := by omega
        have hM12 : (M : Int) ≤ 12 := by omega
        have hdM : ((d : Int) == 1 + (M : Int)) = true := by rw [beq_iff_eq]; omega
        obtain ⟨X, hX⟩ : ∃ X, decide (K = 13) = X := ⟨_, rfl⟩
        have HX := Lib.hid hX
        have hw : ∃ b15 b14 b13 : Bool, ((K : Int) == 15) = b15 ∧ ((K : Int) == 14) = b14 ∧ ((K : Int) == 13) = b13 ∧ X = b13 ∧ (b15 = true ∨ b15 = false ∧ b14 = true ∨ b15 = false ∧ b14 = false ∧ b13 = true) := by
          refine ⟨_, _, _, rfl, rfl, rfl, ?_, ?_⟩
          · rw [← hX, Bool.eq_iff_iff]; simp; omega
          · rcases hin with h | h | h
            · right; right; subst h; exact ⟨rfl, rfl, rfl⟩
            · right; left; subst h; exact ⟨rfl, rfl⟩
            · left; subst h; rfl
        obtain ⟨b15, b14, b13, e15, e14, e13, rfl, hcase⟩ := hw
        have hbs : (s.toList != s.toList) = false := by simp
        clear hde hM hX hin
        rcases hcase with rfl | ⟨rfl, rfl⟩ | ⟨rfl, rfl, rfl⟩
        all_goals
          go_wp2_with fail
          refine (HSHOW.out w2 (HT.out.nx HN2.out)).mono ?_; rintro e w3 ⟨rfl, hn3⟩
          have HN3 := Lib.hid (HN2.out.trans hn3)
          clear hn3
          go_wp2_with fail
          refine (HMAYA.out w3 (HT.out.nx HN3.out) (HM.out.nx HN3.out)).mono ?_; rintro e w4 ⟨rfl, hn4⟩
          rw [HIN.out]
          have HN4 := Lib.hid (HN3.out.trans hn4)
          clear hn4
          go_wp2_with fail
          refine (HMAYC.out w4 (HT.out.nx HN4.out) (HM.out.nx HN4.out)).mono ?_; rintro e w5 ⟨rfl, hn5⟩
          rw [HX.out]
          have HN5 := Lib.hid (HN4.out.trans hn5)
          clear hn5
          first | (cases X; skip; skip) | skip
          all_goals
            go_wp2_with fail
            refine (HD1.out w5 (HT.out.nx HN5.out) (HM.out.nx HN5.out)).mono ?_; rintro e w6 ⟨rfl, hn6⟩
            have HN6 := Lib.hid (HN5.out.trans hn6)
            clear hn6
            go_wp2_with fail
            refine (HD2.out w6 (HT.out.nx HN6.out) (HM.out.nx HN6.out)).mono ?_; rintro e w7 ⟨rfl, hn7⟩
            have HN7 := Lib.hid (HN6.out.trans hn7)
            clear hn7
            go_wp2_with fail
            refine (HD3.out w7 (HT.out.nx HN7.out) (HM.out.nx HN7.out)).mono ?_; rintro e w8 ⟨rfl, hn8⟩
            go_wp2_with fail
            go_ret
            exact ⟨rfl, HN7.out.trans hn8⟩
      · have b15 : ((K : Int) == 15) = false := by rw [beq_eq_false_iff_ne]; omega
        have b14 : ((K : Int) == 14) = false := by rw [beq_eq_false_iff_ne]; omega
        have b13 : ((K : Int) == 13) = false := by rw [beq_eq_false_iff_ne]; omega
        have hbs : (s.toList != s.toList) = false := by simp
        have HF := Lib.hid (decide_eq_false hin)
        have HF2 := Lib.hid (decide_eq_false (show ¬ K = 13 by omega))
        clear hin
        go_wp2_with fail
        refine (HSHOW.out w2 (HT.out.nx HN2.out)).mono ?_; rintro e w3 ⟨rfl, hn3⟩
        have HN3 := Lib.hid (HN2.out.trans hn3)
        clear hn3
        go_wp2_with fail
        refine (HMAYA.out w3 (HT.out.nx HN3.out) (HM.out.nx HN3.out)).mono ?_; rintro e w4 ⟨rfl, hn4⟩
        rw [HF.out]
        have HN4 := Lib.hid (HN3.out.trans hn4)
        clear hn4
        go_wp2_with fail
        refine (HMAYC.out w4 (HT.out.nx HN4.out) (HM.out.nx HN4.out)).mono ?_; rintro e w5 ⟨rfl, hn5⟩
        rw [HF2.out]
        have HN5 := Lib.hid (HN4.out.trans hn5)
        clear hn5
        go_wp2_with fail
        go_ret
        exact ⟨rfl, HN5.out⟩
    · have hh : headW l = (0, [], [], []) := by unfold headW; rw [if_pos he]
      rw [hh]
      dsimp only
      obtain ⟨E, hE⟩ : ∃ E, (wholeT l).1 = E := ⟨_, rfl⟩
      rw [hE] at he ⊢
      have hb : ((E : Int) != 0) = true := by rw [bne_iff_ne]; omega
      have eB : bA [] = ⟨#[]⟩ := rfl
      rw [eB]
      clear hh hE he eB
      go_wp2_with fail
      go_ret
      exact ⟨rfl, HN2.out⟩
end Go.Proofs.YtpaacfoiiihbeaaDoor
