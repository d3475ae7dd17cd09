/- KindNests: how deep types may lie. -/
import Derived.Test.YtpaacfoiiihbeaaDoorKinN
import Derived.Test.YtpaacfoiiihbeaaDoorBytes
set_option linter.unusedVariables false
set_option linter.unusedSimpArgs false
namespace Go.Proofs.YtpaacfoiiihbeaaDoor
open Go.RowKit

/-- a step of the nest -/
def nestT (c : UInt8) (t : Ty) : Ty := if c.toNat % 3 = 0 then .l1 15 t else if c.toNat % 3 = 1 then .l1 14 t else .mp (.bs 11) t
def nestsT : List UInt8 → Ty → Ty
  | [], t => t
  | c :: l, t => nestsT l (nestT c t)
theorem nests_snoc (l : List UInt8) (c : UInt8) (t : Ty) : nestsT (l ++ [c]) t = nestT c (nestsT l t) := by
  induction l generalizing t with
  | nil => rfl
  | cons d l ih => exact ih _
theorem nest_ok (c : UInt8) (t : Ty) (h : wfT t) : wfT (nestT c t) ∧ depthT (nestT c t) = depthT t + 1 ∧ namesT (nestT c t) = namesT t ∧ (showT (nestT c t)).length ≤ (showT t).length + 12 := by
  unfold nestT
  split
  · exact ⟨⟨.inr rfl, h⟩, rfl, rfl, by simp [showT, wordK]⟩
  · split
    · exact ⟨⟨.inl rfl, h⟩, rfl, rfl, by simp [showT, wordK]⟩
    · exact ⟨⟨by simp [wfT, isBs], h⟩, by simp [depthT], by simp [namesT], by simp [showT, wordK]⟩
theorem nests_ok (l : List UInt8) (t : Ty) (h : wfT t) : wfT (nestsT l t) ∧ depthT (nestsT l t) = depthT t + l.length ∧ namesT (nestsT l t) = namesT t ∧ (showT (nestsT l t)).length ≤ (showT t).length + 12 * l.length := by
  induction l generalizing t with
  | nil => exact ⟨h, rfl, rfl, Nat.le_refl _⟩
  | cons c l ih =>
    obtain ⟨h1, h2, h3, h4⟩ := nest_ok c t h
    obtain ⟨g1, g2, g3, g4⟩ := ih (nestT c t) h1
    exact ⟨g1, by show depthT (nestsT l (nestT c t)) = _; rw [g2, h2, List.length_cons]; omega, g3.trans h3, by show (showT (nestsT l (nestT c t))).length ≤ _; rw [List.length_cons]; omega⟩
theorem nest_0 (c : UInt8) (t : Ty) (h : c.toNat % 3 = 0) : showT (nestT c t) = [108, 105, 115, 116, 60] ++ showT t ++ [62] := by
  unfold nestT; rw [if_pos h]; simp [showT, wordK]
theorem nest_1 (c : UInt8) (t : Ty) (h : c.toNat % 3 = 1) : showT (nestT c t) = [115, 101, 116, 60] ++ showT t ++ [62] := by
  unfold nestT; rw [if_neg (by omega), if_pos h]; simp [showT, wordK]
theorem nest_2 (c : UInt8) (t : Ty) (h : c.toNat % 3 = 2) : showT (nestT c t) = [109, 97, 112, 60, 115, 116, 114, 105, 110, 103, 44] ++ showT t ++ [62] := by
  unfold nestT; rw [if_neg (by omega), if_neg (by omega)]; simp [showT, wordK]

theorem Tx.app {a b : ByteArray} {la lb : List UInt8} (h : Tx a la) (g : Tx b lb) : Tx (a ++ b) (la ++ lb) := by
  unfold Tx at *
  rw [← h, ← g]
  simp [ByteArray.data_append]

set_option maxRecDepth 100000 in
set_option maxHeartbeats 6400000 in
theorem KindNests_walk (A : Option Addr) (xs : List UInt8) (c : Nat) (w : World) (ht : TabK w) (hm : MaxC w) (hr : Rd bv w A xs) (hc1 : xs.length ≤ c) (hc2 : c ≤ maxLen) :
    Calls Tryd.prog 5 #[.slice A xs.length c] w fun e w' => e = .returned (.bool true) ∧ Below w.heap.size w w' := by
  have HT := Lib.hid ht
  have HM := Lib.hid hm
  have HR := Lib.hid hr
  clear ht hm hr
  by_cases hlong : 20 < xs.length
  · have g1 : decide ((20 : Int) < (xs.length : Int)) = true := decide_eq_true (by omega)
    clear hlong
    go_enter Tryd.func5, Tryd.ntmps5
    go_wp2_with fail
    refine (kbegun_any w HT.out HM.out).mono ?_; rintro e w1 ⟨rfl, hn1⟩
    go_wp2_with fail
    go_ret
    exact ⟨rfl, hn1⟩
  · have g1 : decide ((20 : Int) < (xs.length : Int)) = false := decide_eq_false (by omega)
    have hx20 : xs.length ≤ 20 := by omega
    clear hlong
    go_enter Tryd.func5, Tryd.ntmps5
    go_wp2_with fail
    refine (kbegun_any w HT.out HM.out).mono ?_; rintro e w1 ⟨rfl, hn1⟩
    have HN1 := Lib.hid hn1
    clear hn1
    go_wp2_with fail
    go_loop [3, 4] (fun sv iv => ∃ (i : Nat) (s : ByteArray), sv = .string s ∧ iv = .int .i64 (i : Int) ∧ i ≤ xs.length ∧ Hid (Tx s (showT (nestsT (xs.take i) (.bs 8))))) (fun _ iv => 30 - (intOf iv).toNat)
    case atStart => exact ⟨0, ⟨#[105, 51, 50]⟩, rfl, rfl, Nat.zero_le _, rfl⟩
    case round =>
      obtain ⟨i, s, rfl, rfl, hi, HS⟩ := hrel
      have hok := nests_ok (xs.take i) (.bs 8) (by simp [wfT, isBs])
      have hsl : s.size ≤ 300 := by
        rw [HS.out.size]
        have h4 := hok.2.2.2
        have h5 : (showT (.bs 8)).length = 3 := rfl
        have h6 := List.length_take_le i xs
        omega
      by_cases hlt : i < xs.length
      · have hkd : decide ((i : Int) < (xs.length : Int)) = true := decide_eq_true (by omega)
        have hiI : (i : Int) < (xs.length : Int) := by omega
        obtain ⟨g, off, rfl, hg, hcell⟩ := (HR.out.below HN1.out).at_ hlt
        obtain ⟨x, hx⟩ : ∃ x, Hid (xs[i] = x) := ⟨xs[i], Lib.hid rfl⟩
        rw [hx.out] at hcell
        have hst : xs.take (i + 1) = xs.take i ++ [x] := by rw [List.take_succ_eq_append_getElem hlt, hx.out]
        have hns := nests_snoc (xs.take i) x (.bs 8)
        rw [← hst] at hns
        have HNS := Lib.hid hns
        have hcell2 : w1.cell? ⟨g, off + i, none⟩ = some (.int .u8 (x.toNat : Int)) := hcell
        clear hns hst hcell hok hg
        rcases (show x.toNat % 3 = 0 ∨ x.toNat % 3 = 1 ∨ x.toNat % 3 = 2 by omega) with h0 | h0 | h0
        · have HXM := Lib.hid h0
          have hm : ((x.toNat : Int)) % 3 = 0 := by omega
          clear h0
          go_wp2_with fail
          refine ⟨⟨i + 1, _, rfl, by go_num, hlt, ?_⟩, by simp [intOf]; omega⟩
          unfold Hid
          rw [HNS.out, nest_0 _ _ HXM.out]
          exact (Tx.app (Tx.app (Tx.of _) HS.out) (Tx.of _))
        · have HXM := Lib.hid h0
          have hm : ((x.toNat : Int)) % 3 = 1 := by omega
          clear h0
          go_wp2_with fail
          refine ⟨⟨i + 1, _, rfl, by go_num, hlt, ?_⟩, by simp [intOf]; omega⟩
          unfold Hid
          rw [HNS.out, nest_1 _ _ HXM.out]
          exact (Tx.app (Tx.app (Tx.of _) HS.out) (Tx.of _))
        · have HXM := Lib.hid h0
          have hm : ((x.toNat : Int)) % 3 = 2 := by omega
          clear h0
          go_wp2_with fail
          refine ⟨⟨i + 1, _, rfl, by go_num, hlt, ?_⟩, by simp [intOf]; omega⟩
          unfold Hid
          rw [HNS.out, nest_2 _ _ HXM.out]
          exact (Tx.app (Tx.app (Tx.of _) HS.out) (Tx.of _))
      · obtain rfl : i = xs.length := by omega
        rw [List.take_length] at HS hok
        obtain ⟨T, hT⟩ : ∃ T, nestsT xs (.bs 8) = T := ⟨_, rfl⟩
        rw [hT] at HS hok
        obtain ⟨hwf, hdp, hnm, hln⟩ := hok
        have hdl : depthT T = xs.length := by rw [hdp]; simp [depthT]
        have h8 : ((showT T).length : Int) ≤ 8000 := by rw [← HS.out.size]; omega
        have HSw := HS.out
        clear hT hdp hln hlt
        by_cases h12 : 12 < xs.length
        · have hw := wholeT_deep T hwf (by omega)
          have HHd : Hid (∀ w, TabK w → MaxC w → Calls Tryd.prog 9 #[.string s] w fun e w' => e = .returned (.tuple #[.int .i64 0, .string ⟨#[]⟩, .string ⟨#[]⟩, .string ⟨#[]⟩, .int .i64 6]) ∧ Nx w w') := by
            intro w ht hm
            have := head_any w s (showT T) HSw h8 ht hm
            unfold headW at this
            rw [hw, if_pos (by decide)] at this
            exact this
          have HMy : Hid (∀ w, TabK w → MaxC w → Calls Tryd.prog 13 #[.string s] w fun e w' => e = .returned (.bool false) ∧ Nx w w') := by
            intro w ht hm
            have := may_any w s (showT T) HSw h8 ht hm
            rw [hw] at this
            exact this
          have HDp : Hid (∀ w, TabK w → MaxC w → Calls Tryd.prog 14 #[.string s] w fun e w' => e = .returned (.int .i64 0) ∧ Nx w w') := by
            intro w ht hm
            have := depth_any w s (showT T) HSw h8 ht hm
            rw [hw, if_pos (by decide)] at this
            exact this
          have g2 : decide ((12 : Int) < (xs.length : Int)) = true := decide_eq_true (by omega)
          clear hw h12 hwf hnm hdl h8 HSw
          go_wp2_with fail
          refine (HHd.out w1 (HT.out.nx HN1.out) (HM.out.nx HN1.out)).mono ?_; rintro e w2 ⟨rfl, hn2⟩
          have HN2 := Lib.hid (HN1.out.trans hn2)
          clear hn2
          go_wp2_with fail
          refine (HMy.out w2 (HT.out.nx HN2.out) (HM.out.nx HN2.out)).mono ?_; rintro e w3 ⟨rfl, hn3⟩
          have HN3 := Lib.hid (HN2.out.trans hn3)
          clear hn3
          go_wp2_with fail
          refine (HDp.out w3 (HT.out.nx HN3.out) (HM.out.nx HN3.out)).mono ?_; rintro e w4 ⟨rfl, hn4⟩
          go_wp2_with fail
          go_ret
          exact ⟨rfl, HN3.out.trans hn4⟩
        · have hw := wholeT_full T hwf (by omega)
          obtain ⟨⟨K, N, P, C⟩, hq⟩ : ∃ q, headT T = q := ⟨_, rfl⟩
          have HHd : Hid (∀ w, TabK w → MaxC w → Calls Tryd.prog 9 #[.string s] w fun e w' => e = .returned (.tuple #[.int .i64 (K : Int), .string (bA N), .string (bA P), .string (bA C), .int .i64 0]) ∧ Nx w w') := by
            intro w ht hm
            have := head_any w s (showT T) HSw h8 ht hm
            unfold headW at this
            rw [hw, if_neg (fun h => h rfl), hq] at this
            exact this
          have HMy : Hid (∀ w, TabK w → MaxC w → Calls Tryd.prog 13 #[.string s] w fun e w' => e = .returned (.bool true) ∧ Nx w w') := by
            intro w ht hm
            have := may_any w s (showT T) HSw h8 ht hm
            rw [hw] at this
            exact this
          have HDp : Hid (∀ w, TabK w → MaxC w → Calls Tryd.prog 14 #[.string s] w fun e w' => e = .returned (.int .i64 (xs.length : Int)) ∧ Nx w w') := by
            intro w ht hm
            have := depth_any w s (showT T) HSw h8 ht hm
            rw [hw, if_neg (fun h => h rfl), hdl] at this
            exact this
          have HNm : Hid (∀ w, TabK w → MaxC w → Calls Tryd.prog 11 #[.string s] w fun e w' => ∃ A c, e = .returned (.slice A 0 c) ∧ Nx w w') := by
            intro w ht hm
            have := names_any w s (showT T) HSw h8 ht hm
            unfold namesW nmB at this
            rw [hw, if_neg (fun h => h rfl), hnm] at this
            refine this.mono ?_
            rintro e w' ⟨v, rfl, ho, hn⟩
            obtain ⟨A, c, rfl, -, -, -⟩ := OwnS.sl strC_size ho
            exact ⟨A, c, rfl, hn⟩
          have g2 : decide ((12 : Int) < (xs.length : Int)) = false := decide_eq_false (by omega)
          have hee : ((xs.length : Int) == (xs.length : Int)) = true := by simp
          clear hw h12 hwf hnm hdl h8 HSw
          go_wp2_with fail
          refine (HHd.out w1 (HT.out.nx HN1.out) (HM.out.nx HN1.out)).mono ?_; rintro e w2 ⟨rfl, hn2⟩
          have HN2 := Lib.hid (HN1.out.trans hn2)
          clear hn2
          go_wp2_with fail
          refine (HMy.out w2 (HT.out.nx HN2.out) (HM.out.nx HN2.out)).mono ?_; rintro e w3 ⟨rfl, hn3⟩
          have HN3 := Lib.hid (HN2.out.trans hn3)
          clear hn3
          go_wp2_with fail
          refine (HDp.out w3 (HT.out.nx HN3.out) (HM.out.nx HN3.out)).mono ?_; rintro e w4 ⟨rfl, hn4⟩
          have HN4 := Lib.hid (HN3.out.trans hn4)
          clear hn4
          go_wp2_with fail
          refine (HNm.out w4 (HT.out.nx HN4.out) (HM.out.nx HN4.out)).mono ?_; rintro e w5 ⟨A5, c5, rfl, hn5⟩
          go_wp2_with fail
          go_ret
          exact ⟨rfl, HN4.out.trans hn5⟩
end Go.Proofs.YtpaacfoiiihbeaaDoor
