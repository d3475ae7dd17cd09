/- The contracts of the document's reading of kinds: Depth. -/
import Derived.Test.YtpaacfoiiihbeaaDoorKndE
import Derived.Test.YtpaacfoiiihbeaaDoorKinN
set_option linter.unusedVariables false
set_option linter.unusedSimpArgs false
namespace Go.Proofs.YtpaacfoiiihbeaaDoor
open Go.RowKit

theorem headW_show (t : Ty) (h : wfT t) (hd : depthT t ≤ 12) : headW (showT t) = headT t := by
  unfold headW; rw [wholeT_full t h hd, if_neg (by simp)]

def HeadS (w : World) (s : ByteArray) (K : Nat) (N A B : ByteArray) (E : Nat) : Prop :=
  Calls Tryd.prog 10 #[.string s] w fun e w' => e = .returned (.tuple #[.agg #[.int .i64 (K : Int), .string N, .string A, .string B], .int .i64 (E : Int)]) ∧ Nx w w'
theorem rhead_tree (t : Ty) (h : wfT t) (hd : depthT t ≤ 12) (w : World) (s : ByteArray) (hx : Tx s (showT t)) (hs : ((showT t).length : Int) ≤ 8000) : HeadS w s (headT t).1 (bA (headT t).2.1) (bA (headT t).2.2.1) (bA (headT t).2.2.2) 0 := by
  have := rhead_any w s (showT t) hx hs
  rw [headW_show t h hd, wholeT_full t h hd] at this
  exact this

set_option maxRecDepth 100000 in
set_option maxHeartbeats 3200000 in
theorem rdepth_step (w : World) (s : ByteArray) (K E : Nat) (N A B : ByteArray) (dA dB : Nat) (hH : HeadS w s K N A B E) (ha : dA ≤ 100) (hb : dB ≤ 100)
    (hA : E = 0 → K = 13 ∨ K = 14 ∨ K = 15 → ∀ w, Calls Tryd.prog 15 #[.string A] w fun e w' => e = .returned (.int .i64 (dA : Int)) ∧ Nx w w')
    (hB : E = 0 → K = 13 → ∀ w, Calls Tryd.prog 15 #[.string B] w fun e w' => e = .returned (.int .i64 (dB : Int)) ∧ Nx w w') :
    Calls Tryd.prog 15 #[.string s] w fun e w' => e = .returned (.int .i64 ((if E = 0 then (if K = 13 then max dA dB + 1 else if K = 14 ∨ K = 15 then dA + 1 else 0) else 0 : Nat) : Int)) ∧ Nx w w' := by
  have HH := Lib.hid hH
  have HA := Lib.hid hA
  have HB := Lib.hid hB
  obtain ⟨X, hX⟩ : ∃ X, Hid ((if E = 0 then (if K = 13 then max dA dB + 1 else if K = 14 ∨ K = 15 then dA + 1 else 0) else 0) = X) := ⟨_, rfl⟩
  rw [hX.out]
  have haI : (dA : Int) ≤ 100 := by omega
  have hbI : (dB : Int) ≤ 100 := by omega
  clear hH hA hB
  go_enter Tryd.func15, Tryd.ntmps15
  go_wp2_with fail
  refine (show Calls _ _ _ _ _ from HH.out).mono ?_; rintro e w1 ⟨rfl, hn1⟩
  obtain ⟨g, hg⟩ : ∃ g, w1.heap.size = g := ⟨_, rfl⟩
  have hB2 := Blk.new w1 #[.int .i64 (K : Int), .string N, .string A, .string B] 27
  rw [hg] at hB2
  have hN2 := hn1.al (.cells #[.int .i64 (K : Int), .string N, .string A, .string B] 27)
  have HB2 := Lib.hid hB2
  have HN2 := Lib.hid hN2
  clear hB2 hN2 hn1
  go_upto_region 2 with fail
  generalize hW : World.alloc w1 _ = w2
  rw [hW] at HB2 HN2
  clear hW hg
  obtain ⟨c0, c1, c2, c3, f0, f1, f2, f3⟩ := cells4 HB2.out
  by_cases hE : E = 0
  · have z0 : ((E : Int) != 0) = false := by rw [bne_eq_false_iff_eq]; omega
    have hx0 := hX.out
    rw [if_pos hE] at hx0
    have HX0 := Lib.hid hx0
    have HA := Lib.hid (HA.out hE)
    have HB := Lib.hid (HB.out hE)
    clear hx0
    clear hE
    by_cases h13 : K = 13
    · have t15 : ((K : Int) != 15) = true := by rw [bne_iff_ne]; omega
      have t14 : ((K : Int) != 14) = true := by rw [bne_iff_ne]; omega
      have t13 : ((K : Int) != 13) = false := by rw [bne_eq_false_iff_eq]; omega
      have e13 : ((K : Int) == 13) = true := by rw [beq_iff_eq]; omega
      obtain ⟨M, hM⟩ : ∃ M, Hid (max dA dB = M) := ⟨_, rfl⟩
      have hM1 : M ≤ 100 := by rw [← hM.out]; omega
      have hMI : (M : Int) ≤ 100 := by omega
      have hmx : max (dA : Int) (dB : Int) = (M : Int) := by rw [← hM.out]; omega
      have HX : Hid ((X : Int) = (M : Int) + 1) := by have := HX0.out; rw [if_pos h13, hM.out] at this; unfold Hid; omega
      have HA := Lib.hid (HA.out (.inl h13))
      have HB := Lib.hid (HB.out h13)
      clear h13
      go_wp2_with fail
      refine (HA.out w2).mono ?_; rintro e w3 ⟨rfl, hn3⟩
      have HB3 := Lib.hid (HB2.out.below hn3)
      have HN3 := Lib.hid (HN2.out.trans hn3)
      clear hn3 c0 c1 c2 c3 f0 f1 f2 f3
      obtain ⟨c0, c1, c2, c3, f0, f1, f2, f3⟩ := cells4 HB3.out
      go_wp2_with fail
      refine (HB.out w3).mono ?_; rintro e w4 ⟨rfl, hn4⟩
      have HN4 := Lib.hid (HN3.out.trans hn4)
      clear hn4
      go_wp2_with fail
      go_ret
      rw [HX.out]
      exact ⟨rfl, HN4.out⟩
    · have e13 : ((K : Int) == 13) = false := by rw [beq_eq_false_iff_ne]; omega
      by_cases h2 : K = 14 ∨ K = 15
      · have ht : ((K : Int) != 15) = false ∨ ((K : Int) != 15) = true ∧ ((K : Int) != 14) = false := by
          rcases h2 with rfl | rfl
          · exact .inr ⟨rfl, rfl⟩
          · exact .inl rfl
        have HX : Hid ((X : Int) = (dA : Int) + 1) := by have := HX0.out; rw [if_neg h13, if_pos h2] at this; unfold Hid; omega
        have HA := Lib.hid (HA.out (.inr h2))
        clear h13 h2
        rcases ht with t15 | ⟨t15, t14⟩
        all_goals
          go_wp2_with fail
          refine (HA.out w2).mono ?_; rintro e w3 ⟨rfl, hn3⟩
          have HB3 := Lib.hid (HB2.out.below hn3)
          have HN3 := Lib.hid (HN2.out.trans hn3)
          clear hn3 c0 c1 c2 c3 f0 f1 f2 f3
          obtain ⟨c0, c1, c2, c3, f0, f1, f2, f3⟩ := cells4 HB3.out
          go_wp2_with fail
          go_ret
          rw [HX.out]
          exact ⟨rfl, HN3.out⟩
      · have t15 : ((K : Int) != 15) = true := by rw [bne_iff_ne]; omega
        have t14 : ((K : Int) != 14) = true := by rw [bne_iff_ne]; omega
        have t13 : ((K : Int) != 13) = true := by rw [bne_iff_ne]; omega
        have HX : Hid ((X : Int) = 0) := by have := HX0.out; rw [if_neg h13, if_neg h2] at this; unfold Hid; omega
        clear h13 h2
        go_wp2_with fail
        go_ret
        rw [HX.out]
        exact ⟨rfl, HN2.out⟩
  · have z0 : ((E : Int) != 0) = true := by rw [bne_iff_ne]; omega
    have HX : Hid ((X : Int) = 0) := by have := hX.out; rw [if_neg hE] at this; unfold Hid; omega
    clear hE
    go_wp2_with fail
    go_ret
    rw [HX.out]
    exact ⟨rfl, HN2.out⟩

theorem show_len (t : Ty) : (∀ k a, t = .l1 k a → (showT a).length ≤ (showT t).length) ∧ (∀ a b, t = .mp a b → (showT a).length ≤ (showT t).length ∧ (showT b).length ≤ (showT t).length) := by
  constructor
  · rintro k a rfl; simp [showT]; omega
  · rintro a b rfl; simp [showT]; omega
theorem rdepth_tree (t : Ty) : ∀ (w : World) (s : ByteArray), wfT t → depthT t ≤ 12 → Tx s (showT t) → ((showT t).length : Int) ≤ 8000 →
    Calls Tryd.prog 15 #[.string s] w fun e w' => e = .returned (.int .i64 ((depthT t : Nat) : Int)) ∧ Nx w w' := by
  induction t with
  | nm x =>
    intro w s hw hd hx hs
    exact rdepth_step w s 0 0 _ _ _ 0 0 (rhead_tree _ hw hd w s hx hs) (by decide) (by decide) (fun _ h => by omega) (fun _ h => by omega)
  | bs k =>
    intro w s hw hd hx hs
    have hk := bs_ne hw
    have := rdepth_step w s k 0 _ _ _ 0 0 (rhead_tree _ hw hd w s hx hs) (by decide) (by decide) (fun _ h => by omega) (fun _ h => by omega)
    rw [if_pos rfl, if_neg (by omega), if_neg (by omega)] at this
    exact this
  | l1 k a ih =>
    intro w s hw hd hx hs
    have hl := (show_len (.l1 k a)).1 k a rfl
    have hda : depthT a ≤ 12 := by simp [depthT] at hd; omega
    have hk : k = 14 ∨ k = 15 := hw.1
    have := rdepth_step w s k 0 _ (bA (showT a)) _ (depthT a) 0 (rhead_tree _ hw hd w s hx hs) (by omega) (by decide) (fun _ _ w => ih w _ hw.2 hda (Tx.of _) (by omega)) (fun _ h => by omega)
    rw [if_pos rfl, if_neg (by omega), if_pos hk] at this
    exact this
  | mp a b iha ihb =>
    intro w s hw hd hx hs
    have hl := (show_len (.mp a b)).2 a b rfl
    have hda : depthT a ≤ 12 ∧ depthT b ≤ 12 := by simp [depthT] at hd; omega
    have := rdepth_step w s 13 0 _ (bA (showT a)) (bA (showT b)) (depthT a) (depthT b) (rhead_tree _ hw hd w s hx hs) (by omega) (by omega) (fun _ _ w => iha w _ hw.1 hda.1 (Tx.of _) (by omega)) (fun _ _ w => ihb w _ hw.2 hda.2 (Tx.of _) (by omega))
    exact this
theorem rdepth_any (w : World) (s : ByteArray) (l : List UInt8) (hl : Tx s l) (hs : (l.length : Int) ≤ 8000) :
    Calls Tryd.prog 15 #[.string s] w fun e w' => e = .returned (.int .i64 ((depW l : Nat) : Int)) ∧ Nx w w' := by
  unfold depW
  by_cases h : (wholeT l).1 = 0
  · obtain ⟨h1, h2, h3⟩ := wholeT_show l h
    rw [if_neg (by simpa using h)]
    generalize (wholeT l).2 = t at *
    subst h3
    exact rdepth_tree t w s h1 h2 hl hs
  · rw [if_pos h]
    have := rdepth_step w s _ (wholeT l).1 _ _ _ 0 0 (rhead_any w s l hl hs) (by decide) (by decide) (fun h0 => absurd h0 h) (fun h0 => absurd h0 h)
    rw [if_neg h] at this
    exact this
end Go.Proofs.YtpaacfoiiihbeaaDoor
