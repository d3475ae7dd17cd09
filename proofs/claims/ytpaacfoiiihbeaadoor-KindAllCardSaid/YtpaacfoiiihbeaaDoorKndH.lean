/- KindAll: the program and the document's answer say the same of every text. -/
import Derived.Test.YtpaacfoiiihbeaaDoorKndG
set_option linter.unusedVariables false
set_option linter.unusedSimpArgs false
namespace Go.Proofs.YtpaacfoiiihbeaaDoor
open Go.RowKit

theorem nm_len (t : Ty) (hw : wfT t) (hs : ((showT t).length : Int) ≤ 8000) : ((nmB t).length : Int) ≤ 8000 := by
  have := names_len t hw
  rw [nmB_len]; omega
theorem rnames_tree (t : Ty) : ∀ (w : World) (s : ByteArray), wfT t → depthT t ≤ 12 → Tx s (showT t) → ((showT t).length : Int) ≤ 8000 →
    Calls Tryd.prog 12 #[.string s] w (NamR w (nmB t)) := by
  induction t with
  | nm x =>
    intro w s hw hd hx hs
    exact rnames_step w s 0 0 _ _ _ [] [] (rhead_tree _ hw hd w s hx hs) (by decide) (fun _ h => by omega) (fun _ h => by omega)
  | bs k =>
    intro w s hw hd hx hs
    have hk := bs_ne hw
    have := rnames_step w s k 0 _ _ _ [] [] (rhead_tree _ hw hd w s hx hs) (by decide) (fun _ h => by omega) (fun _ h => by omega)
    rw [if_pos rfl, if_neg (by omega), if_neg (by omega), if_neg (by omega)] at this
    exact this
  | l1 k a ih =>
    intro w s hw hd hx hs
    have hl := (show_len (.l1 k a)).1 k a rfl
    have hda : depthT a ≤ 12 := by simp [depthT] at hd; omega
    have hk : k = 14 ∨ k = 15 := hw.1
    have hn := nm_len a hw.2 (by omega)
    have := rnames_step w s k 0 _ (bA (showT a)) _ (nmB a) [] (rhead_tree _ hw hd w s hx hs) (by simp; omega) (fun _ _ w => ih w _ hw.2 hda (Tx.of _) (by omega)) (fun _ h => by omega)
    rw [if_pos rfl, if_neg (by omega), if_neg (by omega), if_pos hk] at this
    exact this
  | mp a b iha ihb =>
    intro w s hw hd hx hs
    have hl := (show_len (.mp a b)).2 a b rfl
    have hda : depthT a ≤ 12 ∧ depthT b ≤ 12 := by simp [depthT] at hd; omega
    have hn1 := nm_len a hw.1 (by omega)
    have hn2 := nm_len b hw.2 (by omega)
    have := rnames_step w s 13 0 _ (bA (showT a)) (bA (showT b)) (nmB a) (nmB b) (rhead_tree _ hw hd w s hx hs) (by omega) (fun _ _ w => iha w _ hw.1 hda.1 (Tx.of _) (by omega)) (fun _ _ w => ihb w _ hw.2 hda.2 (Tx.of _) (by omega))
    have e : nmB (.mp a b) = nmB a ++ nmB b := by unfold nmB; simp [namesT]
    rw [e]
    exact this
theorem rnames_any (w : World) (s : ByteArray) (l : List UInt8) (hl : Tx s l) (hs : (l.length : Int) ≤ 8000) :
    Calls Tryd.prog 12 #[.string s] w (NamR w (namesW l)) := by
  unfold namesW
  by_cases h : (wholeT l).1 = 0
  · obtain ⟨h1, h2, h3⟩ := wholeT_show l h
    rw [if_neg (by simpa using h)]
    generalize (wholeT l).2 = t at *
    subst h3
    exact rnames_tree t w s h1 h2 hl hs
  · rw [if_pos h]
    have := rnames_step w s _ (wholeT l).1 _ _ _ [] [] (rhead_any w s l hl hs) (by decide) (fun h0 => absurd h0 h) (fun h0 => absurd h0 h)
    rw [if_neg h] at this
    exact this

set_option maxRecDepth 100000 in
set_option maxHeartbeats 6400000 in
theorem KindAll_walk (s : ByteArray) (n : Int) (w : World) (ht : TabK w) (hm : MaxC w) (hs : s.size ≤ maxLen) (hn1 : -9223372036854775808 ≤ n) (hn2 : n ≤ 9223372036854775807) :
    Calls Tryd.prog 3 #[.string s, .int .i64 n] w fun e w' => e = .returned (.bool true) ∧ Below w.heap.size w w' := by
  obtain ⟨l, hl⟩ : ∃ l, Tx s l := ⟨_, rfl⟩
  have hz : (s.size : Int) = (l.length : Int) := by rw [hl.size]
  have HL := Lib.hid hl
  have HT := Lib.hid ht
  have HM := Lib.hid hm
  have HZ := Lib.hid hz
  clear hl ht hm hz
  by_cases hlong : 200 < s.size
  · have g1 : decide ((200 : Int) < (s.size : Int)) = true := decide_eq_true (by omega)
    clear hlong
    go_enter Tryd.func3, Tryd.ntmps3
    go_wp2_with fail
    refine (kbegun_any w HT.out HM.out).mono ?_; rintro e w1 ⟨rfl, hn1⟩
    go_wp2_with fail
    go_ret
    exact ⟨rfl, hn1⟩
  · have g1 : decide ((200 : Int) < (s.size : Int)) = false := decide_eq_false (by omega)
    have hl8 : (l.length : Int) ≤ 8000 := by rw [← HZ.out]; omega
    have H1 := Lib.hid (fun w ht hm => head_any w s l HL.out hl8 ht hm)
    have H2 := Lib.hid (fun w => rhead_any w s l HL.out hl8)
    have H3 := Lib.hid (fun w ht hm => names_any w s l HL.out hl8 ht hm)
    have H4 := Lib.hid (fun w => rnames_any w s l HL.out hl8)
    have H5 := Lib.hid (fun w ht hm => may_any w s l HL.out hl8 ht hm)
    have H6 : Hid (∀ w, TabK w → MaxC w → Calls Tryd.prog 14 #[.string s] w fun e w' => e = .returned (.int .i64 ((depW l : Nat) : Int)) ∧ Nx w w') := fun w ht hm => depth_any w s l HL.out hl8 ht hm
    have H7 := Lib.hid (fun w => rdepth_any w s l HL.out hl8)
    have hxl := namesW_len l
    obtain ⟨xs, hxs⟩ : ∃ xs, Hid (namesW l = xs) := ⟨_, rfl⟩
    obtain ⟨W0, hW0⟩ : ∃ W, Hid ((wholeT l).1 = W) := ⟨_, rfl⟩
    obtain ⟨hH, hHe⟩ : ∃ H, Hid (headW l = H) := ⟨_, rfl⟩
    obtain ⟨dp, hdp⟩ : ∃ d, Hid (depW l = d) := ⟨_, rfl⟩
    rw [hxs.out] at H3 H4 hxl
    rw [hW0.out, hHe.out] at H1 H2
    rw [hW0.out] at H5
    rw [hdp.out] at H6 H7
    obtain ⟨hk, hN, hA, hC⟩ := hH
    dsimp only at H1 H2
    obtain ⟨N, HN0⟩ : ∃ N, Hid (bA hN = N) := ⟨_, rfl⟩
    obtain ⟨A, HA0⟩ : ∃ N, Hid (bA hA = N) := ⟨_, rfl⟩
    obtain ⟨C, HC0⟩ : ∃ N, Hid (bA hC = N) := ⟨_, rfl⟩
    rw [HN0.out, HA0.out, HC0.out] at H1 H2
    have hb : decide (W0 = 0) = ((W0 : Int) == 0) := by rw [Bool.eq_iff_iff]; simp
    obtain ⟨Bv, hb2⟩ : ∃ B, ((W0 : Int) == 0) = B := ⟨_, rfl⟩
    rw [hb, hb2] at H5
    have hxI : (xs.length : Int) ≤ 8000 := by omega
    clear hlong hl8 hxl hb hs
    go_enter Tryd.func3, Tryd.ntmps3
    go_wp2_with fail
    refine (kbegun_any w HT.out HM.out).mono ?_; rintro e w1 ⟨rfl, hn1⟩
    have HN1 := Lib.hid hn1
    clear hn1
    go_wp2_with fail
    refine (H1.out w1 (HT.out.nx HN1.out) (HM.out.nx HN1.out)).mono ?_; rintro e w2 ⟨rfl, hn2⟩
    have HN2 := Lib.hid (HN1.out.trans hn2)
    clear hn2
    go_wp2_with fail
    refine (H2.out w2).mono ?_; rintro e w3 ⟨rfl, hn3⟩
    obtain ⟨g, hg⟩ : ∃ g, w3.heap.size = g := ⟨_, rfl⟩
    have hB4 := Blk.new w3 #[.int .i64 (hk : Int), .string N, .string A, .string C] 27
    rw [hg] at hB4
    have HB4 := Lib.hid hB4
    have HN4 := Lib.hid ((HN2.out.trans hn3).al (.cells #[.int .i64 (hk : Int), .string N, .string A, .string C] 27))
    clear hB4 hn3
    go_upto_region 7 with fail
    generalize hW : World.alloc w3 _ = w4
    rw [hW] at HB4 HN4
    clear hW hg
    go_wp2_with fail
    refine (H3.out w4 (HT.out.nx HN4.out) (HM.out.nx HN4.out)).mono ?_; rintro e w5 ⟨v1, rfl, ho1, hn5⟩
    have HO1 := Lib.hid ho1
    have HN5 := Lib.hid hn5
    clear ho1 hn5
    go_wp2_with fail
    refine (H4.out w5).mono ?_; rintro e w6 ⟨v2, rfl, ho2, -, hn6⟩
    obtain ⟨A1, c1, rfl, hc11, hc12, hr1⟩ := OwnS.sl strC_size (OwnN.nx HO1.out hn6)
    obtain ⟨A2, c2, rfl, hc21, hc22, hr2⟩ := OwnS.sl strC_size ho2
    have HR1 := Lib.hid hr1
    have HR2 := Lib.hid hr2
    have HN6 := Lib.hid (HN4.out.trans (HN5.out.trans hn6))
    have HB6 := Lib.hid ((HB4.out.below HN5.out).below hn6)
    clear ho2 hn6 hr1 hr2
    go_wp2_with fail
    go_loopw [14] (fun iv wr => ∃ i : Nat, iv = .int .i64 (i : Int) ∧ i ≤ xs.length ∧ Nx w6 wr) (fun iv _ => (10000 - intOf iv).toNat)
    case atStart => exact ⟨0, rfl, Nat.zero_le _, Nx.refl _⟩
    case round =>
      obtain ⟨i, rfl, hi, hnx⟩ := hrel
      have HNX := Lib.hid hnx
      by_cases hlt : i < xs.length
      · have hkd : decide ((i : Int) < (xs.length : Int)) = true := decide_eq_true (by omega)
        obtain ⟨g1, rfl, hg1, hcell1⟩ := RdS.nx HR1.out hnx (by omega)
        obtain ⟨g2, rfl, hg2, hcell2⟩ := RdS.nx HR2.out hnx (by omega)
        have hca0 := hcell1 i hlt 0 (by decide)
        have hcb0 := hcell2 i hlt 0 (by decide)
        have hca : wr.cell? ⟨g1, i, none⟩ = some (.string xs[i]) := by simpa [strC] using hca0
        have hcb : wr.cell? ⟨g2, i, none⟩ = some (.string xs[i]) := by simpa [strC] using hcb0
        have hiI : (i : Int) ≤ 8000 := by omega
        have hi1 : (i : Int) < (xs.length : Int) := by omega
        obtain ⟨y, hy⟩ : ∃ y, Hid (xs[i] = y) := ⟨xs[i], Lib.hid rfl⟩
        rw [hy.out] at hca hcb
        clear hcell1 hcell2 hca0 hcb0 hnx hg1 hg2
        go_wp2_with fail
        go_quiet (fail)
        go_wp2_with fail
        go_roundw
        case rel => exact ⟨i + 1, by go_num, hlt, HNX.out.trans ((Nx.refl _).dr _)⟩
        case measure => simp [intOf]; omega
      · have hkd : decide ((i : Int) < (xs.length : Int)) = false := decide_eq_false (by omega)
        have hkn : ¬ i < xs.length := hlt
        have HB7 := Lib.hid (HB6.out.below hnx)
        have HN7 := Lib.hid (HN6.out.trans hnx)
        obtain ⟨c0, c1', c2', c3, f0, f1, f2, f3⟩ := cells4 HB7.out
        clear hnx f0 f1 f2 f3
        go_wp2_with fail
        refine (H5.out wr (HT.out.nx HN7.out) (HM.out.nx HN7.out)).mono ?_; rintro e w8 ⟨rfl, hn8⟩
        have HN8 := Lib.hid (HN7.out.trans hn8)
        clear hn8 c0 c1' c2' c3
        go_wp2_with fail
        refine (H6.out w8 (HT.out.nx HN8.out) (HM.out.nx HN8.out)).mono ?_; rintro e w9 ⟨rfl, hn9⟩
        have HN9 := Lib.hid (HN8.out.trans hn9)
        clear hn9
        go_wp2_with fail
        refine (H7.out w9).mono ?_; rintro e w10 ⟨rfl, hn10⟩
        have HN10 := Lib.hid (HN9.out.trans hn10)
        clear hn10
        go_wp2_with fail
        refine (wire_any n w10).mono ?_; rintro e w' ⟨rfl, hw'⟩
        obtain rfl := hw'.symm
        go_wp2_with fail
        refine (rwire_any n w10).mono ?_; rintro e w' ⟨rfl, hw'⟩
        obtain rfl := hw'.symm
        go_wp2_with fail
        go_ret
        exact ⟨rfl, HN10.out⟩
end Go.Proofs.YtpaacfoiiihbeaaDoor
