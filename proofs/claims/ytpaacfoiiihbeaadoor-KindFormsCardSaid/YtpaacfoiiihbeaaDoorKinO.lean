/- KindForms: which texts are types. -/
import Derived.Test.YtpaacfoiiihbeaaDoorKinM
set_option linter.unusedVariables false
set_option linter.unusedSimpArgs false
namespace Go.Proofs.YtpaacfoiiihbeaaDoor
open Go.RowKit

def kG : Array Value := #[.string ⟨#[98, 111, 111, 108]⟩, .string ⟨#[105, 56]⟩, .string ⟨#[105, 49, 54]⟩, .string ⟨#[105, 51, 50]⟩, .string ⟨#[105, 54, 52]⟩, .string ⟨#[100, 111, 117, 98, 108, 101]⟩, .string ⟨#[115, 116, 114, 105, 110, 103]⟩, .string ⟨#[98, 105, 110, 97, 114, 121]⟩, .string ⟨#[108, 105, 115, 116, 60, 105, 56, 62]⟩, .string ⟨#[115, 101, 116, 60, 97, 62]⟩, .string ⟨#[109, 97, 112, 60, 105, 56, 44, 108, 105, 115, 116, 60, 98, 46, 99, 62, 62]⟩, .string ⟨#[95, 97, 46, 98, 49]⟩, .string ⟨#[98, 121, 116, 101]⟩, .string ⟨#[115, 116, 114, 117, 99, 116]⟩, .string ⟨#[97, 46, 105, 51, 50]⟩]
def kK : Array Value := #[.int .i64 2, .int .i64 3, .int .i64 6, .int .i64 8, .int .i64 10, .int .i64 4, .int .i64 11, .int .i64 16, .int .i64 15, .int .i64 14, .int .i64 13, .int .i64 0, .int .i64 0, .int .i64 0, .int .i64 0]
def kB : Array Value := #[.string ⟨#[]⟩, .string ⟨#[108, 105, 115, 116]⟩, .string ⟨#[108, 105, 115, 116, 60, 62]⟩, .string ⟨#[108, 105, 115, 116, 60, 105, 56]⟩, .string ⟨#[108, 105, 115, 116, 60, 105, 56, 62, 62]⟩, .string ⟨#[109, 97, 112, 60, 105, 56, 62]⟩, .string ⟨#[109, 97, 112, 60, 105, 56, 44, 32, 105, 56, 62]⟩, .string ⟨#[109, 97, 112, 60, 105, 56, 44, 105, 56, 44, 105, 56, 62]⟩, .string ⟨#[32, 105, 56]⟩, .string ⟨#[105, 56, 32]⟩, .string ⟨#[49, 97]⟩, .string ⟨#[97, 46]⟩, .string ⟨#[46, 97]⟩, .string ⟨#[97, 46, 46, 98]⟩, .string ⟨#[105, 56, 46, 120]⟩, .string ⟨#[108, 105, 115, 116, 46, 120]⟩, .string ⟨#[97, 46, 49]⟩, .string ⟨#[115, 101, 116, 60, 108, 105, 115, 116, 62]⟩, .string ⟨#[97, 45, 98]⟩]
theorem kgood (i : Nat) (hi : i < 15) : ∃ (s : ByteArray) (l : List UInt8) (k : Nat) (n a b : List UInt8) (X : Bool), kG[i]? = some (.string s) ∧ Tx s l ∧ (wholeT l).1 = 0 ∧ headW l = (k, n, a, b) ∧ kK[i]? = some (.int .i64 (k : Int)) ∧ ((k : Int) == 0) = X ∧ (n == l) = X ∧ (l.length : Int) ≤ 8000 := by
  rcases (show i = 0 ∨ i = 1 ∨ i = 2 ∨ i = 3 ∨ i = 4 ∨ i = 5 ∨ i = 6 ∨ i = 7 ∨ i = 8 ∨ i = 9 ∨ i = 10 ∨ i = 11 ∨ i = 12 ∨ i = 13 ∨ i = 14 by omega) with rfl | rfl | rfl | rfl | rfl | rfl | rfl | rfl | rfl | rfl | rfl | rfl | rfl | rfl | rfl
  · exact ⟨⟨#[98, 111, 111, 108]⟩, [98, 111, 111, 108], 2, [], [], [], false, rfl, rfl, by decide +kernel, by decide +kernel, rfl, by decide, by decide, by decide⟩
  · exact ⟨⟨#[105, 56]⟩, [105, 56], 3, [], [], [], false, rfl, rfl, by decide +kernel, by decide +kernel, rfl, by decide, by decide, by decide⟩
  · exact ⟨⟨#[105, 49, 54]⟩, [105, 49, 54], 6, [], [], [], false, rfl, rfl, by decide +kernel, by decide +kernel, rfl, by decide, by decide, by decide⟩
  · exact ⟨⟨#[105, 51, 50]⟩, [105, 51, 50], 8, [], [], [], false, rfl, rfl, by decide +kernel, by decide +kernel, rfl, by decide, by decide, by decide⟩
  · exact ⟨⟨#[105, 54, 52]⟩, [105, 54, 52], 10, [], [], [], false, rfl, rfl, by decide +kernel, by decide +kernel, rfl, by decide, by decide, by decide⟩
  · exact ⟨⟨#[100, 111, 117, 98, 108, 101]⟩, [100, 111, 117, 98, 108, 101], 4, [], [], [], false, rfl, rfl, by decide +kernel, by decide +kernel, rfl, by decide, by decide, by decide⟩
  · exact ⟨⟨#[115, 116, 114, 105, 110, 103]⟩, [115, 116, 114, 105, 110, 103], 11, [], [], [], false, rfl, rfl, by decide +kernel, by decide +kernel, rfl, by decide, by decide, by decide⟩
  · exact ⟨⟨#[98, 105, 110, 97, 114, 121]⟩, [98, 105, 110, 97, 114, 121], 16, [], [], [], false, rfl, rfl, by decide +kernel, by decide +kernel, rfl, by decide, by decide, by decide⟩
  · exact ⟨⟨#[108, 105, 115, 116, 60, 105, 56, 62]⟩, [108, 105, 115, 116, 60, 105, 56, 62], 15, [], [105, 56], [], false, rfl, rfl, by decide +kernel, by decide +kernel, rfl, by decide, by decide, by decide⟩
  · exact ⟨⟨#[115, 101, 116, 60, 97, 62]⟩, [115, 101, 116, 60, 97, 62], 14, [], [97], [], false, rfl, rfl, by decide +kernel, by decide +kernel, rfl, by decide, by decide, by decide⟩
  · exact ⟨⟨#[109, 97, 112, 60, 105, 56, 44, 108, 105, 115, 116, 60, 98, 46, 99, 62, 62]⟩, [109, 97, 112, 60, 105, 56, 44, 108, 105, 115, 116, 60, 98, 46, 99, 62, 62], 13, [], [105, 56], [108, 105, 115, 116, 60, 98, 46, 99, 62], false, rfl, rfl, by decide +kernel, by decide +kernel, rfl, by decide, by decide, by decide⟩
  · exact ⟨⟨#[95, 97, 46, 98, 49]⟩, [95, 97, 46, 98, 49], 0, [95, 97, 46, 98, 49], [], [], true, rfl, rfl, by decide +kernel, by decide +kernel, rfl, by decide, by decide, by decide⟩
  · exact ⟨⟨#[98, 121, 116, 101]⟩, [98, 121, 116, 101], 0, [98, 121, 116, 101], [], [], true, rfl, rfl, by decide +kernel, by decide +kernel, rfl, by decide, by decide, by decide⟩
  · exact ⟨⟨#[115, 116, 114, 117, 99, 116]⟩, [115, 116, 114, 117, 99, 116], 0, [115, 116, 114, 117, 99, 116], [], [], true, rfl, rfl, by decide +kernel, by decide +kernel, rfl, by decide, by decide, by decide⟩
  · exact ⟨⟨#[97, 46, 105, 51, 50]⟩, [97, 46, 105, 51, 50], 0, [97, 46, 105, 51, 50], [], [], true, rfl, rfl, by decide +kernel, by decide +kernel, rfl, by decide, by decide, by decide⟩
theorem kbad (i : Nat) (hi : i < 19) : ∃ (s : ByteArray) (l : List UInt8), kB[i]? = some (.string s) ∧ Tx s l ∧ (wholeT l).1 = 2 ∧ (l.length : Int) ≤ 8000 := by
  rcases (show i = 0 ∨ i = 1 ∨ i = 2 ∨ i = 3 ∨ i = 4 ∨ i = 5 ∨ i = 6 ∨ i = 7 ∨ i = 8 ∨ i = 9 ∨ i = 10 ∨ i = 11 ∨ i = 12 ∨ i = 13 ∨ i = 14 ∨ i = 15 ∨ i = 16 ∨ i = 17 ∨ i = 18 by omega) with rfl | rfl | rfl | rfl | rfl | rfl | rfl | rfl | rfl | rfl | rfl | rfl | rfl | rfl | rfl | rfl | rfl | rfl | rfl
  · exact ⟨⟨#[]⟩, [], rfl, rfl, by decide +kernel, by decide⟩
  · exact ⟨⟨#[108, 105, 115, 116]⟩, [108, 105, 115, 116], rfl, rfl, by decide +kernel, by decide⟩
  · exact ⟨⟨#[108, 105, 115, 116, 60, 62]⟩, [108, 105, 115, 116, 60, 62], rfl, rfl, by decide +kernel, by decide⟩
  · exact ⟨⟨#[108, 105, 115, 116, 60, 105, 56]⟩, [108, 105, 115, 116, 60, 105, 56], rfl, rfl, by decide +kernel, by decide⟩
  · exact ⟨⟨#[108, 105, 115, 116, 60, 105, 56, 62, 62]⟩, [108, 105, 115, 116, 60, 105, 56, 62, 62], rfl, rfl, by decide +kernel, by decide⟩
  · exact ⟨⟨#[109, 97, 112, 60, 105, 56, 62]⟩, [109, 97, 112, 60, 105, 56, 62], rfl, rfl, by decide +kernel, by decide⟩
  · exact ⟨⟨#[109, 97, 112, 60, 105, 56, 44, 32, 105, 56, 62]⟩, [109, 97, 112, 60, 105, 56, 44, 32, 105, 56, 62], rfl, rfl, by decide +kernel, by decide⟩
  · exact ⟨⟨#[109, 97, 112, 60, 105, 56, 44, 105, 56, 44, 105, 56, 62]⟩, [109, 97, 112, 60, 105, 56, 44, 105, 56, 44, 105, 56, 62], rfl, rfl, by decide +kernel, by decide⟩
  · exact ⟨⟨#[32, 105, 56]⟩, [32, 105, 56], rfl, rfl, by decide +kernel, by decide⟩
  · exact ⟨⟨#[105, 56, 32]⟩, [105, 56, 32], rfl, rfl, by decide +kernel, by decide⟩
  · exact ⟨⟨#[49, 97]⟩, [49, 97], rfl, rfl, by decide +kernel, by decide⟩
  · exact ⟨⟨#[97, 46]⟩, [97, 46], rfl, rfl, by decide +kernel, by decide⟩
  · exact ⟨⟨#[46, 97]⟩, [46, 97], rfl, rfl, by decide +kernel, by decide⟩
  · exact ⟨⟨#[97, 46, 46, 98]⟩, [97, 46, 46, 98], rfl, rfl, by decide +kernel, by decide⟩
  · exact ⟨⟨#[105, 56, 46, 120]⟩, [105, 56, 46, 120], rfl, rfl, by decide +kernel, by decide⟩
  · exact ⟨⟨#[108, 105, 115, 116, 46, 120]⟩, [108, 105, 115, 116, 46, 120], rfl, rfl, by decide +kernel, by decide⟩
  · exact ⟨⟨#[97, 46, 49]⟩, [97, 46, 49], rfl, rfl, by decide +kernel, by decide⟩
  · exact ⟨⟨#[115, 101, 116, 60, 108, 105, 115, 116, 62]⟩, [115, 101, 116, 60, 108, 105, 115, 116, 62], rfl, rfl, by decide +kernel, by decide⟩
  · exact ⟨⟨#[97, 45, 98]⟩, [97, 45, 98], rfl, rfl, by decide +kernel, by decide⟩

set_option maxRecDepth 100000 in
set_option maxHeartbeats 6400000 in
theorem KindForms_walk (w : World) (ht : TabK w) (hm : MaxC w) :
    Calls Tryd.prog 6 #[] w fun e w' => e = .returned (.bool true) ∧ Below w.heap.size w w' := by
  have HG := Lib.hid kgood
  have HBd := Lib.hid kbad
  have HT := Lib.hid ht
  have HM := Lib.hid hm
  clear ht hm
  go_enter Tryd.func6, Tryd.ntmps6
  go_wp2_with fail
  refine (kbegun_any w HT.out HM.out).mono ?_; rintro e w0 ⟨rfl, hb⟩
  go_wp2_with fail
  obtain ⟨g, hg⟩ : ∃ g, w0.heap.size = g := ⟨_, rfl⟩
  rw [hg]
  generalize hW : (((w0.alloc _).alloc _).alloc _) = W
  have hB0 : Blk W g g kG 9 := by rw [← hW, ← hg]; exact ((Blk.new w0 kG _).alloc _).alloc _
  have hB1 : Blk W g (g + 1) kK 3 := by
    rw [← hW, ← hg, show w0.heap.size + 1 = (w0.alloc (.cells kG 9)).heap.size from by simp]
    exact ((Blk.new (w0.alloc (.cells kG 9)) kK _).less (by simp)).alloc _
  have hB2 : Blk W g (g + 1 + 1) kB 9 := by
    rw [← hW, ← hg, show w0.heap.size + 1 + 1 = ((w0.alloc (.cells kG 9)).alloc (.cells kK 3)).heap.size from by simp]
    exact (Blk.new ((w0.alloc (.cells kG 9)).alloc (.cells kK 3)) kB _).less (by simp; omega)
  have hN : Nx w W := by rw [← hW]; exact Nx.al (Nx.al (Nx.al hb _) _) _
  clear hW
  go_loopw [4] (fun v wr => ∃ i : Nat, v = .int .i64 i ∧ i ≤ 15 ∧ Nx W wr) (fun v _ => (15 - intOf v).toNat)
  case atStart => exact ⟨0, rfl, by decide, Nx.refl _⟩
  case round =>
    obtain ⟨i, rfl, hi, hbr⟩ := hrel
    have HNr := Lib.hid (Nx.trans hN hbr)
    by_cases hlt : i < 15
    · obtain ⟨s, l, k, n, a, b, X, h1, h2, h3, h4, h5, h6, h7, h8⟩ := HG.out i hlt
      have c1 : wr.cell? ⟨g, i, none⟩ = some (.string s) := by rw [(hB0.below hbr).cell i]; exact h1
      have H5 := Lib.hid h5
      have h7 : ((bA n).toList == s.toList) = X := by rw [show (bA n).toList = n from (Tx.of n).toL, h2.toL]; exact h7
      have HH : Hid (∀ w, TabK w → MaxC w → Calls Tryd.prog 9 #[.string s] w fun e w' => e = .returned (.tuple #[.int .i64 (k : Int), .string (bA n), .string (bA a), .string (bA b), .int .i64 0]) ∧ Nx w w') := by
        intro w ht hm
        have := head_any w s l h2 h8 ht hm
        rw [h4, h3] at this
        exact this
      clear h1 h2 h3 h4 h5 h8
      go_wp2_with fail
      refine (HH.out wr (HT.out.nx HNr.out) (HM.out.nx HNr.out)).mono ?_; rintro e w9 ⟨rfl, hw9⟩
      have hN9 := Nx.trans hbr hw9
      have c2 : w9.cell? ⟨g + 1, i, none⟩ = some (.int .i64 (k : Int)) := by rw [(hB1.below hN9).cell i]; exact H5.out
      have c3 : w9.cell? ⟨g, i, none⟩ = some (.string s) := c1 ▸ hw9.cell (p := ⟨g, i, none⟩) (hB0.below hbr).lt
      have hkk : ((k : Int) != (k : Int)) = false := by simp
      clear hw9 c1
      cases X
      · go_wp2_with fail
        go_roundw
        case rel => exact ⟨i + 1, by go_num, hlt, hN9⟩
        case measure => simp [intOf]; omega
      · go_wp2_with fail
        go_roundw
        case rel => exact ⟨i + 1, by go_num, hlt, hN9⟩
        case measure => simp [intOf]; omega
    · obtain rfl : i = 15 := by omega
      clear hlt hi
      go_wp2_with fail
      go_loopw [10] (fun v wx => ∃ i : Nat, v = .int .i64 i ∧ i ≤ 19 ∧ Nx W wx) (fun v _ => (19 - intOf v).toNat)
      case atStart => exact ⟨0, rfl, by decide, hbr⟩
      case round =>
        obtain ⟨i, rfl, hi, hbx⟩ := hrel
        have HNx := Lib.hid (Nx.trans hN hbx)
        by_cases hlt : i < 19
        · obtain ⟨s, l, h1, h2, h3, h8⟩ := HBd.out i hlt
          have c1 : wr.cell? ⟨g + 1 + 1, i, none⟩ = some (.string s) := by rw [(hB2.below hbx).cell i]; exact h1
          have HH : Hid (∀ w, TabK w → MaxC w → Calls Tryd.prog 9 #[.string s] w fun e w' => e = .returned (.tuple #[.int .i64 0, .string ⟨#[]⟩, .string ⟨#[]⟩, .string ⟨#[]⟩, .int .i64 2]) ∧ Nx w w') := by
            intro w ht hm
            have := head_any w s l h2 h8 ht hm
            unfold headW at this
            rw [h3, if_pos (by decide)] at this
            exact this
          have HY : Hid (∀ w, TabK w → MaxC w → Calls Tryd.prog 13 #[.string s] w fun e w' => e = .returned (.bool false) ∧ Nx w w') := by
            intro w ht hm
            have := may_any w s l h2 h8 ht hm
            rw [h3] at this
            exact this
          clear h1 h2 h3 h8
          go_wp2_with fail
          refine (HH.out wr (HT.out.nx HNx.out) (HM.out.nx HNx.out)).mono ?_; rintro e w9 ⟨rfl, hw9⟩
          have hN9 := Nx.trans hbx hw9
          have HN9 := Lib.hid (Nx.trans hN hN9)
          have c3 : w9.cell? ⟨g + 1 + 1, i, none⟩ = some (.string s) := c1 ▸ hw9.cell (p := ⟨g + 1 + 1, i, none⟩) (hB2.below hbx).lt
          clear hw9 c1
          go_wp2_with fail
          refine (HY.out w9 (HT.out.nx HN9.out) (HM.out.nx HN9.out)).mono ?_; rintro e w8 ⟨rfl, hw8⟩
          go_wp2_with fail
          go_roundw
          case rel => ((repeat apply Exists.intro); exact ⟨⟨i + 1, rfl, hlt, hN9.trans hw8⟩, rfl⟩)
          case measure => simp [intOf]; omega
        · obtain rfl : i = 19 := by omega
          have HS1 : Hid (∀ w, TabK w → Calls Tryd.prog 18 #[.int .i64 99, .string ⟨#[120]⟩, .string ⟨#[97]⟩, .string ⟨#[98]⟩] w fun e w' => e = .returned (.string ⟨#[]⟩) ∧ Nx w w') := fun w ht =>
            show_any w 99 ⟨#[120]⟩ ⟨#[97]⟩ ⟨#[98]⟩ [120] [97] [98] rfl rfl rfl (by decide) (by decide) (by decide) (by decide) ht
          have HS2 : Hid (∀ w, TabK w → Calls Tryd.prog 18 #[.int .i64 0, .string ⟨#[120]⟩, .string ⟨#[]⟩, .string ⟨#[]⟩] w fun e w' => e = .returned (.string ⟨#[120]⟩) ∧ Nx w w') := fun w ht =>
            show_any w 0 ⟨#[120]⟩ ⟨#[]⟩ ⟨#[]⟩ [120] [] [] rfl rfl rfl (by decide) (by decide) (by decide) (by decide) ht
          clear hlt hi
          go_wp2_with fail
          refine (HS1.out wr (HT.out.nx HNx.out)).mono ?_; rintro e w1 ⟨rfl, hn1⟩
          have HN1 := Lib.hid (HNx.out.trans hn1)
          clear hn1
          go_wp2_with fail
          refine (HS2.out w1 (HT.out.nx HN1.out)).mono ?_; rintro e w2 ⟨rfl, hn2⟩
          have HN2 := Lib.hid (HN1.out.trans hn2)
          clear hn2
          go_wp2_with fail
          refine (wire_any 16 w2).mono ?_; rintro e w' ⟨rfl, rfl⟩
          rw [show wireS 16 = 11 from by decide]
          go_wp2_with fail
          refine (wire_any 5 w').mono ?_; rintro e w3 ⟨rfl, rfl⟩
          rw [show wireS 5 = 0 from by decide]
          go_wp2_with fail
          refine (wire_any 0 w3).mono ?_; rintro e w4 ⟨rfl, rfl⟩
          rw [show wireS 0 = 0 from by decide]
          go_wp2_with fail
          refine (wire_any 12 w4).mono ?_; rintro e w5 ⟨rfl, rfl⟩
          rw [show wireS 12 = 12 from by decide]
          go_wp2_with fail
          go_ret
          exact ⟨rfl, HN2.out⟩
end Go.Proofs.YtpaacfoiiihbeaaDoor
