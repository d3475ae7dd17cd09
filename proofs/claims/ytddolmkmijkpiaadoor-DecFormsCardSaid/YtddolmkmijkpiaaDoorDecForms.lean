/- DecForms: the law returns true and leaves memory as it was. No condition. -/
import Derived.Test.YtddolmkmijkpiaaDoorDecG
namespace Go.Proofs.YtddolmkmijkpiaaDoor
open Go.RowKit

def fT : Array Value := #[.string ⟨#[48]⟩, .string ⟨#[45, 48]⟩, .string ⟨#[49]⟩, .string ⟨#[46, 53]⟩, .string ⟨#[49, 46]⟩, .string ⟨#[]⟩, .string ⟨#[45]⟩, .string ⟨#[101, 53]⟩, .string ⟨#[49, 101]⟩, .string ⟨#[49, 101, 43]⟩, .string ⟨#[49, 101, 52, 48, 48]⟩, .string ⟨#[49, 101, 52, 48, 49]⟩, .string ⟨#[49, 101, 45, 52, 48, 49]⟩, .string ⟨#[49, 46, 55, 57, 55, 54, 57, 51, 49, 51, 52, 56, 54, 50, 51, 49, 53, 55, 101, 51, 48, 56]⟩, .string ⟨#[49, 46, 55, 57, 55, 54, 57, 51, 49, 51, 52, 56, 54, 50, 51, 49, 53, 57, 101, 51, 48, 56]⟩, .string ⟨#[52, 46, 57, 101, 45, 51, 50, 52]⟩, .string ⟨#[50, 46, 52, 101, 45, 51, 50, 52]⟩, .string ⟨#[50, 46, 53, 101, 45, 51, 50, 52]⟩, .string ⟨#[50, 46, 50, 50, 53, 48, 55, 51, 56, 53, 56, 53, 48, 55, 50, 48, 49, 52, 101, 45, 51, 48, 56]⟩, .string ⟨#[50, 46, 50, 50, 53, 48, 55, 51, 56, 53, 56, 53, 48, 55, 50, 48, 49, 49, 101, 45, 51, 48, 56]⟩, .string ⟨#[57, 48, 48, 55, 49, 57, 57, 50, 53, 52, 55, 52, 48, 57, 57, 51]⟩, .string ⟨#[57, 48, 48, 55, 49, 57, 57, 50, 53, 52, 55, 52, 48, 57, 57, 50, 46, 57, 57, 57, 57]⟩, .string ⟨#[49, 32]⟩, .string ⟨#[48, 120, 49]⟩, .string ⟨#[49, 101, 51, 48, 57]⟩, .string ⟨#[49, 46, 101, 53]⟩, .string ⟨#[48, 48, 48, 48, 49, 101, 45, 52, 48, 48]⟩, .string ⟨#[53, 101, 45, 51, 50, 52]⟩]
def fB : Array Value := #[.int .u64 0, .int .u64 9223372036854775808, .int .u64 4607182418800017408, .int .u64 4602678819172646912, .int .u64 0, .int .u64 0, .int .u64 0, .int .u64 0, .int .u64 0, .int .u64 0, .int .u64 0, .int .u64 0, .int .u64 0, .int .u64 9218868437227405311, .int .u64 0, .int .u64 1, .int .u64 0, .int .u64 1, .int .u64 4503599627370496, .int .u64 4503599627370495, .int .u64 4845873199050653696, .int .u64 4845873199050653696, .int .u64 0, .int .u64 0, .int .u64 0, .int .u64 0, .int .u64 0, .int .u64 1]
def fE : Array Value := #[.int .i64 0, .int .i64 0, .int .i64 0, .int .i64 0, .int .i64 2, .int .i64 2, .int .i64 2, .int .i64 2, .int .i64 2, .int .i64 2, .int .i64 5, .int .i64 5, .int .i64 5, .int .i64 0, .int .i64 5, .int .i64 0, .int .i64 0, .int .i64 0, .int .i64 0, .int .i64 0, .int .i64 0, .int .i64 0, .int .i64 2, .int .i64 2, .int .i64 5, .int .i64 2, .int .i64 0, .int .i64 0]
theorem forms (i : Nat) (hi : i < 28) : ∃ (s : ByteArray) (l : List UInt8) (b e : Nat), fT[i]? = some (.string s) ∧ Tx s l ∧ parseS l = (b, e) ∧ fB[i]? = some (.int .u64 b) ∧ fE[i]? = some (.int .i64 e) ∧ (l.length : Int) ≤ 800 := by
  rcases (show i = 0 ∨ i = 1 ∨ i = 2 ∨ i = 3 ∨ i = 4 ∨ i = 5 ∨ i = 6 ∨ i = 7 ∨ i = 8 ∨ i = 9 ∨ i = 10 ∨ i = 11 ∨ i = 12 ∨ i = 13 ∨ i = 14 ∨ i = 15 ∨ i = 16 ∨ i = 17 ∨ i = 18 ∨ i = 19 ∨ i = 20 ∨ i = 21 ∨ i = 22 ∨ i = 23 ∨ i = 24 ∨ i = 25 ∨ i = 26 ∨ i = 27 by omega) with rfl | rfl | rfl | rfl | rfl | rfl | rfl | rfl | rfl | rfl | rfl | rfl | rfl | rfl | rfl | rfl | rfl | rfl | rfl | rfl | rfl | rfl | rfl | rfl | rfl | rfl | rfl | rfl
  · exact ⟨_, [48], 0, 0, rfl, rfl, by decide +kernel, rfl, rfl, by decide⟩
  · exact ⟨_, [45, 48], 9223372036854775808, 0, rfl, rfl, by decide +kernel, rfl, rfl, by decide⟩
  · exact ⟨_, [49], 4607182418800017408, 0, rfl, rfl, by decide +kernel, rfl, rfl, by decide⟩
  · exact ⟨_, [46, 53], 4602678819172646912, 0, rfl, rfl, by decide +kernel, rfl, rfl, by decide⟩
  · exact ⟨_, [49, 46], 0, 2, rfl, rfl, by decide +kernel, rfl, rfl, by decide⟩
  · exact ⟨_, [], 0, 2, rfl, rfl, by decide +kernel, rfl, rfl, by decide⟩
  · exact ⟨_, [45], 0, 2, rfl, rfl, by decide +kernel, rfl, rfl, by decide⟩
  · exact ⟨_, [101, 53], 0, 2, rfl, rfl, by decide +kernel, rfl, rfl, by decide⟩
  · exact ⟨_, [49, 101], 0, 2, rfl, rfl, by decide +kernel, rfl, rfl, by decide⟩
  · exact ⟨_, [49, 101, 43], 0, 2, rfl, rfl, by decide +kernel, rfl, rfl, by decide⟩
  · exact ⟨_, [49, 101, 52, 48, 48], 0, 5, rfl, rfl, by decide +kernel, rfl, rfl, by decide⟩
  · exact ⟨_, [49, 101, 52, 48, 49], 0, 5, rfl, rfl, by decide +kernel, rfl, rfl, by decide⟩
  · exact ⟨_, [49, 101, 45, 52, 48, 49], 0, 5, rfl, rfl, by decide +kernel, rfl, rfl, by decide⟩
  · exact ⟨_, [49, 46, 55, 57, 55, 54, 57, 51, 49, 51, 52, 56, 54, 50, 51, 49, 53, 55, 101, 51, 48, 56], 9218868437227405311, 0, rfl, rfl, by decide +kernel, rfl, rfl, by decide⟩
  · exact ⟨_, [49, 46, 55, 57, 55, 54, 57, 51, 49, 51, 52, 56, 54, 50, 51, 49, 53, 57, 101, 51, 48, 56], 0, 5, rfl, rfl, by decide +kernel, rfl, rfl, by decide⟩
  · exact ⟨_, [52, 46, 57, 101, 45, 51, 50, 52], 1, 0, rfl, rfl, by decide +kernel, rfl, rfl, by decide⟩
  · exact ⟨_, [50, 46, 52, 101, 45, 51, 50, 52], 0, 0, rfl, rfl, by decide +kernel, rfl, rfl, by decide⟩
  · exact ⟨_, [50, 46, 53, 101, 45, 51, 50, 52], 1, 0, rfl, rfl, by decide +kernel, rfl, rfl, by decide⟩
  · exact ⟨_, [50, 46, 50, 50, 53, 48, 55, 51, 56, 53, 56, 53, 48, 55, 50, 48, 49, 52, 101, 45, 51, 48, 56], 4503599627370496, 0, rfl, rfl, by decide +kernel, rfl, rfl, by decide⟩
  · exact ⟨_, [50, 46, 50, 50, 53, 48, 55, 51, 56, 53, 56, 53, 48, 55, 50, 48, 49, 49, 101, 45, 51, 48, 56], 4503599627370495, 0, rfl, rfl, by decide +kernel, rfl, rfl, by decide⟩
  · exact ⟨_, [57, 48, 48, 55, 49, 57, 57, 50, 53, 52, 55, 52, 48, 57, 57, 51], 4845873199050653696, 0, rfl, rfl, by decide +kernel, rfl, rfl, by decide⟩
  · exact ⟨_, [57, 48, 48, 55, 49, 57, 57, 50, 53, 52, 55, 52, 48, 57, 57, 50, 46, 57, 57, 57, 57], 4845873199050653696, 0, rfl, rfl, by decide +kernel, rfl, rfl, by decide⟩
  · exact ⟨_, [49, 32], 0, 2, rfl, rfl, by decide +kernel, rfl, rfl, by decide⟩
  · exact ⟨_, [48, 120, 49], 0, 2, rfl, rfl, by decide +kernel, rfl, rfl, by decide⟩
  · exact ⟨_, [49, 101, 51, 48, 57], 0, 5, rfl, rfl, by decide +kernel, rfl, rfl, by decide⟩
  · exact ⟨_, [49, 46, 101, 53], 0, 2, rfl, rfl, by decide +kernel, rfl, rfl, by decide⟩
  · exact ⟨_, [48, 48, 48, 48, 49, 101, 45, 52, 48, 48], 0, 0, rfl, rfl, by decide +kernel, rfl, rfl, by decide⟩
  · exact ⟨_, [53, 101, 45, 51, 50, 52], 1, 0, rfl, rfl, by decide +kernel, rfl, rfl, by decide⟩
theorem show_0 : ShowR 0 [48, 46, 48, 101, 48] := by unfold ShowR; rw [if_neg (by decide), if_pos (by decide)]; decide
theorem show_m : ShowR 9223372036854775808 [45, 48, 46, 48, 101, 48] := by unfold ShowR; rw [if_neg (by decide), if_pos (by decide)]; decide
theorem show_i : ShowR 9218868437227405312 [] := by unfold ShowR; rw [if_pos (by decide)]
theorem show_1 : ShowR 1 [52, 46, 57, 52, 48, 54, 53, 54, 52, 53, 56, 52, 49, 50, 52, 54, 53, 52, 101, 45, 51, 50, 52] := by
  refine showR_of _ (-324) 49406564584124654 _ (by decide +kernel) (by decide) (by unfold GE10; decide +kernel) (by unfold GE10; decide +kernel) (by decide +kernel) ?_
  unfold showD
  rw [← decF_small 20 49406564584124654 (by decide)]
  decide +kernel
theorem show_9218868437227405311 : ShowR 9218868437227405311 [49, 46, 55, 57, 55, 54, 57, 51, 49, 51, 52, 56, 54, 50, 51, 49, 53, 55, 101, 51, 48, 56] := by
  refine showR_of _ (308) 17976931348623157 _ (by decide +kernel) (by decide) (by unfold GE10; decide +kernel) (by unfold GE10; decide +kernel) (by decide +kernel) ?_
  unfold showD
  rw [← decF_small 20 17976931348623157 (by decide)]
  decide +kernel
theorem int_m : intS (-9223372036854775808) = 14114281232179134464 := by decide +kernel

set_option maxRecDepth 100000 in
set_option maxHeartbeats 3200000 in
theorem DecForms_walk (w : World) (ht : Tab w) :
    Calls Tryd.prog 9 #[] w fun e w' => e = .returned (.bool true) ∧ Below w.heap.size w w' := by
  have im := Lib.hid int_m
  have HF := Lib.hid forms
  have HT0 := Lib.hid ht
  go_enter Tryd.func9, Tryd.ntmps9
  go_wp2_with fail
  refine (dbegun_any _ ht).mono ?_; rintro e w0 ⟨rfl, hb⟩
  go_wp2_with fail
  obtain ⟨g, hg⟩ : ∃ g, w0.heap.size = g := ⟨_, rfl⟩
  rw [hg]
  generalize hW : (((w0.alloc _).alloc _).alloc _) = W
  have hB0 : Blk W g g fT 9 := by rw [← hW, ← hg]; exact ((Blk.new w0 fT _).alloc _).alloc _
  have hB1 : Blk W g (g + 1) fB 23 := by
    rw [← hW, ← hg, show w0.heap.size + 1 = (w0.alloc (.cells fT 9)).heap.size from by simp]
    exact ((Blk.new (w0.alloc (.cells fT 9)) fB _).less (by simp)).alloc _
  have hB2 : Blk W g (g + 1 + 1) fE 24 := by
    rw [← hW, ← hg, show w0.heap.size + 1 + 1 = ((w0.alloc (.cells fT 9)).alloc (.cells fB 23)).heap.size from by simp]
    exact (Blk.new ((w0.alloc (.cells fT 9)).alloc (.cells fB 23)) fE _).less (by simp; omega)
  have hN : Nx w W := by rw [← hW]; exact Nx.al (Nx.al (Nx.al hb _) _) _
  clear hW
  go_loopw [4] (fun v wr => ∃ i : Nat, v = .int .i64 i ∧ i ≤ 28 ∧ Nx W wr) (fun v _ => (28 - intOf v).toNat)
  case atStart => exact ⟨0, rfl, by decide, Nx.refl _⟩
  case round =>
    obtain ⟨i, rfl, hi, hbr⟩ := hrel
    by_cases hlt : i < 28
    · obtain ⟨s, l, b, e, h1, h2, h3, h4, h5, h6⟩ := HF.out i hlt
      have c1 : wr.cell? ⟨g, i, none⟩ = some (.string s) := by rw [(hB0.below hbr).cell i]; exact h1
      have HS2 := Lib.hid h2
      have HS3 := Lib.hid h3
      have H4 := Lib.hid h4
      have H5 := Lib.hid h5
      clear h1 h2 h3 h4 h5
      go_wp2_with fail
      refine (parse_any s l _ HS2.out h6).mono ?_; rintro e' w9 ⟨rfl, hw9⟩
      rw [HS3.out]
      have hN9 := Nx.trans hbr hw9
      have c2 : w9.cell? ⟨g + 1, i, none⟩ = some (.int .u64 b) := by rw [(hB1.below hN9).cell i]; exact H4.out
      have c3 : w9.cell? ⟨g + 1 + 1, i, none⟩ = some (.int .i64 e) := by rw [(hB2.below hN9).cell i]; exact H5.out
      go_wp2_with fail
      go_roundw
      case rel => exact ⟨i + 1, by go_num, hlt, hN9⟩
      case measure => simp [intOf]; omega
    · obtain rfl : i = 28 := by omega
      have hn0 := Nx.trans hN hbr
      go_wp2_with fail
      refine (show_any 0 _ (by decide) (HT0.out.nx hn0)).mono ?_; rintro e wq1 ⟨t1, l1, rfl, hT1, hS1, hq1⟩
      have hl1 := showR_one hS1.out show_0
      subst hl1
      have hz1 := hT1.out.toL
      have hn1 := Nx.trans hn0 hq1
      go_wp2_with fail
      refine (show_any 9223372036854775808 _ (by decide) (HT0.out.nx hn1)).mono ?_; rintro e wq2 ⟨t2, l2, rfl, hT2, hS2, hq2⟩
      have hl2 := showR_one hS2.out show_m
      subst hl2
      have hz2 := hT2.out.toL
      have hn2 := Nx.trans hn1 hq2
      go_wp2_with fail
      refine (show_any 1 _ (by decide) (HT0.out.nx hn2)).mono ?_; rintro e wq3 ⟨t3, l3, rfl, hT3, hS3, hq3⟩
      have hl3 := showR_one hS3.out show_1
      subst hl3
      have hz3 := hT3.out.toL
      have hn3 := Nx.trans hn2 hq3
      go_wp2_with fail
      refine (show_any 9218868437227405311 _ (by decide) (HT0.out.nx hn3)).mono ?_; rintro e wq4 ⟨t4, l4, rfl, hT4, hS4, hq4⟩
      have hl4 := showR_one hS4.out show_9218868437227405311
      subst hl4
      have hz4 := hT4.out.toL
      have hn4 := Nx.trans hn3 hq4
      go_wp2_with fail
      refine (show_any 9218868437227405312 _ (by decide) (HT0.out.nx hn4)).mono ?_; rintro e wq5 ⟨t5, l5, rfl, hT5, hS5, hq5⟩
      have hl5 := showR_one hS5.out show_i
      subst hl5
      have hz5 := hT5.out.toL
      have hn5 := Nx.trans hn4 hq5
      go_wp2_with fail
      refine (int_any (-9223372036854775808) _ (by decide) (by decide)).mono ?_; rintro e wz ⟨rfl, hwz⟩
      rw [im.out]
      go_wp2_with fail
      go_ret
      exact ⟨rfl, Nx.trans hn5 hwz⟩
end Go.Proofs.YtddolmkmijkpiaaDoor
