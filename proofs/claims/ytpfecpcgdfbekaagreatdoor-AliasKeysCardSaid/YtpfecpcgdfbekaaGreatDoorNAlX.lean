/- The walk of AliasKeys. -/
import Derived.Test.YtpfecpcgdfbekaaGreatDoorNAlW
import Derived.Test.YtpfecpcgdfbekaaGreatDoorNAlS
set_option linter.unusedVariables false
set_option linter.unusedSimpArgs false
namespace Go.Proofs.YtpfecpcgdfbekaaGreatDoor
open Go.RowKit

set_option maxRecDepth 100000 in
set_option maxHeartbeats 6400000 in
theorem AliasKeys_walk (a b : Int) (w : World) (hk : TabK w) (hm : MaxC w) (ha0 : 0 ≤ a) (ha1 : a ≤ 255) (hb0 : 0 ≤ b) (hb1 : b ≤ 255) :
    Calls Tryz.prog 6 #[.int .u8 a, .int .u8 b] w fun e w' => e = .returned (.bool true) ∧ Below w.heap.size w w' := by
  have HM := Lib.hid hm
  have HK := Lib.hid hk
  have HBG := Lib.hid (albegun_any w hm hk)
  obtain ⟨k, hk1, hk15⟩ : ∃ k : Nat, a % 15 = (k : Int) ∧ k < 15 := ⟨(a % 15).toNat, by omega, by omega⟩
  obtain ⟨j, hj1, hj6⟩ : ∃ j : Nat, b % 6 = (j : Int) ∧ j < 6 := ⟨(b % 6).toNat, by omega, by omega⟩
  have hk2 : a.tmod 15 = (k : Int) := by rw [Int.tmod_eq_emod_of_nonneg ha0, hk1]
  have hj2 : b.tmod 6 = (j : Int) := by rw [Int.tmod_eq_emod_of_nonneg hb0, hj1]
  have HKJ := Lib.hid (show k < 15 ∧ j < 6 from ⟨hk15, hj6⟩)
  have k0 : (0 : Int) ≤ (k : Int) := by omega
  have k1 : (k : Int) < 15 := by omega
  clear hm hk hk15 hj6
  go_enter Tryz.func6, Tryz.ntmps6
  go_wp2_with fail
  refine HBG.out.mono ?_; rintro e w0 ⟨rfl, hn0⟩
  have HN0 := Lib.hid hn0
  clear hn0 HBG
  obtain ⟨gE, hgE⟩ : ∃ g, w0.heap.size = g := ⟨_, rfl⟩
  obtain ⟨w1, hw1⟩ : ∃ w1, w0.alloc (.cells #[.string ⟨#[98, 111, 111, 108]⟩, .string ⟨#[105, 56]⟩, .string ⟨#[105, 49, 54]⟩, .string ⟨#[105, 51, 50]⟩, .string ⟨#[105, 54, 52]⟩, .string ⟨#[100, 111, 117, 98, 108, 101]⟩, .string ⟨#[115, 116, 114, 105, 110, 103]⟩, .string ⟨#[98, 105, 110, 97, 114, 121]⟩, .string ⟨#[69]⟩, .string ⟨#[80]⟩, .string ⟨#[85]⟩, .string ⟨#[88]⟩, .string ⟨#[108, 105, 115, 116, 60, 105, 56, 62]⟩, .string ⟨#[115, 101, 116, 60, 105, 56, 62]⟩, .string ⟨#[109, 97, 112, 60, 105, 56, 44, 105, 56, 62]⟩] 9) = w1 := ⟨_, rfl⟩
  have hbe : Blk w1 gE gE ((keE.map bt).toArray) 9 := by rw [← hw1, ← hgE]; exact Blk.new w0 _ _
  have HN1 : Hid (Nx w w1) := by unfold Hid; rw [← hw1]; exact HN0.out.trans (nx0 _ _)
  have e0 : w1.cell? ⟨gE, k, none⟩ = some (.string ⟨(keT k 0).toArray⟩) := by
    have := hbe.cell k
    rw [this]
    have := HKJ.out.1
    have h2 : k < keE.length := this
    simp [bt, keT, List.getD, h2]
  clear hbe
  go_upto_region 7 with (fail)
  clear hw1 hgE e0
  go_wp2_with fail
  go_loopw [7, 8, 9] (fun v7 v8 v9 wr => ∃ i : Nat, v7 = .string ⟨(keS k i).toArray⟩ ∧ v8 = .string ⟨(keT k i).toArray⟩ ∧ v9 = .int .i64 (i : Int) ∧ i ≤ j ∧ Nx w1 wr) (fun v7 v8 v9 _ => (j - intOf v9).toNat)
  case atStart => exact ⟨0, rfl, rfl, rfl, Nat.zero_le _, Nx.refl _⟩
  case round =>
    obtain ⟨i, rfl, rfl, rfl, hi, hn⟩ := hrel
    have HNX := Lib.hid hn
    clear hn
    by_cases hlt : i < j
    · have q1 : decide ((i : Int) < (j : Int)) = true := decide_eq_true (by omega)
      have q2 : (i : Int) < (j : Int) := by omega
      have HLT := Lib.hid hlt
      have hj5 := HKJ.out.2
      obtain ⟨ch, hch⟩ : ∃ ch : Nat, 97 + i = ch := ⟨_, rfl⟩
      have hchi : (97 : Int) + (i : Int) = (ch : Int) := by omega
      have c1 : (0 : Int) ≤ (ch : Int) := by omega
      have c2 : (ch : Int) ≤ 255 := by omega
      have c3 : (ch : Int) < 256 := by omega
      have c4 : (ch : Int) % 256 = (ch : Int) := by omega
      have i5 : (i : Int) ≤ 5 := by omega
      obtain ⟨g2, hg2⟩ : ∃ g, wr.heap.size = g := ⟨_, rfl⟩
      obtain ⟨w2, hw2⟩ : ∃ x, wr.alloc (.cells #[.int .u8 (ch : Int)] 5) = x := ⟨_, rfl⟩
      have hb2 : Blk w2 g2 g2 #[.int .u8 (ch : Int)] 5 := by rw [← hw2, ← hg2]; exact Blk.new wr _ _
      have hn2 : Nx wr w2 := by rw [← hw2]; exact nx0 _ _
      have HN2 := Lib.hid (HNX.out.trans hn2)
      have HRD : Hid (Rd bv w2 (some ⟨g2, 0, none⟩) [UInt8.ofNat ch]) := by
        unfold Hid
        intro _
        refine ⟨g2, 0, rfl, hb2.lt, fun p hp => ?_⟩
        have hp : p < 1 := hp
        obtain rfl : p = 0 := by omega
        have h := hb2.cell 0
        have e : ((UInt8.ofNat ch).toNat : Int) = (ch : Int) := by simp [UInt8.toNat_ofNat]; omega
        show w2.cell? ⟨g2, 0 + 0, none⟩ = some (bv (UInt8.ofNat ch))
        unfold bv
        rw [e]
        exact h
      have HKN : Hid (keN i = [84, UInt8.ofNat ch]) := by unfold Hid keN; rw [hch]
      have HTN : Hid (Tx ((⟨#[84]⟩ : ByteArray) ++ ⟨#[UInt8.ofNat ch]⟩) (keN i)) := by unfold Hid; rw [HKN.out]; exact (Tx.of [84]).app (Tx.of [UInt8.ofNat ch])
      have HTS : Hid (Tx ((⟨(keS k i).toArray⟩ : ByteArray) ++ ⟨#[32, 116, 121, 112, 101, 100, 101, 102, 32]⟩ ++ ⟨(keT k i).toArray⟩ ++ ⟨#[32]⟩ ++ ((⟨#[84]⟩ : ByteArray) ++ ⟨#[UInt8.ofNat ch]⟩)) (keS k (i + 1))) :=
        ((((Tx.of (keS k i)).app (Tx.of [32, 116, 121, 112, 101, 100, 101, 102, 32])).app (Tx.of (keT k i))).app (Tx.of [32])).app HTN.out
      obtain ⟨lt1, ls1⟩ := ke_len k (List.mem_range.2 HKJ.out.1) i (List.mem_range.2 (by have := HKJ.out.2; omega))
      have z1 : ¬ 9223372036854775807 < (keS k i).length + 9 := by omega
      have z2 : ¬ 9223372036854775807 < (keS k i).length + 9 + (keT k i).length := by omega
      have z3 : ¬ 9223372036854775807 < (keS k i).length + 9 + (keT k i).length + 1 := by omega
      have z4 : ¬ 9223372036854775807 < (keS k i).length + 9 + (keT k i).length + 1 + 2 := by omega
      clear lt1 ls1 hb2 hn2 hlt hch
      go_wp2_with (refine wpList_str _ (o := ⟨some 52, _, _, _, _, _⟩) rfl _ rfl Tryz.underlying22 Tryz.underlying5 Tryz.underlying9 _ _ _ rfl HRD.out ?_; intro t HT ht1 ht2; obtain rfl : t = _ := HT.out; clear HT)
      go_roundw
      case rel => exact ⟨i + 1, by rw [HTS.out.eq], by rw [HTN.out.eq]; rfl, by go_num, HLT.out, HN2.out⟩
      case measure => have := HLT.out; simp [intOf]; omega
    · have q1 : decide ((i : Int) < (j : Int)) = false := decide_eq_false (by omega)
      have q2 : ¬ (i : Int) < (j : Int) := by omega
      obtain rfl : i = j := by omega
      have hkb := ke_all k (List.mem_range.2 HKJ.out.1) i (List.mem_range.2 HKJ.out.2)
      obtain ⟨lt1, ls1⟩ := ke_len k (List.mem_range.2 HKJ.out.1) i (List.mem_range.2 HKJ.out.2)
      unfold keB key2 at hkb
      simp only [Bool.and_eq_true, decide_eq_true_eq] at hkb
      obtain ⟨⟨⟨⟨⟨⟨⟨⟨⟨⟨⟨⟨o1, o2⟩, o3⟩, o4⟩, o5⟩, o6⟩, p1, p1'⟩, p2, p2'⟩, p3, p3'⟩, p4, p4'⟩, p5⟩, p6⟩, p7⟩ := hkb
      have hok : txqB [([97], keS k i)] = true ∧ (loadW [97] [([97], keS k i)]).e = 0 ∧ (loadW [97] [([97], keS k i)]).file = [] ∧ (loadW [97] [([97], keS k i)]).at_ = 0 ∧ (keL k i).names.length = 1 ∧ ldB (keL k i).names (keL k i).files = true := ⟨o1, o2, o3, o4, o5, o6⟩
      clear o1 o2 o3 o4 o5 o6
      have HOK := Lib.hid hok
      have HN0 := Lib.hid (HN1.out.trans HNX.out)
      obtain ⟨M1, hM1⟩ : ∃ x, [115, 101, 116, 60] ++ keT k i ++ [62] = x := ⟨_, rfl⟩
      obtain ⟨M2, hM2⟩ : ∃ x, [109, 97, 112, 60] ++ keT k i ++ [44, 105, 56, 62] = x := ⟨_, rfl⟩
      obtain ⟨M4, hM4⟩ : ∃ x, [109, 97, 112, 60, 105, 56, 44] ++ keT k i ++ [62] = x := ⟨_, rfl⟩
      rw [hM1] at p1 p1'
      rw [hM2] at p2 p2'
      rw [hM4] at p4 p4'
      have m1 : (⟨#[115, 101, 116, 60]⟩ : ByteArray) ++ ⟨(keT k i).toArray⟩ ++ ⟨#[62]⟩ = ⟨M1.toArray⟩ := by rw [← hM1]; exact (((Tx.of [115, 101, 116, 60]).app (Tx.of (keT k i))).app (Tx.of [62])).eq
      have m2 : (⟨#[109, 97, 112, 60]⟩ : ByteArray) ++ ⟨(keT k i).toArray⟩ ++ ⟨#[44, 105, 56, 62]⟩ = ⟨M2.toArray⟩ := by rw [← hM2]; exact (((Tx.of [109, 97, 112, 60]).app (Tx.of (keT k i))).app (Tx.of [44, 105, 56, 62])).eq
      have m4 : (⟨#[109, 97, 112, 60, 105, 56, 44]⟩ : ByteArray) ++ ⟨(keT k i).toArray⟩ ++ ⟨#[62]⟩ = ⟨M4.toArray⟩ := by rw [← hM4]; exact (((Tx.of [109, 97, 112, 60, 105, 56, 44]).app (Tx.of (keT k i))).app (Tx.of [62])).eq
      have y1 : ¬ 9223372036854775807 < 4 + (keT k i).length := by omega
      have y2 : ¬ 9223372036854775807 < 4 + (keT k i).length + 1 := by omega
      have y3 : ¬ 9223372036854775807 < 4 + (keT k i).length + 4 := by omega
      have y4 : ¬ 9223372036854775807 < 7 + (keT k i).length := by omega
      have y5 : ¬ 9223372036854775807 < 7 + (keT k i).length + 1 := by omega
      clear hM1 hM2 hM4 hok lt1 ls1
      obtain ⟨gA, hgA⟩ : ∃ g, wr.heap.size = g := ⟨_, rfl⟩
      obtain ⟨w1, hw1⟩ : ∃ w1, wr.alloc (.cells #[.string ⟨#[97]⟩, .string ⟨(keS k i).toArray⟩] 33) = w1 := ⟨_, rfl⟩
      have hb1 : Blk w1 gA gA #[.string ⟨#[97]⟩, .string ⟨(keS k i).toArray⟩] 33 := by rw [← hw1, ← hgA]; exact Blk.new wr _ _
      have HN1 : Hid (Nx w w1) := by unfold Hid; rw [← hw1]; exact (HN0.out).trans (nx0 _ _)
      have HB1 := Lib.hid hb1
      have hrd : RdW w1 (some ⟨gA, 0, none⟩) [([97], keS k i)] := fun _ => ⟨gA, 0, rfl, HB1.out.lt, fun i hi => by
        have hi : i < 1 := hi
        obtain rfl : i = 0 := by omega
        exact ⟨HB1.out.cell 0, HB1.out.cell 1⟩⟩
      obtain ⟨o1, o2, o3, o4, o5, o6⟩ := HOK.out
      have HLO := Lib.hid (loadq_w w1 [97] _ 1 1 [([97], keS k i)] rfl hrd o1 (by decide) (keL k i).names (keL k i).files 1 rfl rfl o2 o3 o4 o5 o6)
      clear hrd o1 o2 o3 o4 o5 o6 hb1
      go_wp2_with fail
      clear hw1 hgA
      refine HLO.out.mono ?_
      rintro e w2 ⟨nA, nc, fA, fc, rfl, hld, hn2⟩
      obtain ⟨g1, hg1⟩ : ∃ g, w2.heap.size = g := ⟨_, rfl⟩
      obtain ⟨w3, hw3⟩ : ∃ w3, w2.alloc (.cells #[.slice nA 1 nc, .slice fA 1 fc] 28) = w3 := ⟨_, rfl⟩
      have hb3 : Blk w3 g1 g1 #[.slice nA 1 nc, .slice fA 1 fc] 28 := by rw [← hw3, ← hg1]; exact Blk.new w2 _ _
      have hn3 : Nx w2 w3 := by rw [← hw3]; exact nx0 _ _
      have HLD3 := Lib.hid (hld.nx hn3)
      have HN3 := Lib.hid (HN1.out.trans (hn2.trans hn3))
      have a0 : w3.cell? ⟨g1, 0, none⟩ = some (.slice nA 1 nc) := hb3.cell 0
      have a1 : w3.cell? ⟨g1, 1, none⟩ = some (.slice fA 1 fc) := hb3.cell 1
      clear hld hn2 hn3 hb3 HLO
      go_wp2_with fail
      clear hw3 hg1
      refine (from_any w3 nA fA 1 nc 1 fc).mono ?_; rintro e w4 ⟨rfl, hn4⟩
      obtain ⟨g2, hg2⟩ : ∃ g, w4.heap.size = g := ⟨_, rfl⟩
      obtain ⟨w5, hw5⟩ : ∃ w5, w4.alloc (.cells #[.slice nA 1 nc, .slice fA 1 fc] 39) = w5 := ⟨_, rfl⟩
      have hb5 : Blk w5 g2 g2 #[.slice nA 1 nc, .slice fA 1 fc] 39 := by rw [← hw5, ← hg2]; exact Blk.new w4 _ _
      have hn5 : Nx w4 w5 := by rw [← hw5]; exact nx0 _ _
      have HL0 := Lib.hid (HLD3.out.nx (hn4.trans hn5))
      have HA0 := Lib.hid (HN3.out.trans (hn4.trans hn5))
      have HB0 := Lib.hid hb5
      have c0 : w5.cell? ⟨g2, 0, none⟩ = some (.slice nA 1 nc) := hb5.cell 0
      have c1 : w5.cell? ⟨g2, 1, none⟩ = some (.slice fA 1 fc) := hb5.cell 1
      clear hn4 hn5 hb5 a0 a1
      go_upto_region 17 with (fail)
      try rw [hw5]
      clear hw5 hg2
      by_cases h8 : 8 < k
      · rw [if_pos h8] at p1' p2'
        obtain ⟨⟨P1, Q1, E1⟩, hP1⟩ : ∃ x, typP (keL k i).names (keL k i).files [97] M1 = x := ⟨_, rfl⟩
        rw [hP1] at p1'
        obtain rfl : E1 = 11 := p1'
        have HP1 := Lib.hid hP1
        obtain ⟨⟨P2, Q2, E2⟩, hP2⟩ : ∃ x, typP (keL k i).names (keL k i).files [97] M2 = x := ⟨_, rfl⟩
        rw [hP2] at p2'
        obtain rfl : E2 = 11 := p2'
        have HP2 := Lib.hid hP2
        obtain ⟨⟨P3, Q3, E3⟩, hP3⟩ : ∃ x, typP (keL k i).names (keL k i).files [97] (keT k i) = x := ⟨_, rfl⟩
        rw [hP3] at p3'
        obtain rfl : E3 = 0 := p3'
        have HP3 := Lib.hid hP3
        obtain ⟨⟨P4, Q4, E4⟩, hP4⟩ : ∃ x, typP (keL k i).names (keL k i).files [97] M4 = x := ⟨_, rfl⟩
        rw [hP4] at p4'
        obtain rfl : E4 = 0 := p4'
        have HP4 := Lib.hid hP4
        have hW : keW k i = P3 := by unfold keW; rw [HP3.out]
        rw [hW] at p5 p6 p7
        have H5 := Lib.hid p5
        have H6 := Lib.hid p6
        have H7 := Lib.hid p7
        have H81 := Lib.hid p1
        have H82 := Lib.hid p2
        have H83 := Lib.hid p3
        have H84 := Lib.hid p4
        have t8 : (8 : Int) < (k : Int) := by omega
        have t9 : decide ((8 : Int) < (k : Int)) = true := decide_eq_true t8
        have t10 : ¬ (k : Int) ≤ 8 := by omega
        have t11 : decide ((k : Int) ≤ 8) = false := decide_eq_false t10
        have H12 : Hid (decide (k ≤ 8) = false) := decide_eq_false (by omega)
        clear h8 hP1 hP2 hP3 hP4 p1 p2 p3 p4 p5 p6 p7 hW
        have HT1 := Lib.hid (Type_any HL0.out (HM.out.nx HA0.out) (HK.out.nx HA0.out) [97] M1 H81.out)
        go_wp2_with fail
        refine HT1.out.mono ?_; rw [HP1.out]; rintro e x1 ⟨rfl, hn⟩
        dsimp only
        have HL1 := Lib.hid (HL0.out.nx hn)
        have HA1 := Lib.hid (HA0.out.trans hn)
        have HB1 := Lib.hid (HB0.out.below hn)
        clear c0 c1 hn HT1
        have c0 : x1.cell? ⟨g2, 0, none⟩ = some (.slice nA 1 nc) := HB1.out.cell 0
        have c1 : x1.cell? ⟨g2, 1, none⟩ = some (.slice fA 1 fc) := HB1.out.cell 1
        have HT2 := Lib.hid (Type_any HL1.out (HM.out.nx HA1.out) (HK.out.nx HA1.out) [97] M2 H82.out)
        go_wp2_with fail
        refine HT2.out.mono ?_; rw [HP2.out]; rintro e x2 ⟨rfl, hn⟩
        dsimp only
        have HL2 := Lib.hid (HL1.out.nx hn)
        have HA2 := Lib.hid (HA1.out.trans hn)
        have HB2 := Lib.hid (HB1.out.below hn)
        clear c0 c1 hn HT2
        have c0 : x2.cell? ⟨g2, 0, none⟩ = some (.slice nA 1 nc) := HB2.out.cell 0
        have c1 : x2.cell? ⟨g2, 1, none⟩ = some (.slice fA 1 fc) := HB2.out.cell 1
        have HT3 := Lib.hid (Type_any HL2.out (HM.out.nx HA2.out) (HK.out.nx HA2.out) [97] (keT k i) H83.out)
        go_wp2_with fail
        refine HT3.out.mono ?_; rw [HP3.out]; rintro e x3 ⟨rfl, hn⟩
        dsimp only
        have HL3 := Lib.hid (HL2.out.nx hn)
        have HA3 := Lib.hid (HA2.out.trans hn)
        have HB3 := Lib.hid (HB2.out.below hn)
        clear c0 c1 hn HT3
        have c0 : x3.cell? ⟨g2, 0, none⟩ = some (.slice nA 1 nc) := HB3.out.cell 0
        have c1 : x3.cell? ⟨g2, 1, none⟩ = some (.slice fA 1 fc) := HB3.out.cell 1
        have HT4 := Lib.hid (Type_any HL3.out (HM.out.nx HA3.out) (HK.out.nx HA3.out) [97] M4 H84.out)
        go_wp2_with fail
        refine HT4.out.mono ?_; rw [HP4.out]; rintro e x4 ⟨rfl, hn⟩
        dsimp only
        have HL4 := Lib.hid (HL3.out.nx hn)
        have HA4 := Lib.hid (HA3.out.trans hn)
        have HB4 := Lib.hid (HB3.out.below hn)
        clear c0 c1 hn HT4
        have c0 : x4.cell? ⟨g2, 0, none⟩ = some (.slice nA 1 nc) := HB4.out.cell 0
        have c1 : x4.cell? ⟨g2, 1, none⟩ = some (.slice fA 1 fc) := HB4.out.cell 1
        have HT5 := Lib.hid (Key_any HL4.out (HM.out.nx HA4.out) (HK.out.nx HA4.out) P3 H5.out H6.out)
        go_wp2_with fail
        refine HT5.out.mono ?_; rw [H7.out, H12.out]; rintro e x5 ⟨rfl, hn⟩
        have HA5 := Lib.hid (HA4.out.trans hn)
        clear c0 c1 hn HT5
        go_wp2_with fail
        go_ret
        exact ⟨rfl, HA5.out⟩

      · rw [if_neg h8] at p1' p2'
        obtain ⟨⟨P1, Q1, E1⟩, hP1⟩ : ∃ x, typP (keL k i).names (keL k i).files [97] M1 = x := ⟨_, rfl⟩
        rw [hP1] at p1'
        obtain rfl : E1 = 0 := p1'
        have HP1 := Lib.hid hP1
        obtain ⟨⟨P2, Q2, E2⟩, hP2⟩ : ∃ x, typP (keL k i).names (keL k i).files [97] M2 = x := ⟨_, rfl⟩
        rw [hP2] at p2'
        obtain rfl : E2 = 0 := p2'
        have HP2 := Lib.hid hP2
        obtain ⟨⟨P3, Q3, E3⟩, hP3⟩ : ∃ x, typP (keL k i).names (keL k i).files [97] (keT k i) = x := ⟨_, rfl⟩
        rw [hP3] at p3'
        obtain rfl : E3 = 0 := p3'
        have HP3 := Lib.hid hP3
        obtain ⟨⟨P4, Q4, E4⟩, hP4⟩ : ∃ x, typP (keL k i).names (keL k i).files [97] M4 = x := ⟨_, rfl⟩
        rw [hP4] at p4'
        obtain rfl : E4 = 0 := p4'
        have HP4 := Lib.hid hP4
        have hW : keW k i = P3 := by unfold keW; rw [HP3.out]
        rw [hW] at p5 p6 p7
        have H5 := Lib.hid p5
        have H6 := Lib.hid p6
        have H7 := Lib.hid p7
        have H81 := Lib.hid p1
        have H82 := Lib.hid p2
        have H83 := Lib.hid p3
        have H84 := Lib.hid p4
        have t8 : ¬ (8 : Int) < (k : Int) := by omega
        have t9 : decide ((8 : Int) < (k : Int)) = false := decide_eq_false t8
        have t10 : (k : Int) ≤ 8 := by omega
        have t11 : decide ((k : Int) ≤ 8) = true := decide_eq_true t10
        have H12 : Hid (decide (k ≤ 8) = true) := decide_eq_true (by omega)
        clear h8 hP1 hP2 hP3 hP4 p1 p2 p3 p4 p5 p6 p7 hW
        have HT1 := Lib.hid (Type_any HL0.out (HM.out.nx HA0.out) (HK.out.nx HA0.out) [97] M1 H81.out)
        go_wp2_with fail
        refine HT1.out.mono ?_; rw [HP1.out]; rintro e x1 ⟨rfl, hn⟩
        dsimp only
        have HL1 := Lib.hid (HL0.out.nx hn)
        have HA1 := Lib.hid (HA0.out.trans hn)
        have HB1 := Lib.hid (HB0.out.below hn)
        clear c0 c1 hn HT1
        have c0 : x1.cell? ⟨g2, 0, none⟩ = some (.slice nA 1 nc) := HB1.out.cell 0
        have c1 : x1.cell? ⟨g2, 1, none⟩ = some (.slice fA 1 fc) := HB1.out.cell 1
        have HT2 := Lib.hid (Type_any HL1.out (HM.out.nx HA1.out) (HK.out.nx HA1.out) [97] M2 H82.out)
        go_wp2_with fail
        refine HT2.out.mono ?_; rw [HP2.out]; rintro e x2 ⟨rfl, hn⟩
        dsimp only
        have HL2 := Lib.hid (HL1.out.nx hn)
        have HA2 := Lib.hid (HA1.out.trans hn)
        have HB2 := Lib.hid (HB1.out.below hn)
        clear c0 c1 hn HT2
        have c0 : x2.cell? ⟨g2, 0, none⟩ = some (.slice nA 1 nc) := HB2.out.cell 0
        have c1 : x2.cell? ⟨g2, 1, none⟩ = some (.slice fA 1 fc) := HB2.out.cell 1
        have HT3 := Lib.hid (Type_any HL2.out (HM.out.nx HA2.out) (HK.out.nx HA2.out) [97] (keT k i) H83.out)
        go_wp2_with fail
        refine HT3.out.mono ?_; rw [HP3.out]; rintro e x3 ⟨rfl, hn⟩
        dsimp only
        have HL3 := Lib.hid (HL2.out.nx hn)
        have HA3 := Lib.hid (HA2.out.trans hn)
        have HB3 := Lib.hid (HB2.out.below hn)
        clear c0 c1 hn HT3
        have c0 : x3.cell? ⟨g2, 0, none⟩ = some (.slice nA 1 nc) := HB3.out.cell 0
        have c1 : x3.cell? ⟨g2, 1, none⟩ = some (.slice fA 1 fc) := HB3.out.cell 1
        have HT4 := Lib.hid (Type_any HL3.out (HM.out.nx HA3.out) (HK.out.nx HA3.out) [97] M4 H84.out)
        go_wp2_with fail
        refine HT4.out.mono ?_; rw [HP4.out]; rintro e x4 ⟨rfl, hn⟩
        dsimp only
        have HL4 := Lib.hid (HL3.out.nx hn)
        have HA4 := Lib.hid (HA3.out.trans hn)
        have HB4 := Lib.hid (HB3.out.below hn)
        clear c0 c1 hn HT4
        have c0 : x4.cell? ⟨g2, 0, none⟩ = some (.slice nA 1 nc) := HB4.out.cell 0
        have c1 : x4.cell? ⟨g2, 1, none⟩ = some (.slice fA 1 fc) := HB4.out.cell 1
        have HT5 := Lib.hid (Key_any HL4.out (HM.out.nx HA4.out) (HK.out.nx HA4.out) P3 H5.out H6.out)
        go_wp2_with fail
        refine HT5.out.mono ?_; rw [H7.out, H12.out]; rintro e x5 ⟨rfl, hn⟩
        have HA5 := Lib.hid (HA4.out.trans hn)
        clear c0 c1 hn HT5
        go_wp2_with fail
        go_ret
        exact ⟨rfl, HA5.out⟩
end Go.Proofs.YtpfecpcgdfbekaaGreatDoor
