/- What the laws of alias begin with. -/
import Derived.Test.YtpfecpcgdfbekaaGreatDoorNAlV
set_option linter.unusedVariables false
set_option linter.unusedSimpArgs false
namespace Go.Proofs.YtpfecpcgdfbekaaGreatDoor
open Go.RowKit

set_option maxRecDepth 100000 in
set_option maxHeartbeats 6400000 in
theorem albegun_any (w : World) (hm : MaxC w) (hk : TabK w) :
    Calls Tryz.prog 11 #[] w fun e w' => e = .returned (.bool true) ∧ Nx w w' := by
  have HM := Lib.hid hm
  have HK := Lib.hid hk
  have HN0 := Lib.hid (Nx.refl w)
  clear hm hk
  go_enter Tryz.func11, Tryz.ntmps11
  obtain ⟨gA, hgA⟩ : ∃ g, w.heap.size = g := ⟨_, rfl⟩
  obtain ⟨w1, hw1⟩ : ∃ w1, w.alloc (.cells #[.string ⟨#[97]⟩, .string ⟨#[116, 121, 112, 101, 100, 101, 102, 32, 108, 105, 115, 116, 60, 66, 62, 32, 76, 32, 115, 116, 114, 117, 99, 116, 32, 66, 32, 123, 125]⟩] 33) = w1 := ⟨_, rfl⟩
  have hb1 : Blk w1 gA gA #[.string ⟨#[97]⟩, .string ⟨#[116, 121, 112, 101, 100, 101, 102, 32, 108, 105, 115, 116, 60, 66, 62, 32, 76, 32, 115, 116, 114, 117, 99, 116, 32, 66, 32, 123, 125]⟩] 33 := by rw [← hw1, ← hgA]; exact Blk.new w _ _
  have HN1 : Hid (Nx w w1) := by unfold Hid; rw [← hw1]; exact (HN0.out).trans (nx0 _ _)
  have HB1 := Lib.hid hb1
  have hrd : RdW w1 (some ⟨gA, 0, none⟩) agX := fun _ => ⟨gA, 0, rfl, HB1.out.lt, fun i hi => by
    have hi : i < 1 := hi
    obtain rfl : i = 0 := by omega
    exact ⟨HB1.out.cell 0, HB1.out.cell 1⟩⟩
  obtain ⟨o1, o2, o3, o4, o5, o6⟩ := ag_ok
  have HLO := Lib.hid (loadq_w w1 [97] _ 1 1 agX rfl hrd o1 (by decide) agN agF 1 rfl rfl o2 o3 o4 o5 o6)
  clear hrd o1 o2 o3 o4 o5 o6 hb1
  go_wp2_with fail
  clear hw1 hgA
  refine HLO.out.mono ?_
  rintro e w2 ⟨nA, nc, fA, fc, rfl, hld, hn2⟩
  obtain ⟨g1, hg1⟩ : ∃ g, w2.heap.size = g := ⟨_, rfl⟩
  obtain ⟨w3, hw3⟩ : ∃ w3, w2.alloc (.cells #[.slice nA 1 nc, .slice fA 1 fc] 28) = w3 := ⟨_, rfl⟩
  have hb3 : Blk w3 g1 g1 #[.slice nA 1 nc, .slice fA 1 fc] 28 := by rw [← hw3, ← hg1]; exact Blk.new w2 _ _
  have hn3 : Nx w2 w3 := by rw [← hw3]; exact nx0 _ _
  have HLD3 := Lib.hid (hld.nx hn3)
  have HN3 := Lib.hid (HN1.out.trans (hn2.trans hn3))
  have a0 : w3.cell? ⟨g1, 0, none⟩ = some (.slice nA 1 nc) := hb3.cell 0
  have a1 : w3.cell? ⟨g1, 1, none⟩ = some (.slice fA 1 fc) := hb3.cell 1
  clear hld hn2 hn3 hb3 HLO
  go_wp2_with fail
  clear hw3 hg1
  refine (from_any w3 nA fA 1 nc 1 fc).mono ?_; rintro e w4 ⟨rfl, hn4⟩
  obtain ⟨g2, hg2⟩ : ∃ g, w4.heap.size = g := ⟨_, rfl⟩
  obtain ⟨w5, hw5⟩ : ∃ w5, w4.alloc (.cells #[.slice nA 1 nc, .slice fA 1 fc] 39) = w5 := ⟨_, rfl⟩
  have hb5 : Blk w5 g2 g2 #[.slice nA 1 nc, .slice fA 1 fc] 39 := by rw [← hw5, ← hg2]; exact Blk.new w4 _ _
  have hn5 : Nx w4 w5 := by rw [← hw5]; exact nx0 _ _
  have HL0 := Lib.hid (HLD3.out.nx (hn4.trans hn5))
  have HA0 := Lib.hid (HN3.out.trans (hn4.trans hn5))
  have HB0 := Lib.hid hb5
  have c0 : w5.cell? ⟨g2, 0, none⟩ = some (.slice nA 1 nc) := hb5.cell 0
  have c1 : w5.cell? ⟨g2, 1, none⟩ = some (.slice fA 1 fc) := hb5.cell 1
  clear hn4 hn5 hb5 a0 a1
  go_upto_region 3 with (fail)
  try rw [hw5]
  clear hw5 hg2
  have HT1 := Lib.hid (Type_any HL0.out (HM.out.nx HA0.out) (HK.out.nx HA0.out) [97] [76] ag_1.1)
  go_wp2_with fail
  refine HT1.out.mono ?_; rw [ag_1.2]; rintro e x1 ⟨rfl, hn⟩
  dsimp only
  have HL1 := Lib.hid (HL0.out.nx hn)
  have HA1 := Lib.hid (HA0.out.trans hn)
  have HB1 := Lib.hid (HB0.out.below hn)
  clear c0 c1 hn HT1
  have c0 : x1.cell? ⟨g2, 0, none⟩ = some (.slice nA 1 nc) := HB1.out.cell 0
  have c1 : x1.cell? ⟨g2, 1, none⟩ = some (.slice fA 1 fc) := HB1.out.cell 1
  have HT2 := Lib.hid (Type_any HL1.out (HM.out.nx HA1.out) (HK.out.nx HA1.out) [97] [115, 101, 116, 60, 66, 62] ag_2.1)
  go_wp2_with fail
  refine HT2.out.mono ?_; rw [ag_2.2]; rintro e x2 ⟨rfl, hn⟩
  dsimp only
  have HL2 := Lib.hid (HL1.out.nx hn)
  have HA2 := Lib.hid (HA1.out.trans hn)
  have HB2 := Lib.hid (HB1.out.below hn)
  clear c0 c1 hn HT2
  have c0 : x2.cell? ⟨g2, 0, none⟩ = some (.slice nA 1 nc) := HB2.out.cell 0
  have c1 : x2.cell? ⟨g2, 1, none⟩ = some (.slice fA 1 fc) := HB2.out.cell 1
  have HT3 := Lib.hid (Key_any HL2.out (HM.out.nx HA2.out) (HK.out.nx HA2.out) [105, 56] (by decide) ag_3.1)
  go_wp2_with fail
  refine HT3.out.mono ?_; rw [ag_3.2]; rintro e x3 ⟨rfl, hn⟩
  have HL3 := Lib.hid (HL2.out.nx hn)
  have HA3 := Lib.hid (HA2.out.trans hn)
  have HB3 := Lib.hid (HB2.out.below hn)
  clear c0 c1 hn HT3
  have c0 : x3.cell? ⟨g2, 0, none⟩ = some (.slice nA 1 nc) := HB3.out.cell 0
  have c1 : x3.cell? ⟨g2, 1, none⟩ = some (.slice fA 1 fc) := HB3.out.cell 1
  have HT4 := Lib.hid (Key_any HL3.out (HM.out.nx HA3.out) (HK.out.nx HA3.out) [97, 46, 66] (by decide) ag_4.1)
  go_wp2_with fail
  refine HT4.out.mono ?_; rw [ag_4.2]; rintro e x4 ⟨rfl, hn⟩
  have HL4 := Lib.hid (HL3.out.nx hn)
  have HA4 := Lib.hid (HA3.out.trans hn)
  have HB4 := Lib.hid (HB3.out.below hn)
  clear c0 c1 hn HT4
  have c0 : x4.cell? ⟨g2, 0, none⟩ = some (.slice nA 1 nc) := HB4.out.cell 0
  have c1 : x4.cell? ⟨g2, 1, none⟩ = some (.slice fA 1 fc) := HB4.out.cell 1
  go_wp2_with fail
  go_ret
  exact ⟨rfl, HA4.out⟩
end Go.Proofs.YtpfecpcgdfbekaaGreatDoor
