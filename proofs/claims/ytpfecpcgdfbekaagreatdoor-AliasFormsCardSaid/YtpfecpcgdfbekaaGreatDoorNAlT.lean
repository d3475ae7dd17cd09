/- The walk of AliasForms. -/
import Derived.Test.YtpfecpcgdfbekaaGreatDoorNAlS
import Derived.Test.YtpfecpcgdfbekaaGreatDoorG23
set_option linter.unusedVariables false
set_option linter.unusedSimpArgs false
namespace Go.Proofs.YtpfecpcgdfbekaaGreatDoor
open Go.RowKit

theorem rowS_at {w : World} {B g : Nat} {l : List (List UInt8)} {T : TypeId} (h : Blk w B g ((l.map bt).toArray) T) (i : Nat) (hi : i < l.length) : w.cell? ⟨g, i, none⟩ = some (.string ⟨(l.getD i []).toArray⟩) := by
  have := h.cell i
  rw [this]
  simp [bt, List.getD, hi]
theorem rowN_at {w : World} {B g : Nat} {l : List Nat} {T : TypeId} (h : Blk w B g ((l.map fun n : Nat => Value.int .i64 (n : Int)).toArray) T) (i : Nat) (hi : i < l.length) : w.cell? ⟨g, i, none⟩ = some (.int .i64 ((l.getD i 0 : Nat) : Int)) := by
  have := h.cell i
  rw [this]
  simp [List.getD, hi]
set_option maxRecDepth 100000 in
set_option maxHeartbeats 6400000 in
theorem AliasForms_walk (w : World) (hk : TabK w) (hm : MaxC w) :
    Calls Tryz.prog 5 #[] w fun e w' => e = .returned (.bool true) ∧ Below w.heap.size w w' := by
  have HM := Lib.hid hm
  have HK := Lib.hid hk
  have HBG := Lib.hid (albegun_any w hm hk)
  clear hm hk
  go_enter Tryz.func5, Tryz.ntmps5
  go_wp2_with fail
  refine HBG.out.mono ?_; rintro e w0 ⟨rfl, hn0⟩
  have HN0 := Lib.hid hn0
  clear hn0 HBG
  obtain ⟨gA, hgA⟩ : ∃ g, w0.heap.size = g := ⟨_, rfl⟩
  obtain ⟨w1, hw1⟩ : ∃ w1, w0.alloc (.cells #[.string ⟨#[97]⟩, .string ⟨#[116, 121, 112, 101, 100, 101, 102, 32, 105, 51, 50, 32, 73, 32, 116, 121, 112, 101, 100, 101, 102, 32, 108, 105, 115, 116, 60, 73, 62, 32, 76, 32, 116, 121, 112, 101, 100, 101, 102, 32, 109, 97, 112, 60, 73, 44, 76, 62, 32, 77, 32, 116, 121, 112, 101, 100, 101, 102, 32, 115, 101, 116, 60, 69, 62, 32, 83, 32, 116, 121, 112, 101, 100, 101, 102, 32, 77, 32, 78, 32, 101, 110, 117, 109, 32, 69, 32, 123, 65, 125, 32, 115, 116, 114, 117, 99, 116, 32, 80, 32, 123, 125, 32, 99, 111, 110, 115, 116, 32, 105, 51, 50, 32, 75, 32, 61, 32, 49, 32, 115, 101, 114, 118, 105, 99, 101, 32, 86, 32, 123, 125, 32, 116, 121, 112, 101, 100, 101, 102, 32, 88, 32, 89, 32, 116, 121, 112, 101, 100, 101, 102, 32, 89, 32, 88, 32, 116, 121, 112, 101, 100, 101, 102, 32, 108, 105, 115, 116, 60, 108, 105, 115, 116, 60, 108, 105, 115, 116, 60, 108, 105, 115, 116, 60, 108, 105, 115, 116, 60, 108, 105, 115, 116, 60, 108, 105, 115, 116, 60, 105, 56, 62, 62, 62, 62, 62, 62, 62, 32, 68]⟩] 33) = w1 := ⟨_, rfl⟩
  have hb1 : Blk w1 gA gA #[.string ⟨#[97]⟩, .string ⟨#[116, 121, 112, 101, 100, 101, 102, 32, 105, 51, 50, 32, 73, 32, 116, 121, 112, 101, 100, 101, 102, 32, 108, 105, 115, 116, 60, 73, 62, 32, 76, 32, 116, 121, 112, 101, 100, 101, 102, 32, 109, 97, 112, 60, 73, 44, 76, 62, 32, 77, 32, 116, 121, 112, 101, 100, 101, 102, 32, 115, 101, 116, 60, 69, 62, 32, 83, 32, 116, 121, 112, 101, 100, 101, 102, 32, 77, 32, 78, 32, 101, 110, 117, 109, 32, 69, 32, 123, 65, 125, 32, 115, 116, 114, 117, 99, 116, 32, 80, 32, 123, 125, 32, 99, 111, 110, 115, 116, 32, 105, 51, 50, 32, 75, 32, 61, 32, 49, 32, 115, 101, 114, 118, 105, 99, 101, 32, 86, 32, 123, 125, 32, 116, 121, 112, 101, 100, 101, 102, 32, 88, 32, 89, 32, 116, 121, 112, 101, 100, 101, 102, 32, 89, 32, 88, 32, 116, 121, 112, 101, 100, 101, 102, 32, 108, 105, 115, 116, 60, 108, 105, 115, 116, 60, 108, 105, 115, 116, 60, 108, 105, 115, 116, 60, 108, 105, 115, 116, 60, 108, 105, 115, 116, 60, 108, 105, 115, 116, 60, 105, 56, 62, 62, 62, 62, 62, 62, 62, 32, 68]⟩] 33 := by rw [← hw1, ← hgA]; exact Blk.new w0 _ _
  have HN1 : Hid (Nx w w1) := by unfold Hid; rw [← hw1]; exact (HN0.out).trans (nx0 _ _)
  have HB1 := Lib.hid hb1
  have hrd : RdW w1 (some ⟨gA, 0, none⟩) afX := fun _ => ⟨gA, 0, rfl, HB1.out.lt, fun i hi => by
    have hi : i < 1 := hi
    obtain rfl : i = 0 := by omega
    exact ⟨HB1.out.cell 0, HB1.out.cell 1⟩⟩
  obtain ⟨o1, o2, o3, o4, o5, o6⟩ := af_ok
  have HLO := Lib.hid (loadq_w w1 [97] _ 1 1 afX rfl hrd o1 (by decide) afN afF 1 rfl rfl o2 o3 o4 o5 o6)
  clear hrd o1 o2 o3 o4 o5 o6 hb1
  go_wp2_with fail
  clear hw1 hgA
  refine HLO.out.mono ?_
  rintro e w2 ⟨nA, nc, fA, fc, rfl, hld, hn2⟩
  obtain ⟨g1, hg1⟩ : ∃ g, w2.heap.size = g := ⟨_, rfl⟩
  obtain ⟨w3, hw3⟩ : ∃ w3, w2.alloc (.cells #[.slice nA 1 nc, .slice fA 1 fc] 28) = w3 := ⟨_, rfl⟩
  have hb3 : Blk w3 g1 g1 #[.slice nA 1 nc, .slice fA 1 fc] 28 := by rw [← hw3, ← hg1]; exact Blk.new w2 _ _
  have hn3 : Nx w2 w3 := by rw [← hw3]; exact nx0 _ _
  have HLD3 := Lib.hid (hld.nx hn3)
  have HN3 := Lib.hid (HN1.out.trans (hn2.trans hn3))
  have a0 : w3.cell? ⟨g1, 0, none⟩ = some (.slice nA 1 nc) := hb3.cell 0
  have a1 : w3.cell? ⟨g1, 1, none⟩ = some (.slice fA 1 fc) := hb3.cell 1
  clear hld hn2 hn3 hb3 HLO
  go_wp2_with fail
  clear hw3 hg1
  refine (from_any w3 nA fA 1 nc 1 fc).mono ?_; rintro e w4 ⟨rfl, hn4⟩
  obtain ⟨g2, hg2⟩ : ∃ g, w4.heap.size = g := ⟨_, rfl⟩
  obtain ⟨g3, hg3⟩ : ∃ g, g2 + 1 = g := ⟨_, rfl⟩
  obtain ⟨g4, hg4⟩ : ∃ g, g3 + 1 = g := ⟨_, rfl⟩
  obtain ⟨g5, hg5⟩ : ∃ g, g4 + 1 = g := ⟨_, rfl⟩
  obtain ⟨w5, hw5⟩ : ∃ w5, (((w4.alloc (.cells #[.slice nA 1 nc, .slice fA 1 fc] 39)).alloc (.cells #[.string ⟨#[73]⟩, .string ⟨#[76]⟩, .string ⟨#[77]⟩, .string ⟨#[78]⟩, .string ⟨#[83]⟩, .string ⟨#[69]⟩, .string ⟨#[80]⟩, .string ⟨#[75]⟩, .string ⟨#[86]⟩, .string ⟨#[88]⟩, .string ⟨#[90]⟩, .string ⟨#[115, 101, 116, 60, 73, 62]⟩, .string ⟨#[115, 101, 116, 60, 76, 62]⟩, .string ⟨#[109, 97, 112, 60, 80, 44, 73, 62]⟩, .string ⟨#[109, 97, 112, 60, 76, 44, 90, 62]⟩, .string ⟨#[109, 97, 112, 60, 90, 44, 76, 62]⟩, .string ⟨#[109, 97, 112, 60, 73, 44, 90, 62]⟩, .string ⟨#[108, 105, 115, 116, 60, 108, 105, 115, 116, 60, 108, 105, 115, 116, 60, 108, 105, 115, 116, 60, 108, 105, 115, 116, 60, 68, 62, 62, 62, 62, 62]⟩, .string ⟨#[108, 105, 115, 116, 60, 108, 105, 115, 116, 60, 108, 105, 115, 116, 60, 108, 105, 115, 116, 60, 108, 105, 115, 116, 60, 108, 105, 115, 116, 60, 68, 62, 62, 62, 62, 62, 62]⟩, .string ⟨#[108, 105, 115, 116, 60]⟩, .string ⟨#[100, 111, 117, 98, 108, 101]⟩, .string ⟨#[97, 46, 73]⟩] 9)).alloc (.cells #[.string ⟨#[105, 51, 50]⟩, .string ⟨#[108, 105, 115, 116, 60, 105, 51, 50, 62]⟩, .string ⟨#[109, 97, 112, 60, 105, 51, 50, 44, 108, 105, 115, 116, 60, 105, 51, 50, 62, 62]⟩, .string ⟨#[109, 97, 112, 60, 105, 51, 50, 44, 108, 105, 115, 116, 60, 105, 51, 50, 62, 62]⟩, .string ⟨#[115, 101, 116, 60, 97, 46, 69, 62]⟩, .string ⟨#[97, 46, 69]⟩, .string ⟨#[97, 46, 80]⟩, .string ⟨#[]⟩, .string ⟨#[]⟩, .string ⟨#[]⟩, .string ⟨#[]⟩, .string ⟨#[115, 101, 116, 60, 105, 51, 50, 62]⟩, .string ⟨#[]⟩, .string ⟨#[]⟩, .string ⟨#[]⟩, .string ⟨#[]⟩, .string ⟨#[]⟩, .string ⟨#[108, 105, 115, 116, 60, 108, 105, 115, 116, 60, 108, 105, 115, 116, 60, 108, 105, 115, 116, 60, 108, 105, 115, 116, 60, 108, 105, 115, 116, 60, 108, 105, 115, 116, 60, 108, 105, 115, 116, 60, 108, 105, 115, 116, 60, 108, 105, 115, 116, 60, 108, 105, 115, 116, 60, 108, 105, 115, 116, 60, 105, 56, 62, 62, 62, 62, 62, 62, 62, 62, 62, 62, 62, 62]⟩, .string ⟨#[]⟩, .string ⟨#[]⟩, .string ⟨#[100, 111, 117, 98, 108, 101]⟩, .string ⟨#[105, 51, 50]⟩] 9)).alloc (.cells #[.int .i64 0, .int .i64 0, .int .i64 0, .int .i64 0, .int .i64 0, .int .i64 0, .int .i64 0, .int .i64 10, .int .i64 10, .int .i64 9, .int .i64 7, .int .i64 0, .int .i64 11, .int .i64 11, .int .i64 11, .int .i64 7, .int .i64 7, .int .i64 0, .int .i64 6, .int .i64 2, .int .i64 0, .int .i64 0] 29) = w5 := ⟨_, rfl⟩
  have HN45 : Hid (Nx w4 w5) := by unfold Hid; rw [← hw5]; exact Nx.al (Nx.al (Nx.al (nx0 w4 _) _) _) _
  have HB5 : Hid (Blk w5 g2 g2 #[.slice nA 1 nc, .slice fA 1 fc] 39) := by
    unfold Hid; rw [← hw5, ← hg2]; exact (((Blk.new w4 _ _).alloc _).alloc _).alloc _
  have HBI : Hid (Blk w5 g3 g3 ((afI.map bt).toArray) 9) := by
    have e : g3 = (w4.alloc (.cells #[.slice nA 1 nc, .slice fA 1 fc] 39)).heap.size := by simp; omega
    unfold Hid; rw [← hw5, e]; exact ((Blk.new (w4.alloc (.cells #[.slice nA 1 nc, .slice fA 1 fc] 39)) #[.string ⟨#[73]⟩, .string ⟨#[76]⟩, .string ⟨#[77]⟩, .string ⟨#[78]⟩, .string ⟨#[83]⟩, .string ⟨#[69]⟩, .string ⟨#[80]⟩, .string ⟨#[75]⟩, .string ⟨#[86]⟩, .string ⟨#[88]⟩, .string ⟨#[90]⟩, .string ⟨#[115, 101, 116, 60, 73, 62]⟩, .string ⟨#[115, 101, 116, 60, 76, 62]⟩, .string ⟨#[109, 97, 112, 60, 80, 44, 73, 62]⟩, .string ⟨#[109, 97, 112, 60, 76, 44, 90, 62]⟩, .string ⟨#[109, 97, 112, 60, 90, 44, 76, 62]⟩, .string ⟨#[109, 97, 112, 60, 73, 44, 90, 62]⟩, .string ⟨#[108, 105, 115, 116, 60, 108, 105, 115, 116, 60, 108, 105, 115, 116, 60, 108, 105, 115, 116, 60, 108, 105, 115, 116, 60, 68, 62, 62, 62, 62, 62]⟩, .string ⟨#[108, 105, 115, 116, 60, 108, 105, 115, 116, 60, 108, 105, 115, 116, 60, 108, 105, 115, 116, 60, 108, 105, 115, 116, 60, 108, 105, 115, 116, 60, 68, 62, 62, 62, 62, 62, 62]⟩, .string ⟨#[108, 105, 115, 116, 60]⟩, .string ⟨#[100, 111, 117, 98, 108, 101]⟩, .string ⟨#[97, 46, 73]⟩] 9).alloc _).alloc _
  have HBO : Hid (Blk w5 g4 g4 ((afO.map bt).toArray) 9) := by
    have e : g4 = ((w4.alloc (.cells #[.slice nA 1 nc, .slice fA 1 fc] 39)).alloc (.cells #[.string ⟨#[73]⟩, .string ⟨#[76]⟩, .string ⟨#[77]⟩, .string ⟨#[78]⟩, .string ⟨#[83]⟩, .string ⟨#[69]⟩, .string ⟨#[80]⟩, .string ⟨#[75]⟩, .string ⟨#[86]⟩, .string ⟨#[88]⟩, .string ⟨#[90]⟩, .string ⟨#[115, 101, 116, 60, 73, 62]⟩, .string ⟨#[115, 101, 116, 60, 76, 62]⟩, .string ⟨#[109, 97, 112, 60, 80, 44, 73, 62]⟩, .string ⟨#[109, 97, 112, 60, 76, 44, 90, 62]⟩, .string ⟨#[109, 97, 112, 60, 90, 44, 76, 62]⟩, .string ⟨#[109, 97, 112, 60, 73, 44, 90, 62]⟩, .string ⟨#[108, 105, 115, 116, 60, 108, 105, 115, 116, 60, 108, 105, 115, 116, 60, 108, 105, 115, 116, 60, 108, 105, 115, 116, 60, 68, 62, 62, 62, 62, 62]⟩, .string ⟨#[108, 105, 115, 116, 60, 108, 105, 115, 116, 60, 108, 105, 115, 116, 60, 108, 105, 115, 116, 60, 108, 105, 115, 116, 60, 108, 105, 115, 116, 60, 68, 62, 62, 62, 62, 62, 62]⟩, .string ⟨#[108, 105, 115, 116, 60]⟩, .string ⟨#[100, 111, 117, 98, 108, 101]⟩, .string ⟨#[97, 46, 73]⟩] 9)).heap.size := by simp; omega
    unfold Hid; rw [← hw5, e]; exact (Blk.new _ #[.string ⟨#[105, 51, 50]⟩, .string ⟨#[108, 105, 115, 116, 60, 105, 51, 50, 62]⟩, .string ⟨#[109, 97, 112, 60, 105, 51, 50, 44, 108, 105, 115, 116, 60, 105, 51, 50, 62, 62]⟩, .string ⟨#[109, 97, 112, 60, 105, 51, 50, 44, 108, 105, 115, 116, 60, 105, 51, 50, 62, 62]⟩, .string ⟨#[115, 101, 116, 60, 97, 46, 69, 62]⟩, .string ⟨#[97, 46, 69]⟩, .string ⟨#[97, 46, 80]⟩, .string ⟨#[]⟩, .string ⟨#[]⟩, .string ⟨#[]⟩, .string ⟨#[]⟩, .string ⟨#[115, 101, 116, 60, 105, 51, 50, 62]⟩, .string ⟨#[]⟩, .string ⟨#[]⟩, .string ⟨#[]⟩, .string ⟨#[]⟩, .string ⟨#[]⟩, .string ⟨#[108, 105, 115, 116, 60, 108, 105, 115, 116, 60, 108, 105, 115, 116, 60, 108, 105, 115, 116, 60, 108, 105, 115, 116, 60, 108, 105, 115, 116, 60, 108, 105, 115, 116, 60, 108, 105, 115, 116, 60, 108, 105, 115, 116, 60, 108, 105, 115, 116, 60, 108, 105, 115, 116, 60, 108, 105, 115, 116, 60, 105, 56, 62, 62, 62, 62, 62, 62, 62, 62, 62, 62, 62, 62]⟩, .string ⟨#[]⟩, .string ⟨#[]⟩, .string ⟨#[100, 111, 117, 98, 108, 101]⟩, .string ⟨#[105, 51, 50]⟩] 9).alloc _
  have HBE : Hid (Blk w5 g5 g5 ((afE.map fun n : Nat => Value.int .i64 (n : Int)).toArray) 29) := by
    have e : g5 = (((w4.alloc (.cells #[.slice nA 1 nc, .slice fA 1 fc] 39)).alloc (.cells #[.string ⟨#[73]⟩, .string ⟨#[76]⟩, .string ⟨#[77]⟩, .string ⟨#[78]⟩, .string ⟨#[83]⟩, .string ⟨#[69]⟩, .string ⟨#[80]⟩, .string ⟨#[75]⟩, .string ⟨#[86]⟩, .string ⟨#[88]⟩, .string ⟨#[90]⟩, .string ⟨#[115, 101, 116, 60, 73, 62]⟩, .string ⟨#[115, 101, 116, 60, 76, 62]⟩, .string ⟨#[109, 97, 112, 60, 80, 44, 73, 62]⟩, .string ⟨#[109, 97, 112, 60, 76, 44, 90, 62]⟩, .string ⟨#[109, 97, 112, 60, 90, 44, 76, 62]⟩, .string ⟨#[109, 97, 112, 60, 73, 44, 90, 62]⟩, .string ⟨#[108, 105, 115, 116, 60, 108, 105, 115, 116, 60, 108, 105, 115, 116, 60, 108, 105, 115, 116, 60, 108, 105, 115, 116, 60, 68, 62, 62, 62, 62, 62]⟩, .string ⟨#[108, 105, 115, 116, 60, 108, 105, 115, 116, 60, 108, 105, 115, 116, 60, 108, 105, 115, 116, 60, 108, 105, 115, 116, 60, 108, 105, 115, 116, 60, 68, 62, 62, 62, 62, 62, 62]⟩, .string ⟨#[108, 105, 115, 116, 60]⟩, .string ⟨#[100, 111, 117, 98, 108, 101]⟩, .string ⟨#[97, 46, 73]⟩] 9)).alloc (.cells #[.string ⟨#[105, 51, 50]⟩, .string ⟨#[108, 105, 115, 116, 60, 105, 51, 50, 62]⟩, .string ⟨#[109, 97, 112, 60, 105, 51, 50, 44, 108, 105, 115, 116, 60, 105, 51, 50, 62, 62]⟩, .string ⟨#[109, 97, 112, 60, 105, 51, 50, 44, 108, 105, 115, 116, 60, 105, 51, 50, 62, 62]⟩, .string ⟨#[115, 101, 116, 60, 97, 46, 69, 62]⟩, .string ⟨#[97, 46, 69]⟩, .string ⟨#[97, 46, 80]⟩, .string ⟨#[]⟩, .string ⟨#[]⟩, .string ⟨#[]⟩, .string ⟨#[]⟩, .string ⟨#[115, 101, 116, 60, 105, 51, 50, 62]⟩, .string ⟨#[]⟩, .string ⟨#[]⟩, .string ⟨#[]⟩, .string ⟨#[]⟩, .string ⟨#[]⟩, .string ⟨#[108, 105, 115, 116, 60, 108, 105, 115, 116, 60, 108, 105, 115, 116, 60, 108, 105, 115, 116, 60, 108, 105, 115, 116, 60, 108, 105, 115, 116, 60, 108, 105, 115, 116, 60, 108, 105, 115, 116, 60, 108, 105, 115, 116, 60, 108, 105, 115, 116, 60, 108, 105, 115, 116, 60, 108, 105, 115, 116, 60, 105, 56, 62, 62, 62, 62, 62, 62, 62, 62, 62, 62, 62, 62]⟩, .string ⟨#[]⟩, .string ⟨#[]⟩, .string ⟨#[100, 111, 117, 98, 108, 101]⟩, .string ⟨#[105, 51, 50]⟩] 9)).heap.size := by simp; omega
    unfold Hid; rw [← hw5, e]; exact Blk.new _ #[.int .i64 0, .int .i64 0, .int .i64 0, .int .i64 0, .int .i64 0, .int .i64 0, .int .i64 0, .int .i64 10, .int .i64 10, .int .i64 9, .int .i64 7, .int .i64 0, .int .i64 11, .int .i64 11, .int .i64 11, .int .i64 7, .int .i64 7, .int .i64 0, .int .i64 6, .int .i64 2, .int .i64 0, .int .i64 0] 29
  have HLD5 := Lib.hid (HLD3.out.nx (hn4.trans HN45.out))
  have HN5 := Lib.hid (HN3.out.trans (hn4.trans HN45.out))
  clear hn4 a0 a1
  go_upto_region 11 with (fail)
  try rw [hw5]
  clear hw5 hg2 hg3 hg4 hg5
  go_wp2_with fail
  go_loopw [10] (fun v wr => ∃ i : Nat, v = .int .i64 (i : Int) ∧ i ≤ 22 ∧ Nx w5 wr) (fun v _ => (22 - intOf v).toNat)
  case atStart => exact ⟨0, rfl, by decide, Nx.refl _⟩
  case round =>
    obtain ⟨i, rfl, hi, hn⟩ := hrel
    have HNX := Lib.hid hn
    clear hn
    by_cases hlt : i < 22
    · have q1 : decide ((i : Int) < (22 : Int)) = true := decide_eq_true (by omega)
      have q2 : (i : Int) < (22 : Int) := by omega
      have q3 : (0 : Int) ≤ (i : Int) := by omega
      have HLT := Lib.hid hlt
      obtain ⟨h9, ho, he⟩ := af_all i (List.mem_range.2 hlt)
      obtain ⟨II, hII⟩ : ∃ x, afI.getD i [] = x := ⟨_, rfl⟩
      obtain ⟨OI, hOI⟩ : ∃ x, afO.getD i [] = x := ⟨_, rfl⟩
      obtain ⟨EI, hEI⟩ : ∃ x, afE.getD i 0 = x := ⟨_, rfl⟩
      obtain ⟨KI, hKI⟩ : ∃ x, (typP afN afF [97] II).2.1 = x := ⟨_, rfl⟩
      rw [hII] at h9 ho he
      rw [hOI] at ho
      rw [hEI] at he
      have H9I := Lib.hid h9
      have HTI : Hid (typP afN afF [97] II = (OI, KI, EI)) := by unfold Hid; rw [← ho, ← hKI, ← he]
      have HLN := Lib.hid (HLD5.out.nx HNX.out)
      have hb5 := HB5.out.below HNX.out
      have HIC : Hid (w5.cell? ⟨g3, i, none⟩ = some (.string ⟨II.toArray⟩)) := by have := rowS_at HBI.out i hlt; rw [hII] at this; exact this
      have HOC : Hid (w5.cell? ⟨g4, i, none⟩ = some (.string ⟨OI.toArray⟩)) := by have := rowS_at HBO.out i hlt; rw [hOI] at this; exact this
      have HEC : Hid (w5.cell? ⟨g5, i, none⟩ = some (.int .i64 (EI : Int))) := by have := rowN_at HBE.out i hlt; rw [hEI] at this; exact this
      clear hlt h9 ho he hII hOI hEI hKI
      go_upto_region 14 with (fail)
      refine RI.wp_region_M (RI.Vof [fun v _ => v = .agg #[.slice nA 1 nc, .slice fA 1 fc], fun v _ => v = .slice (some ⟨g3, 0, none⟩) 22 22, fun v _ => v = .int .i64 (i : Int), fun v _ => v = .pointer (some ⟨g3, i, none⟩), fun v _ => v = .string ⟨II.toArray⟩, fun v _ => v = .tuple #[.string ⟨OI.toArray⟩, .int .i64 (KI : Int), .int .i64 (EI : Int)], fun v _ => v = .tuple #[.string ⟨OI.toArray⟩, .int .i64 (KI : Int), .int .i64 (EI : Int)], fun v _ => v = .string ⟨OI.toArray⟩, fun v _ => v = .int .i64 (KI : Int), fun v _ => v = .int .i64 (EI : Int), fun v _ => v = .string ⟨OI.toArray⟩, fun v _ => v = .int .i64 (KI : Int), fun v _ => v = .int .i64 (EI : Int)]) (fun _ x => Nx wr x) (fun _ _ _ => True) rfl (by kernel_rfl) (by kernel_rfl) (fun ls j v x y _ h1 h2 => RI.Vof.keeps (R := fun _ _ => True) ?_ j v x y h1 trivial) (Nx.drawn _) ?_ ?_
      · intro p hp v x y h1 h2
        simp only [List.mem_cons, List.not_mem_nil, or_false] at hp
        rcases hp with rfl | rfl | rfl | rfl | rfl | rfl | rfl | rfl | rfl | rfl | rfl | rfl | rfl <;> exact h1
      · refine ⟨?_, ?_, ?_, ?_, ?_, ?_, ?_, ?_, ?_, ?_, ?_, ?_, ?_, trivial⟩
        · intro a x ls w' hS hsz hni hcl hun hin hout hd K hK
          have o : a.eval (.tmp 6) = .pointer (some ⟨g2, 0, none⟩) := hout 6 (by kernel_rfl)
          have o2 : a.tmps.getD 6 undef = .pointer (some ⟨g2, 0, none⟩) := o
          have hx := hb5.below (show Nx wr w' from hS)
          have c0 : w'.cell? ⟨g2, 0, none⟩ = some (.slice nA 1 nc) := hx.cell 0
          have c1 : w'.cell? ⟨g2, 1, none⟩ = some (.slice fA 1 fc) := hx.cell 1
          have HSS := Lib.hid hS
          clear hin hout hun hd hcl hS
          go_simp
          exact hK w' _ rfl HSS.out trivial
        · intro a x ls w' hS hsz hni hcl hun hin hout hd K hK
          have o : a.eval (.tmp 7) = .slice (some ⟨g3, 0, none⟩) 22 22 := hout 7 (by kernel_rfl)
          clear hin hout hun
          exact hK w' _ o hS trivial
        · intro a x ls w' hS hsz hni hcl hun hin hout hd K hK
          have o : a.eval (.tmp 10) = .int .i64 (i : Int) := hout 10 (by kernel_rfl)
          clear hin hout hun
          exact hK w' _ o hS trivial
        · intro a x ls w' hS hsz hni hcl hun hin hout hd K hK
          have i41 : a.tmps.getD 41 undef = .slice (some ⟨g3, 0, none⟩) 22 22 := (hin 41 1 (by kernel_rfl) (show 41 < 84 by decide)).trans (hd ⟨1, .data⟩ (by simp) rfl)
          have e41 : a.eval (.tmp 41) = .slice (some ⟨g3, 0, none⟩) 22 22 := i41
          have i42 : a.tmps.getD 42 undef = .int .i64 (i : Int) := (hin 42 2 (by kernel_rfl) (show 42 < 84 by decide)).trans (hd ⟨2, .data⟩ (by simp) rfl)
          have e42 : a.eval (.tmp 42) = .int .i64 (i : Int) := i42
          have HSS := Lib.hid hS
          clear hin hout hun hd hcl hS
          go_simp
          exact hK w' _ rfl HSS.out trivial
        · intro a x ls w' hS hsz hni hcl hun hin hout hd K hK
          have i43 : a.tmps.getD 43 undef = .pointer (some ⟨g3, i, none⟩) := (hin 43 3 (by kernel_rfl) (show 43 < 84 by decide)).trans (hd ⟨3, .data⟩ (by simp) rfl)
          have e43 : a.eval (.tmp 43) = .pointer (some ⟨g3, i, none⟩) := i43
          have c0 : w'.cell? ⟨g3, i, none⟩ = some (.string ⟨II.toArray⟩) := ((HNX.out.trans (show Nx wr w' from hS)).cell (p := ⟨g3, i, none⟩) HBI.out.lt).trans HIC.out
          have HSS := Lib.hid hS
          clear hin hout hun hd hcl hS
          go_simp
          exact hK w' _ rfl HSS.out trivial
        · intro a x ls w' hS hsz hni hcl hun hin hout hd K hK
          have i40 : a.tmps.getD 40 undef = .agg #[.slice nA 1 nc, .slice fA 1 fc] := (hin 40 0 (by kernel_rfl) (show 40 < 84 by decide)).trans (hd ⟨0, .data⟩ (by simp) rfl)
          have e40 : a.eval (.tmp 40) = .agg #[.slice nA 1 nc, .slice fA 1 fc] := i40
          have i44 : a.tmps.getD 44 undef = .string ⟨II.toArray⟩ := (hin 44 4 (by kernel_rfl) (show 44 < 84 by decide)).trans (hd ⟨4, .data⟩ (by simp) rfl)
          have e44 : a.eval (.tmp 44) = .string ⟨II.toArray⟩ := i44
          have HSS : Hid (Nx wr w') := hS
          have HCA := Lib.hid (Type_any (HLN.out.nx HSS.out) (HM.out.nx ((HN5.out.trans HNX.out).trans HSS.out)) (HK.out.nx ((HN5.out.trans HNX.out).trans HSS.out)) [97] II H9I.out)
          clear hin hout hun hd hcl hS
          go_simp
          refine HCA.out.mono ?_; rintro e w2 ⟨rfl, hn2⟩
          rw [HTI.out]
          exact hK w2 _ rfl (HSS.out.trans hn2) trivial
        · intro a x ls w' hS hsz hni hcl hun hin hout hd K hK
          have i45 : a.tmps.getD 45 undef = .tuple #[.string ⟨OI.toArray⟩, .int .i64 (KI : Int), .int .i64 (EI : Int)] := (hin 45 5 (by kernel_rfl) (show 45 < 84 by decide)).trans (hd ⟨5, .data⟩ (by simp) rfl)
          have e45 : a.eval (.tmp 45) = .tuple #[.string ⟨OI.toArray⟩, .int .i64 (KI : Int), .int .i64 (EI : Int)] := i45
          have HSS := Lib.hid hS
          clear hin hout hun hd hcl hS
          go_simp
          exact hK w' _ rfl HSS.out trivial
        · intro a x ls w' hS hsz hni hcl hun hin hout hd K hK
          have i39 : a.tmps.getD 39 undef = .tuple #[.string ⟨OI.toArray⟩, .int .i64 (KI : Int), .int .i64 (EI : Int)] := (hin 39 6 (by kernel_rfl) (show 39 < 84 by decide)).trans (hd ⟨6, .data⟩ (by simp) rfl)
          have e39 : a.eval (.tmp 39) = .tuple #[.string ⟨OI.toArray⟩, .int .i64 (KI : Int), .int .i64 (EI : Int)] := i39
          have HSS := Lib.hid hS
          clear hin hout hun hd hcl hS
          go_simp
          exact hK w' _ rfl HSS.out trivial
        · intro a x ls w' hS hsz hni hcl hun hin hout hd K hK
          have i39 : a.tmps.getD 39 undef = .tuple #[.string ⟨OI.toArray⟩, .int .i64 (KI : Int), .int .i64 (EI : Int)] := (hin 39 6 (by kernel_rfl) (show 39 < 84 by decide)).trans (hd ⟨6, .data⟩ (by simp) rfl)
          have e39 : a.eval (.tmp 39) = .tuple #[.string ⟨OI.toArray⟩, .int .i64 (KI : Int), .int .i64 (EI : Int)] := i39
          have HSS := Lib.hid hS
          clear hin hout hun hd hcl hS
          go_simp
          exact hK w' _ rfl HSS.out trivial
        · intro a x ls w' hS hsz hni hcl hun hin hout hd K hK
          have i39 : a.tmps.getD 39 undef = .tuple #[.string ⟨OI.toArray⟩, .int .i64 (KI : Int), .int .i64 (EI : Int)] := (hin 39 6 (by kernel_rfl) (show 39 < 84 by decide)).trans (hd ⟨6, .data⟩ (by simp) rfl)
          have e39 : a.eval (.tmp 39) = .tuple #[.string ⟨OI.toArray⟩, .int .i64 (KI : Int), .int .i64 (EI : Int)] := i39
          have HSS := Lib.hid hS
          clear hin hout hun hd hcl hS
          go_simp
          exact hK w' _ rfl HSS.out trivial
        · intro a x ls w' hS hsz hni hcl hun hin hout hd K hK
          have i46 : a.tmps.getD 46 undef = .string ⟨OI.toArray⟩ := (hin 46 7 (by kernel_rfl) (show 46 < 84 by decide)).trans (hd ⟨7, .data⟩ (by simp) rfl)
          have e46 : a.eval (.tmp 46) = .string ⟨OI.toArray⟩ := i46
          have HSS := Lib.hid hS
          clear hin hout hun hd hcl hS
          go_simp
          exact hK w' _ rfl HSS.out trivial
        · intro a x ls w' hS hsz hni hcl hun hin hout hd K hK
          have i47 : a.tmps.getD 47 undef = .int .i64 (KI : Int) := (hin 47 8 (by kernel_rfl) (show 47 < 84 by decide)).trans (hd ⟨8, .data⟩ (by simp) rfl)
          have e47 : a.eval (.tmp 47) = .int .i64 (KI : Int) := i47
          have HSS := Lib.hid hS
          clear hin hout hun hd hcl hS
          go_simp
          exact hK w' _ rfl HSS.out trivial
        · intro a x ls w' hS hsz hni hcl hun hin hout hd K hK
          have i48 : a.tmps.getD 48 undef = .int .i64 (EI : Int) := (hin 48 9 (by kernel_rfl) (show 48 < 84 by decide)).trans (hd ⟨9, .data⟩ (by simp) rfl)
          have e48 : a.eval (.tmp 48) = .int .i64 (EI : Int) := i48
          have HSS := Lib.hid hS
          clear hin hout hun hd hcl hS
          go_simp
          exact hK w' _ rfl HSS.out trivial
      · intro A x ls w' hS hall hin hout hV hA
        have v10 := hV 10 (by decide)
        have v11 := hV 11 (by decide)
        have v12 := hV 12 (by decide)
        have hA2 := hA.out
        have HSS : Hid (Nx wr w') := hS
        clear hA hin hout hV hall hS
        simp only [RI.setAll, List.toList_toArray, List.set_cons_succ, List.set_cons_zero, Nat.reduceAdd] at hA2
        have v10 : x 10 = .string ⟨OI.toArray⟩ := v10
        have v11 : x 11 = .int .i64 (KI : Int) := v11
        have v12 : x 12 = .int .i64 (EI : Int) := v12
        rw [v10, v11, v12] at hA2
        subst hA2
        have w0 : w'.cell? ⟨g4, i, none⟩ = some (.string ⟨OI.toArray⟩) := ((HNX.out.trans HSS.out).cell (p := ⟨g4, i, none⟩) HBO.out.lt).trans HOC.out
        have m0 : w'.cell? ⟨g5, i, none⟩ = some (.int .i64 (EI : Int)) := ((HNX.out.trans HSS.out).cell (p := ⟨g5, i, none⟩) HBE.out.lt).trans HEC.out
        have HS2 := HSS.out
        have hnx : Nx w5 w' := HNX.out.trans HS2
        have HN7 := Lib.hid hnx
        clear hnx HS2
        go_wp2_with fail
        go_roundw
        case rel => exact ⟨i + 1, by go_num, HLT.out, HN7.out⟩
        case measure => have := HLT.out; simp [intOf]; omega
    · have q1 : decide ((i : Int) < (22 : Int)) = false := decide_eq_false (by omega)
      have q2 : ¬ (i : Int) < (22 : Int) := by omega
      have HL0 := Lib.hid (HLD5.out.nx HNX.out)
      have HA0 := Lib.hid (HN5.out.trans HNX.out)
      have HB0 := Lib.hid (HB5.out.below HNX.out)
      have c0 : wr.cell? ⟨g2, 0, none⟩ = some (.slice nA 1 nc) := HB0.out.cell 0
      have c1 : wr.cell? ⟨g2, 1, none⟩ = some (.slice fA 1 fc) := HB0.out.cell 1
      clear hlt
      have HT1 := Lib.hid (Key_any HL0.out (HM.out.nx HA0.out) (HK.out.nx HA0.out) [97, 46, 69] (by decide) af_1.1)
      go_wp2_with fail
      refine HT1.out.mono ?_; rw [af_1.2]; rintro e x1 ⟨rfl, hn⟩
      have HL1 := Lib.hid (HL0.out.nx hn)
      have HA1 := Lib.hid (HA0.out.trans hn)
      have HB1 := Lib.hid (HB0.out.below hn)
      clear c0 c1 hn HT1
      have c0 : x1.cell? ⟨g2, 0, none⟩ = some (.slice nA 1 nc) := HB1.out.cell 0
      have c1 : x1.cell? ⟨g2, 1, none⟩ = some (.slice fA 1 fc) := HB1.out.cell 1
      have HT2 := Lib.hid (Key_any HL1.out (HM.out.nx HA1.out) (HK.out.nx HA1.out) [100, 111, 117, 98, 108, 101] (by decide) af_2.1)
      go_wp2_with fail
      refine HT2.out.mono ?_; rw [af_2.2]; rintro e x2 ⟨rfl, hn⟩
      have HL2 := Lib.hid (HL1.out.nx hn)
      have HA2 := Lib.hid (HA1.out.trans hn)
      have HB2 := Lib.hid (HB1.out.below hn)
      clear c0 c1 hn HT2
      have c0 : x2.cell? ⟨g2, 0, none⟩ = some (.slice nA 1 nc) := HB2.out.cell 0
      have c1 : x2.cell? ⟨g2, 1, none⟩ = some (.slice fA 1 fc) := HB2.out.cell 1
      have HT3 := Lib.hid (Key_any HL2.out (HM.out.nx HA2.out) (HK.out.nx HA2.out) [108, 105, 115, 116, 60, 105, 56, 62] (by decide) af_3.1)
      go_wp2_with fail
      refine HT3.out.mono ?_; rw [af_3.2]; rintro e x3 ⟨rfl, hn⟩
      have HL3 := Lib.hid (HL2.out.nx hn)
      have HA3 := Lib.hid (HA2.out.trans hn)
      have HB3 := Lib.hid (HB2.out.below hn)
      clear c0 c1 hn HT3
      have c0 : x3.cell? ⟨g2, 0, none⟩ = some (.slice nA 1 nc) := HB3.out.cell 0
      have c1 : x3.cell? ⟨g2, 1, none⟩ = some (.slice fA 1 fc) := HB3.out.cell 1
      have HT4 := Lib.hid (Key_any HL3.out (HM.out.nx HA3.out) (HK.out.nx HA3.out) [97, 46, 110, 111, 110, 101] (by decide) af_4.1)
      go_wp2_with fail
      refine HT4.out.mono ?_; rw [af_4.2]; rintro e x4 ⟨rfl, hn⟩
      have HL4 := Lib.hid (HL3.out.nx hn)
      have HA4 := Lib.hid (HA3.out.trans hn)
      have HB4 := Lib.hid (HB3.out.below hn)
      clear c0 c1 hn HT4
      have c0 : x4.cell? ⟨g2, 0, none⟩ = some (.slice nA 1 nc) := HB4.out.cell 0
      have c1 : x4.cell? ⟨g2, 1, none⟩ = some (.slice fA 1 fc) := HB4.out.cell 1
      have HT5 := Lib.hid (Key_any HL4.out (HM.out.nx HA4.out) (HK.out.nx HA4.out) [60] (by decide) af_5.1)
      go_wp2_with fail
      refine HT5.out.mono ?_; rw [af_5.2]; rintro e x5 ⟨rfl, hn⟩
      have HL5 := Lib.hid (HL4.out.nx hn)
      have HA5 := Lib.hid (HA4.out.trans hn)
      have HB5 := Lib.hid (HB4.out.below hn)
      clear c0 c1 hn HT5
      have c0 : x5.cell? ⟨g2, 0, none⟩ = some (.slice nA 1 nc) := HB5.out.cell 0
      have c1 : x5.cell? ⟨g2, 1, none⟩ = some (.slice fA 1 fc) := HB5.out.cell 1
      go_wp2_with fail
      go_ret
      exact ⟨rfl, HA5.out⟩
end Go.Proofs.YtpfecpcgdfbekaaGreatDoor
