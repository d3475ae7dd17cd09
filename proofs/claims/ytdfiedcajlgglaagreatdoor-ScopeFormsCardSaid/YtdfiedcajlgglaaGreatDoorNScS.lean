/- What the laws of scope begin with. -/
import Derived.Test.YtdfiedcajlgglaaGreatDoorNScV
set_option linter.unusedVariables false
set_option linter.unusedSimpArgs false
namespace Go.Proofs.YtdfiedcajlgglaaGreatDoor
open Go.RowKit

set_option maxRecDepth 100000 in
set_option maxHeartbeats 3200000 in
theorem scbegun_any (w : World) (hm : MaxC w) :
    Calls Tryz.prog 11 #[] w fun e w' => e = .returned (.bool true) ∧ Nx w w' := by
  have HM := Lib.hid hm
  obtain ⟨gA, hgA⟩ : ∃ g, w.heap.size = g := ⟨_, rfl⟩
  clear hm
  go_enter Tryz.func11, Tryz.ntmps11
  go_wp2_with fail
  have HN1 : Hid (Nx w (w.alloc (.cells #[.string ⟨#[97]⟩, .string ⟨#[105, 110, 99, 108, 117, 100, 101, 32, 39, 98, 39, 32, 101, 110, 117, 109, 32, 69, 32, 123, 88, 125]⟩, .string ⟨#[98]⟩, .string ⟨#[115, 116, 114, 117, 99, 116, 32, 67, 32, 123, 125, 32, 115, 116, 114, 117, 99, 116, 32, 67, 32, 123, 125]⟩] 57))) := nx0 _ _
  have hB1 := Blk.new w #[.string ⟨#[97]⟩, .string ⟨#[105, 110, 99, 108, 117, 100, 101, 32, 39, 98, 39, 32, 101, 110, 117, 109, 32, 69, 32, 123, 88, 125]⟩, .string ⟨#[98]⟩, .string ⟨#[115, 116, 114, 117, 99, 116, 32, 67, 32, 123, 125, 32, 115, 116, 114, 117, 99, 116, 32, 67, 32, 123, 125]⟩] 57
  rw [hgA] at hB1
  have HB1 := Lib.hid hB1
  generalize World.alloc w _ = w1 at *
  clear hB1
  have hrd : RdW w1 (some ⟨gA, 0, none⟩) bgX := fun _ => ⟨gA, 0, rfl, HB1.out.lt, fun i hi => by
    have hi : i < 2 := hi
    rcases (show i = 0 ∨ i = 1 by omega) with rfl | rfl
    · exact ⟨HB1.out.cell 0, HB1.out.cell 1⟩
    · exact ⟨HB1.out.cell 2, HB1.out.cell 3⟩⟩
  obtain ⟨o1, o2, o3, o4, o5, o6⟩ := bg_ok
  refine (load_w w1 [97] _ 2 2 bgX rfl hrd o1 (by decide) bgN bgF 2 rfl rfl o2 o3 o4 o5 o6).mono ?_
  rintro e w2 ⟨nA, nc, fA, fc, rfl, hld, hn2⟩
  clear hrd hgA o1 o2 o3 o4 o5 o6
  obtain ⟨g1, hg1⟩ : ∃ g, w2.heap.size = g := ⟨_, rfl⟩
  obtain ⟨w3, hw3⟩ : ∃ w3, w2.alloc (.cells #[.slice nA 2 nc, .slice fA 2 fc] 27) = w3 := ⟨_, rfl⟩
  have hb3 : Blk w3 g1 g1 #[.slice nA 2 nc, .slice fA 2 fc] 27 := by rw [← hw3, ← hg1]; exact Blk.new w2 _ _
  have hn3 : Nx w2 w3 := by rw [← hw3]; exact nx0 _ _
  have HLD3 := Lib.hid (hld.nx hn3)
  have HN3 := Lib.hid (HN1.out.trans (hn2.trans hn3))
  have a0 : w3.cell? ⟨g1, 0, none⟩ = some (.slice nA 2 nc) := hb3.cell 0
  have a1 : w3.cell? ⟨g1, 1, none⟩ = some (.slice fA 2 fc) := hb3.cell 1
  clear hld hn2 hn3 hb3
  go_wp2_with fail
  clear hw3 hg1
  refine (from_any w3 nA fA 2 nc 2 fc).mono ?_; rintro e w4 ⟨rfl, hn4⟩
  obtain ⟨g2, hg2⟩ : ∃ g, w4.heap.size = g := ⟨_, rfl⟩
  obtain ⟨w5, hw5⟩ : ∃ w5, w4.alloc (.cells #[.slice nA 2 nc, .slice fA 2 fc] 37) = w5 := ⟨_, rfl⟩
  have hb5 : Blk w5 g2 g2 #[.slice nA 2 nc, .slice fA 2 fc] 37 := by rw [← hw5, ← hg2]; exact Blk.new w4 _ _
  have hn5 : Nx w4 w5 := by rw [← hw5]; exact nx0 _ _
  have HLD5 := Lib.hid (HLD3.out.nx (hn4.trans hn5))
  have HN5 := Lib.hid (HN3.out.trans (hn4.trans hn5))
  have HB5 := Lib.hid hb5
  have c0 : w5.cell? ⟨g2, 0, none⟩ = some (.slice nA 2 nc) := hb5.cell 0
  have c1 : w5.cell? ⟨g2, 1, none⟩ = some (.slice fA 2 fc) := hb5.cell 1
  clear hn4 hn5 hb5 a0 a1
  go_wp2_with fail
  clear hw5 hg2
  -- Find
  refine (Find_any HLD5.out [97] [98, 46, 67] (by decide) (HM.out.nx HN5.out)).mono ?_; rintro e w6 ⟨hfr, hn6⟩
  obtain ⟨v, rfl, hv⟩ := findR_g hfr
  rw [bg_find] at hv ⊢
  obtain ⟨dk, xk, xd, xn, dt, s, de, zA, fA2, mA, tA, zu, zc, fu, fc2, mu, mc, tu, tc, rfl⟩ := hv
  dsimp only [bt]
  obtain ⟨g3, hg3⟩ : ∃ g, w6.heap.size = g := ⟨_, rfl⟩
  obtain ⟨w7, hw7⟩ : ∃ w7, w6.alloc (.cells #[.int .i64 (dk : Int), .string ⟨#[67]⟩, .string ⟨dt.toArray⟩, .int .i64 (xk : Int), .int .i64 xn, .int .u64 (xd : Int), .string ⟨s.toArray⟩, .slice zA zu zc, .slice fA2 fu fc2, .slice mA mu mc, .string ⟨de.toArray⟩, .slice tA tu tc] 51) = w7 := ⟨_, rfl⟩
  have hb7 : Blk w7 g3 g3 #[.int .i64 (dk : Int), .string ⟨#[67]⟩, .string ⟨dt.toArray⟩, .int .i64 (xk : Int), .int .i64 xn, .int .u64 (xd : Int), .string ⟨s.toArray⟩, .slice zA zu zc, .slice fA2 fu fc2, .slice mA mu mc, .string ⟨de.toArray⟩, .slice tA tu tc] 51 := by rw [← hw7, ← hg3]; exact Blk.new w6 _ _
  have hn7 : Nx w6 w7 := by rw [← hw7]; exact nx0 _ _
  have HB7 := Lib.hid hb7
  have hb2 := HB5.out.below (hn6.trans hn7)
  have HB2 := Lib.hid hb2
  have HLD7 := Lib.hid (HLD5.out.nx (hn6.trans hn7))
  have HN7 := Lib.hid (HN5.out.trans (hn6.trans hn7))
  clear c0 c1 hn6 hn7 hb7 hfr
  have c0 : w7.cell? ⟨g2, 0, none⟩ = some (.slice nA 2 nc) := hb2.cell 0
  have c1 : w7.cell? ⟨g2, 1, none⟩ = some (.slice fA 2 fc) := hb2.cell 1
  clear hb2
  go_wp2_with fail
  clear hw7 hg3
  -- Const
  refine (Const_any HLD7.out [97] [69, 46, 88] (by decide) (HM.out.nx HN7.out)).mono ?_; rintro e w8 ⟨hcr, hn8⟩
  obtain ⟨v, H, nm, rfl, hv⟩ := constR_g hcr
  have hbc := bg_const
  obtain ⟨WC, hWC⟩ : ∃ x, whoC bgN bgF (constP bgN bgF [97] [69, 46, 88]) = x := ⟨_, rfl⟩
  rw [hWC] at hbc ⊢
  obtain ⟨W1, W2, W3⟩ := WC
  obtain ⟨rfl, rfl⟩ : W2 = [88] ∧ W3 = 0 := Prod.mk.inj hbc
  obtain ⟨dk2, xk2, xd2, xn2, dt2, s2, de2, zA2, fA3, mA2, tA2, zu2, zc2, fu2, fc3, mu2, mc2, tu2, tc2, rfl⟩ := hv
  dsimp only [bt]
  have HN8 := Lib.hid (HN7.out.trans hn8)
  have HLD8 := Lib.hid (HLD7.out.nx hn8)
  have hb2 := HB2.out.below hn8
  have hb3 := HB7.out.below hn8
  clear c0 c1 hcr hbc hWC
  obtain ⟨w9, hw9⟩ : ∃ w9, w8.alloc (.cells #[.int .i64 (dk2 : Int), .string ⟨nm.toArray⟩, .string ⟨dt2.toArray⟩, .int .i64 (xk2 : Int), .int .i64 xn2, .int .u64 (xd2 : Int), .string ⟨s2.toArray⟩, .slice zA2 zu2 zc2, .slice fA3 fu2 fc3, .slice mA2 mu2 mc2, .string ⟨de2.toArray⟩, .slice tA2 tu2 tc2] 51) = w9 := ⟨_, rfl⟩
  have hn9 : Nx w8 w9 := by rw [← hw9]; exact nx0 _ _
  have HN9 := Lib.hid (HN8.out.trans hn9)
  have HLD9 := Lib.hid (HLD8.out.nx hn9)
  have HB9 := Lib.hid (hb3.below hn9)
  have c0 : w9.cell? ⟨g2, 0, none⟩ = some (.slice nA 2 nc) := (hb2.below hn9).cell 0
  have c1 : w9.cell? ⟨g2, 1, none⟩ = some (.slice fA 2 fc) := (hb2.below hn9).cell 1
  clear hn8 hn9 hb2 hb3
  go_wp2_with fail
  clear hw9
  refine (Twice_any w9 _ _ _ _ _ _ _ HLD9.out).mono ?_; rintro e wa ⟨rfl, hna⟩
  rw [bg_twice]
  dsimp only [twV, bt, Option.getD, Option.isSome]
  have HNA := Lib.hid (HN9.out.trans hna)
  have d1 : wa.cell? ⟨g3, 1, none⟩ = some (.string ⟨#[67]⟩) := (HB9.out.below hna).cell 1
  clear c0 c1 hna
  go_wp2_with fail
  go_ret
  exact ⟨rfl, HNA.out⟩
end Go.Proofs.YtdfiedcajlgglaaGreatDoor
