/- What field's laws begin with. -/
import Derived.Test.YtpfecpcgdfbekaaFdG
import Derived.Deep.DeepCutAuto
set_option linter.unusedVariables false
set_option linter.unusedSimpArgs false
namespace Go.Proofs.Ytpfecpcgdfbekaa
open Go.RowKit

/-- IDs of fields that were written out -/
theorem ids_w (w : World) (g n : Nat) (fs : List Fd) (ids : List Int) (e0 : Int) (hb : Blk w g g ((rowL (fun f => fdV f fz) fs).toArray) 39) (hn : fs.length = n) (hl : n ≤ 100) (hok : ∀ f ∈ fs, f.nm.length ≤ 100) (hr : idsP fs (-1) [] [] = (ids, e0)) :
    Calls Try.prog 8 #[.slice (some ⟨g, 0, none⟩) n n] w fun e w' => ∃ A c, e = .returned (.tuple #[.slice A ids.length c, .int .i64 e0]) ∧ ids.length ≤ c ∧ c ≤ maxLen ∧ Own iv 3 w' w.heap.size (.slice A ids.length c) ids ∧ Nx w w' := by
  subst hn
  refine (IDs_any w _ fs.length fs (RdF.lits hb) hl (Nat.le_refl _) (by simp only [maxLen]; omega) (fun f hf => by have := hok f hf; simp only [maxLen]; omega)).mono ?_
  rintro e w' ⟨v, he, ho, hn⟩
  rw [hr] at he ho
  obtain ⟨A, c, rfl, h1, h2, -⟩ := ho.sl
  exact ⟨A, c, he, h1, h2, ho, hn⟩
theorem order_w (w : World) (A : Option Addr) (c : Nat) (vs : List Int) (n : Nat) (o : List Nat) (hr : Rd iv w A vs) (hl : vs.length = n) (hn : n ≤ 20) (hc1 : n ≤ c) (hc2 : c ≤ maxLen) (ho : Ord (fun i => vs.getD i 0) n o) :
    Calls Try.prog 11 #[.slice A n c] w fun e w' => ∃ gr, e = .returned (.slice (some ⟨gr, 0, none⟩) n n) ∧ Blk w' w.heap.size gr ((o.map nv).toArray) 3 ∧ Nx w w' := by
  subst hl
  refine (Order_any w A c vs hr hn hc1 hc2).mono ?_
  rintro e w' ⟨gr, o', he, ho', hb, hx⟩
  obtain rfl := ho.uniq ho'
  exact ⟨gr, he, hb, hx⟩
def bgF : List Fd := [⟨true, 1, [97]⟩, ⟨false, 0, [98]⟩]
def bgG : List Fd := [⟨true, 0, [97]⟩]
theorem bgO : Ord (fun i => [(5 : Int), 3].getD i 0) 2 [1, 0] := ⟨by decide, by simp [lx, List.getD]⟩
set_option maxRecDepth 100000 in
set_option maxHeartbeats 3200000 in
theorem fdbegun_any (w : World) : Calls Try.prog 7 #[] w fun e w' => e = .returned (.bool true) ∧ Nx w w' := by
  obtain ⟨g1, hg1⟩ : ∃ g, w.heap.size = g := ⟨_, rfl⟩
  obtain ⟨w1, hw1⟩ : ∃ x, w.alloc (.cells #[.bool true, .int .i64 1, .int .i64 0, .string ⟨#[]⟩, .string ⟨#[97]⟩, .bool false, .int .i64 0, .int .i64 0, .int .u64 0, .string ⟨#[]⟩, .slice none 0 0, .bool false, .int .i64 0, .int .i64 0, .string ⟨#[]⟩, .string ⟨#[98]⟩, .bool false, .int .i64 0, .int .i64 0, .int .u64 0, .string ⟨#[]⟩, .slice none 0 0] 39) = x := ⟨_, rfl⟩
  have hb1 : Blk w1 g1 g1 ((rowL (fun f => fdV f fz) bgF).toArray) 39 := by rw [← hw1, ← hg1]; exact Blk.new w _ _
  have hn1 : Nx w w1 := by rw [← hw1]; exact nx0 w _
  have HC1 := Lib.hid (ids_w w1 g1 2 bgF [1, -1] 0 hb1 rfl (by decide) (by decide) (by decide))
  have HN1 := Lib.hid hn1
  clear hb1 hn1
  go_enter Try.func7, Try.ntmps7
  go_wp2_with fail
  refine HC1.out.mono ?_; rintro e w2 ⟨A1, m1, rfl, hm1, hm2, ho2, hn2⟩
  dsimp only [List.length]
  have HO2 := Lib.hid ho2
  have HN2 := Lib.hid (HN1.out.trans hn2)
  obtain ⟨g3, hg3⟩ : ∃ g, w2.heap.size = g := ⟨_, rfl⟩
  obtain ⟨w3, hw3⟩ : ∃ x, w2.alloc (.cells #[.bool true, .int .i64 0, .int .i64 0, .string ⟨#[]⟩, .string ⟨#[97]⟩, .bool false, .int .i64 0, .int .i64 0, .int .u64 0, .string ⟨#[]⟩, .slice none 0 0] 39) = x := ⟨_, rfl⟩
  have hb3 : Blk w3 g3 g3 ((rowL (fun f => fdV f fz) bgG).toArray) 39 := by rw [← hw3, ← hg3]; exact Blk.new w2 _ _
  have hn3 : Nx w2 w3 := by rw [← hw3]; exact nx0 w2 _
  have HC3 := Lib.hid (ids_w w3 g3 1 bgG [] 5 hb3 rfl (by decide) (by decide) (by decide))
  have HN3 := Lib.hid (HN2.out.trans hn3)
  have HO3 := Lib.hid (HO2.out.below hn3)
  clear hw1 hg1 hb3 hn3 ho2 hn2 HC1
  go_wp2_with fail
  refine HC3.out.mono ?_; rintro e w4 ⟨A4, m4, rfl, -, -, -, hn4⟩
  dsimp only [List.length]
  have HN4 := Lib.hid (HN3.out.trans hn4)
  have HO4 := Lib.hid (HO3.out.below hn4)
  obtain ⟨g5, hg5⟩ : ∃ g, w4.heap.size = g := ⟨_, rfl⟩
  obtain ⟨w5, hw5⟩ : ∃ x, w4.alloc (.cells #[.int .i64 5, .int .i64 3] 3) = x := ⟨_, rfl⟩
  have hb5 : Blk w5 g5 g5 (([(5 : Int), 3].map iv).toArray) 3 := by rw [← hw5, ← hg5]; exact Blk.new w4 _ _
  have hn5 : Nx w4 w5 := by rw [← hw5]; exact nx0 w4 _
  have HC5 := Lib.hid (order_w w5 _ 2 [5, 3] 2 [1, 0] (Rd.blk hb5) rfl (by decide) (by decide) (by decide) bgO)
  have HN5 := Lib.hid (HN4.out.trans hn5)
  have HO5 := Lib.hid (HO4.out.below hn5)
  clear hw3 hg3 hb5 hn5 hn4 HC3
  go_wp2_with fail
  refine HC5.out.mono ?_; rintro e w6 ⟨gr, rfl, hb6, hn6⟩
  have HN6 := Lib.hid (HN5.out.trans hn6)
  obtain ⟨A6, m6, e6, -, -, hr6⟩ := (HO5.out.below hn6).sl
  have hA : A6 = A1 := by injection e6 with h1 h2 h3; exact h1.symm
  subst hA
  obtain ⟨ga, oa, rfl, hga, hca⟩ := hr6 (by decide)
  have ca : w6.cell? ⟨ga, oa + 1, none⟩ = some (.int .i64 (-1)) := hca 1 (by decide)
  have cb : w6.cell? ⟨gr, 0, none⟩ = some (.int .i64 1) := hb6.cell 0
  clear hw5 hg5 hb6 hn6 hr6 hga hca e6 HC5
  go_wp2_with fail
  go_ret
  exact ⟨rfl, HN6.out⟩
end Go.Proofs.Ytpfecpcgdfbekaa
