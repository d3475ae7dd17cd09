/- The laws' test of whether kind does anything yet; and what is shown comes back. -/
import Derived.Test.YtpaacfoiiihbeaaDoorKinL
set_option linter.unusedVariables false
set_option linter.unusedSimpArgs false
namespace Go.Proofs.YtpaacfoiiihbeaaDoor
open Go.RowKit

theorem whole_m : wholeT [109, 97, 112, 60, 105, 56, 44, 97, 46, 66, 62] = (0, .mp (.bs 3) (.nm [97, 46, 66])) :=
  wholeT_full (.mp (.bs 3) (.nm [97, 46, 66])) ⟨by simp [wfT, isBs], by decide, by decide⟩ (by decide)
theorem whole_e : (wholeT [108, 105, 115, 116, 60]).1 = 2 := by decide +kernel
theorem whole_x : (wholeT [120]).1 = 0 := by decide +kernel
theorem whole_l : wholeT [108, 105, 115, 116, 60, 105, 56, 62] = (0, .l1 15 (.bs 3)) :=
  wholeT_full (.l1 15 (.bs 3)) ⟨.inr rfl, by simp [wfT, isBs]⟩ (by decide)
theorem whole_a : wholeT [97] = (0, .nm [97]) := wholeT_full (.nm [97]) ⟨by decide, by decide⟩ (by decide)

set_option maxRecDepth 100000 in
set_option maxHeartbeats 6400000 in
theorem kbegun_any (w : World) (ht : TabK w) (hm : MaxC w) :
    Calls Tryd.prog 8 #[] w fun e w' => e = .returned (.bool true) ∧ Nx w w' := by
  have H1 : Hid (∀ w, TabK w → MaxC w → Calls Tryd.prog 9 #[.string ⟨#[109, 97, 112, 60, 105, 56, 44, 97, 46, 66, 62]⟩] w fun e w' => e = .returned (.tuple #[.int .i64 13, .string ⟨#[]⟩, .string ⟨#[105, 56]⟩, .string ⟨#[97, 46, 66]⟩, .int .i64 0]) ∧ Nx w w') := by
    intro w ht hm
    have := head_any w ⟨#[109, 97, 112, 60, 105, 56, 44, 97, 46, 66, 62]⟩ [109, 97, 112, 60, 105, 56, 44, 97, 46, 66, 62] rfl (by decide) ht hm
    unfold headW at this
    rw [whole_m] at this
    exact this
  have H2 : Hid (∀ w, TabK w → MaxC w → Calls Tryd.prog 9 #[.string ⟨#[108, 105, 115, 116, 60]⟩] w fun e w' => e = .returned (.tuple #[.int .i64 0, .string ⟨#[]⟩, .string ⟨#[]⟩, .string ⟨#[]⟩, .int .i64 2]) ∧ Nx w w') := by
    intro w ht hm
    have := head_any w ⟨#[108, 105, 115, 116, 60]⟩ [108, 105, 115, 116, 60] rfl (by decide) ht hm
    unfold headW at this
    rw [whole_e, if_pos (by decide)] at this
    exact this
  have H3 : Hid (∀ w, TabK w → Calls Tryd.prog 18 #[.int .i64 13, .string ⟨#[]⟩, .string ⟨#[105, 56]⟩, .string ⟨#[97, 46, 66]⟩] w fun e w' => e = .returned (.string ⟨#[109, 97, 112, 60, 105, 56, 44, 97, 46, 66, 62]⟩) ∧ Nx w w') := by
    intro w ht
    exact show_any w 13 ⟨#[]⟩ ⟨#[105, 56]⟩ ⟨#[97, 46, 66]⟩ [] [105, 56] [97, 46, 66] rfl rfl rfl (by decide) (by decide) (by decide) (by decide) ht
  have H4 : Hid (∀ w, TabK w → MaxC w → Calls Tryd.prog 13 #[.string ⟨#[120]⟩] w fun e w' => e = .returned (.bool true) ∧ Nx w w') := by
    intro w ht hm
    have := may_any w ⟨#[120]⟩ [120] rfl (by decide) ht hm
    rw [whole_x] at this
    exact this
  have H5 : Hid (∀ w, TabK w → MaxC w → Calls Tryd.prog 14 #[.string ⟨#[108, 105, 115, 116, 60, 105, 56, 62]⟩] w fun e w' => e = .returned (.int .i64 1) ∧ Nx w w') := by
    intro w ht hm
    have := depth_any w ⟨#[108, 105, 115, 116, 60, 105, 56, 62]⟩ [108, 105, 115, 116, 60, 105, 56, 62] rfl (by decide) ht hm
    rw [whole_l] at this
    exact this
  have H6 : Hid (∀ w, TabK w → MaxC w → Calls Tryd.prog 11 #[.string ⟨#[97]⟩] w fun e w' => ∃ A c, e = .returned (.slice A 1 c) ∧ Nx w w') := by
    intro w ht hm
    have := names_any w ⟨#[97]⟩ [97] rfl (by decide) ht hm
    unfold namesW at this
    rw [whole_a] at this
    refine this.mono ?_
    rintro e w' ⟨v, rfl, ho, hn⟩
    obtain ⟨A, c, rfl, -, -, -⟩ := OwnS.sl strC_size ho
    exact ⟨A, c, rfl, hn⟩
  have HT := Lib.hid ht
  have HM := Lib.hid hm
  clear ht hm
  go_enter Tryd.func8, Tryd.ntmps8
  go_wp2_with fail
  refine (H1.out w HT.out HM.out).mono ?_; rintro e w1 ⟨rfl, hn1⟩
  have HN1 := Lib.hid hn1
  clear hn1
  go_wp2_with fail
  refine (H2.out w1 (HT.out.nx HN1.out) (HM.out.nx HN1.out)).mono ?_; rintro e w2 ⟨rfl, hn2⟩
  have HN2 := Lib.hid (HN1.out.trans hn2)
  clear hn2
  go_wp2_with fail
  refine (H3.out w2 (HT.out.nx HN2.out)).mono ?_; rintro e w3 ⟨rfl, hn3⟩
  have HN3 := Lib.hid (HN2.out.trans hn3)
  clear hn3
  go_wp2_with fail
  refine (H4.out w3 (HT.out.nx HN3.out) (HM.out.nx HN3.out)).mono ?_; rintro e w4 ⟨rfl, hn4⟩
  have HN4 := Lib.hid (HN3.out.trans hn4)
  clear hn4
  go_wp2_with fail
  refine (H5.out w4 (HT.out.nx HN4.out) (HM.out.nx HN4.out)).mono ?_; rintro e w5 ⟨rfl, hn5⟩
  have HN5 := Lib.hid (HN4.out.trans hn5)
  clear hn5
  go_wp2_with fail
  refine (wire_any 17 w5).mono ?_; rintro e w' ⟨rfl, rfl⟩
  rw [show wireS 17 = 8 from by decide]
  go_wp2_with fail
  refine (H6.out w' (HT.out.nx HN5.out) (HM.out.nx HN5.out)).mono ?_; rintro e w6 ⟨A, c, rfl, hn6⟩
  go_wp2_with fail
  go_ret
  exact ⟨rfl, HN5.out.trans hn6⟩
end Go.Proofs.YtpaacfoiiihbeaaDoor
