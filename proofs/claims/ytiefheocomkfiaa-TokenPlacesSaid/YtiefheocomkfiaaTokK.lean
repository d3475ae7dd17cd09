/- The words of a text rise, and the last one is the end. Plain lemmas; and the laws' test of whether token does anything yet. -/
import Derived.Test.YtiefheocomkfiaaTokJ
set_option linter.unusedVariables false
set_option linter.unusedSimpArgs false
namespace Go.Proofs.Ytiefheocomkfiaa
open Go.RowKit

theorem lex_begun1 : lexS [97, 32, 61, 32, 49] = ([⟨1, [97], 0, 0, 0⟩, ⟨5, [61], 0, 0, 2⟩, ⟨2, [], 1, 0, 4⟩, ⟨6, [], 0, 0, 5⟩], 0, 0) := by
  have h : (lexS [97, 32, 61, 32, 49]).2 = (0, 0) ∧ (lexS [97, 32, 61, 32, 49]).1.map (fun t => (t.k, t.t, t.n, t.d, t.p)) = [(1, [97], 0, 0, 0), (5, [61], 0, 0, 2), (2, [], 1, 0, 4), (6, [], 0, 0, 5)] := by decide +kernel
  obtain ⟨h1, h2⟩ := h
  generalize lexS [97, 32, 61, 32, 49] = R at *
  obtain ⟨ts, r⟩ := R
  dsimp only at h1 h2
  subst h1
  match ts, h2 with
  | [⟨_, _, _, _, _⟩, ⟨_, _, _, _, _⟩, ⟨_, _, _, _, _⟩, ⟨_, _, _, _, _⟩], h2 =>
    simp at h2
    simp [h2]
theorem lex_begun2 : (lexS [97, 32, 63]).2 = (2, 2) := by decide +kernel

set_option maxRecDepth 100000 in
set_option maxHeartbeats 1600000 in
theorem begun_any (w : World) (hm : MaxC w) :
    Calls Try.prog 5 #[] w fun e w' => e = .returned (.bool true) ∧ Nx w w' := by
  go_enter Try.func5, Try.ntmps5
  have HM := Lib.hid hm
  clear hm
  go_wp2_with fail
  refine (lex_any ⟨#[97, 32, 61, 32, 49]⟩ [97, 32, 61, 32, 49] w rfl (by decide) HM.out).mono ?_; rintro e w1 ⟨v1, rfl, hv1, hw1⟩
  rw [lex_begun1] at hv1 ⊢
  dsimp only at hv1 ⊢
  obtain ⟨A, c, rfl, hc1, hc2, hr⟩ := hv1.sl
  go_wp2_with fail
  refine (lex_any ⟨#[97, 32, 63]⟩ [97, 32, 63] w1 rfl (by decide) (HM.out.nx hw1)).mono ?_; rintro e w2 ⟨v2, rfl, hv2, hw2⟩
  rw [lex_begun2]
  have hr2 := hr.nx hw2
  obtain ⟨g, rfl, hg, -, -, a2, -, -⟩ := hr2.at_ 2 (by decide)
  obtain ⟨g', e, -, a3, -, -, -, -⟩ := hr2.at_ 3 (by decide)
  injection e with e
  injection e with e
  subst e
  have b2 : w2.cell? ⟨g, 12, none⟩ = some (.int .i64 1) := a2
  have b3 : w2.cell? ⟨g, 15, none⟩ = some (.int .i64 6) := a3
  clear hr hr2 a2 a3 hv1 hv2
  dsimp only [List.length] at *
  have hc3 : (4 : Int) ≤ (c : Int) := by simp at hc1; omega
  go_wp2_with fail
  go_ret
  exact ⟨rfl, Nx.trans hw1 hw2⟩
end Go.Proofs.Ytiefheocomkfiaa
