/- The contract of values: numbers as values. -/
import Derived.Test.YtiabmkppfbiklaaOrX
set_option linter.unusedVariables false
set_option linter.unusedSimpArgs false
namespace Go.Proofs.Ytiabmkppfbiklaa
open Go.RowKit

set_option maxRecDepth 100000 in
set_option maxHeartbeats 6400000 in
theorem values_any (w : World) (A : Option Addr) (z : List Int) (c n : Nat) (hn : z.length = n) (hr : Rd (Value.int .i64) w A z) (hl : n ≤ 100) :
    Calls Try.prog 11 #[.slice A n c] w fun e w' => ∃ v, e = .returned v ∧ OwnS valA 5 29 w' w.heap.size v (z.map (leafS 3)) ∧ Nx w w' := by
  have HR := Lib.hid hr
  have HZN := Lib.hid hn
  obtain ⟨B, hB⟩ : ∃ B, w.heap.size = B := ⟨_, rfl⟩
  have HB := Lib.hid hB
  rw [hB]
  have hn100 : (n : Int) ≤ 100 := by omega
  clear hr hn hB
  go_enter Try.func11, Try.ntmps11
  go_wp2_with fail
  go_loopw [3, 4] (fun v3 v4 wr => ∃ i : Nat, v4 = .int .i64 (i : Int) ∧ i ≤ n ∧ Hid (OwnS valA 5 29 wr B v3 ((z.take i).map (leafS 3))) ∧ Hid (Nx w wr)) (fun _ v _ => (n - intOf v).toNat)
  case atStart => exact ⟨0, rfl, Nat.zero_le _, OwnS.nil_ _ _, Nx.refl _⟩
  case round =>
    obtain ⟨i, rfl, hi, HO, HX⟩ := hrel
    obtain ⟨A3, m3, hv3, -, -, -⟩ := OwnS.sl valA_size HO.out
    rw [List.length_map, List.length_take, show min i z.length = i by have := HZN.out; omega] at hv3
    rw [hv3] at HO
    subst hv3
    by_cases hlt : i < n
    · have q1 : decide ((i : Int) < (n : Int)) = true := decide_eq_true (by omega)
      have q2 : (i : Int) < (n : Int) := by omega
      have q3 : (0 : Int) ≤ (i : Int) := by omega
      have hiz : i < z.length := by rw [HZN.out]; exact hlt
      obtain ⟨x, hx⟩ : ∃ x, z[i] = x := ⟨_, rfl⟩
      obtain ⟨g, off, rfl, hg, hc0⟩ := HR.out.at_ hiz
      have hc : wr.cell? ⟨g, off + i, none⟩ = some (.int .i64 x) := (HX.out.cell (p := ⟨g, off + i, none⟩) hg).trans (by rw [hc0, hx])
      have HTK : Hid ((z.take (i + 1)).map (leafS 3) = (z.take i).map (leafS 3) ++ [leafS 3 x]) := by
        unfold Hid; rw [List.take_succ_eq_append_getElem hiz, hx, List.map_append]; rfl
      have HLT := Lib.hid hlt
      clear hx hc0 hiz hlt hg
      obtain ⟨g6, hg6⟩ : ∃ g, wr.heap.size = g := ⟨_, rfl⟩
      obtain ⟨w6, hw6⟩ : ∃ y, wr.alloc (.cells #[.int .i64 3, .int .i64 x, .string ⟨#[]⟩, .slice none 0 0, .slice none 0 0] 29) = y := ⟨_, rfl⟩
      have hb6 : Blk w6 g6 g6 (rowL valA [leafS 3 x]).toArray 29 := by rw [← hw6, ← hg6]; exact Blk.new wr _ _
      have hn6 : Nx wr w6 := by rw [← hw6]; exact nx0 _ _
      have HO6 := Lib.hid (HO.out.nx hn6)
      have HX6 := Lib.hid (HX.out.trans hn6)
      have HY6 : Hid (∀ j (h : j < [leafS 3 x].length) p, p < 5 → w6.cell? ⟨g6, 0 + j * 5 + p, none⟩ = (valA [leafS 3 x][j])[p]?) := by
        obtain ⟨g', off', e, h1, h2⟩ := RdO.blk hb6 (by simp)
        simp only [Option.some.injEq, Addr.mk.injEq] at e
        obtain ⟨rfl, rfl, -⟩ := e
        exact h2
      have HL6 : Hid ((((z.take i).map (leafS 3)).length : Int) + ([leafS 3 x].length : Int) ≤ 100000) := by
        unfold Hid; rw [List.length_map, List.length_take]; simp only [List.length_cons, List.length_nil]; omega
      have HQ6 : Hid (B ≤ w6.heap.size) := by unfold Hid; rw [← HB.out]; exact HX6.out.size
      have HON : Hid (∀ y ∈ [leafS 3 x], ∀ u ∈ (valA y).toList, u.oneCell' = true) := fun y hy => by
        have : y = leafS 3 x := by simpa using hy
        subst this; exact leaf_one _ _
      clear hb6 hn6
      go_wp2_with (at_builtin; go_must (refine wpList_appO (f := valA) (k := 5) (z := valZ) _ infoV Try.underlying25 rfl (by decide) (by decide) (fun _ => rfl) rfl _ _ rfl B (.slice A3 i m3) ((z.take i).map (leafS 3)) [leafS 3 x] HON.out rfl HO6.out g6 0 1 1 rfl rfl HY6.out HL6.out HQ6.out ?_; intro v7 w7 hown7 hbel7 hkeep7))
      have hx7 : Nx w w7 := Below.trans (B := w.heap.size) HX6.out (hbel7.mono (Nat.le_of_eq HB.out))
      rw [← HTK.out] at hown7
      have HO7 := Lib.hid hown7
      have HX7 := Lib.hid hx7
      clear hown7 hbel7 hkeep7 hx7 hw6 hg6 hc
      go_wp2_with fail
      go_roundw
      case rel => exact ⟨i + 1, by go_num, HLT.out, HO7.out, HX7.out⟩
      case measure => have := HLT.out; simp [intOf]; omega
    · have q1 : decide ((i : Int) < (n : Int)) = false := decide_eq_false (by omega)
      have q2 : ¬ (i : Int) < (n : Int) := by omega
      obtain rfl : i = n := by omega
      clear hlt
      go_wp2_with fail
      go_ret
      refine ⟨_, rfl, ?_, HX.out⟩
      have h := HO.out
      rwa [List.take_of_length_le (Nat.le_of_eq HZN.out)] at h
end Go.Proofs.Ytiabmkppfbiklaa
