/- A region that draws its order, whose slots are read and written. Plain lemmas over any program. -/
import Derived.Test.YtjeadmndnbggmaaRegX
set_option linter.unusedVariables false
set_option linter.unusedSimpArgs false
namespace Go.Proofs.Ytjeadmndnbggmaa
namespace RI
section
variable {P : Program} {a0 : Act}
/-- the region, without guards, its slots at first as they were -/
theorem wp_region_Y {id : Nat} {Q : Exit → Act → World → Prop} {w : World} {ops : Array Oper} (S : Array Bool → (Nat → Value) → World → Prop) (hm : P.follows .mixedOrders = true) (hok : okB ops.toList = true) (hg : ops.toList.all (fun o => o.guard == none) = true)
    (hS : S (Array.replicate ops.size false) (old a0 ops.toList) { w with drawn := w.drawn + 1 }) (hs : StepsX ops.toList a0 S P ops.toList 0)
    (hend : ∀ (A : Act) (x : Nat → Value) ls w, S ls x w → (∀ j, j < ops.toList.length → ls.getD j false = true) → (∀ d i, slotB ops.toList d i = true → d < a0.tmps.size → A.eval (.tmp d) = x i) → (∀ d, (dsts ops.toList).contains d = false → A.eval (.tmp d) = a0.eval (.tmp d)) →
      RowKit.Hid (A = ⟨(setAll ops.toList 0 x a0.tmps.toList).toArray, a0.defers⟩) → Q .normal A w) : (Code.region id ops true).wp P Q a0 w := by
  refine wp_region_any hm ?_
  have hold : PA ops.toList 0 (old a0 ops.toList) a0 = a0 := PA_old ops.toList 0 _ a0 (fun i o d h1 h2 => by unfold old; rw [Nat.zero_add, h1]; simp [h2])
  have hrep : ∀ j, (Array.replicate ops.size false).getD j false = false := by
    intro j
    rw [Array.getD_eq_getD_getElem?]
    cases h : (Array.replicate ops.size false)[j]? with
    | none => rfl
    | some b =>
      obtain ⟨h1, h2⟩ := Array.getElem?_eq_some_iff.1 h
      simp at h2
      simp [← h2]
  have := inv_anyX (P := P) (Q := Q) hok hg hs (fun x ls w h1 h2 => hend (PA ops.toList 0 x a0) x ls w h1 h2 (fun d i g1 g2 => PA_slot g1 g2) (fun d g1 => PA_old_slot g1) (PA_list ops.toList 0 x a0)) ops.size (Array.replicate ops.size false) (old a0 ops.toList) { w with drawn := w.drawn + 1 } (by simp) ?_ hS ?_
  · rw [hold] at this
    simpa using this
  · unfold unl
    have := List.length_filter_le (fun i => !(Array.replicate ops.size false).getD i true) (List.range ops.toList.length)
    simp only [List.length_range] at this
    simpa using this
  · intro j o ho hj
    rw [hrep] at hj; cases hj
end
end RI
end Go.Proofs.Ytjeadmndnbggmaa
