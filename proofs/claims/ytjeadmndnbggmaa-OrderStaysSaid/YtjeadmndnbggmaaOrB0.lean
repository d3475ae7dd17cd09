/- What order's functions are asked for. -/
import Derived.Test.YtjeadmndnbggmaaOrQ
import Derived.Test.YtjeadmndnbggmaaOrM
import Derived.Deep.DeepCutAuto
set_option linter.unusedVariables false
set_option linter.unusedSimpArgs false
namespace Go.Proofs.Ytjeadmndnbggmaa
open Go.RowKit

def IsSlv (v : Value) : Prop := ∃ A u c, v = .slice A u c
def CmpC (n : Nat) : Prop := ∀ (w : World) (x y : ValS) (A B : Val), RdV n w x A → RdV n w y B → okV n A → okV n B →
  Calls Try.prog 8 #[.agg (valA x), .agg (valA y)] w fun e w' => e = .returned (.int .i64 (cmpV n A B)) ∧ Nx w w'
def CopyC (n : Nat) : Prop := ∀ (w : World) (x : ValS) (A : Val), RdV n w x A → bareV A →
  Calls Try.prog 9 #[.agg (valA x)] w fun e w' => ∃ y, e = .returned (.agg (valA y)) ∧ RdV n w' y A ∧ IsSlv y.l ∧ IsSlv y.ids ∧ Nx w w'
theorem RdO.blk {w : World} {B g : Nat} {xs : List ValS} {T : TypeId} (h : Blk w B g (rowL valA xs).toArray T) : RdO w (some ⟨g, 0, none⟩) xs := fun _ =>
  ⟨g, 0, rfl, h.lt, fun i hi j hj => by
    rw [h.cell, Nat.zero_add, ← rowL_get valA_size xs i hi j hj]; simp⟩
theorem RdL.leafs {w : World} {B g n k : Nat} {l : List Int} {T : TypeId} (h : Blk w B g (rowL valA (l.map (leafS k))).toArray T) (hl : l.length ≤ maxLen) : RdL (RdV (n + 1) w) w (.slice (some ⟨g, 0, none⟩) l.length l.length) (l.map (leafV k)) :=
  ⟨_, _, l.map (leafS k), by rw [List.length_map], by rw [List.length_map]; exact Nat.le_refl _, hl, RdO.blk h, by simp, fun i h1 h2 => by
    rw [List.getElem_map, List.getElem_map]; exact RdV.leaf n w k _⟩
/-- what a row of numbers reads as, each -/
theorem RdL.leaf_at {w : World} {n k : Nat} {v : Value} {l : List Int} (h : RdL (RdV (n + 1) w) w v (l.map (leafV k))) (hpos : 0 < l.length) :
    ∃ g off c, v = .slice (some ⟨g, off, none⟩) l.length c ∧ l.length ≤ c ∧ g < w.heap.size ∧ ∀ i (hi : i < l.length), w.cell? ⟨g, off + i * 5 + 1, none⟩ = some (.int .i64 l[i]) := by
  obtain ⟨A, c, ys, rfl, h1, h2, h3, h4, h5⟩ := h
  rw [List.length_map] at h1 h4 ⊢
  obtain ⟨g, off, rfl, hg, hc⟩ := h3 (by omega)
  refine ⟨g, off, c, rfl, h1, hg, fun i hi => ?_⟩
  rw [hc i (by omega) 1 (by decide)]
  have := (h5 i (by omega) (by rw [List.length_map]; omega))
  rw [List.getElem_map] at this
  show some (Value.int .i64 ys[i].n) = _
  rw [this.2.1]
end Go.Proofs.Ytjeadmndnbggmaa
