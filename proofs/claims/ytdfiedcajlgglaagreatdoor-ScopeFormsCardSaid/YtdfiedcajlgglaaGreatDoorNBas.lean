/- Facts of values in a list. -/
import Derived.Test.YtdfiedcajlgglaaGreatDoorG09
import Derived.Test.YtdfiedcajlgglaaGreatDoorG23
set_option linter.unusedVariables false
namespace Go.Proofs.YtdfiedcajlgglaaGreatDoor
namespace RI
theorem Vof.keeps {Vs : List (Value → World → Prop)} {R : World → World → Prop} (h : ∀ p ∈ Vs, ∀ v w w', p v w → R w w' → p v w') : ∀ j v w w', Vof Vs j v w → R w w' → Vof Vs j v w' := by
  intro j v w w' h1 h2
  unfold Vof at *
  rw [List.getD_eq_getElem?_getD] at *
  cases hj : Vs[j]? with
  | none => trivial
  | some p =>
    rw [hj] at h1
    exact h p (List.mem_of_getElem? hj) v w w' h1 h2
end RI
end Go.Proofs.YtdfiedcajlgglaaGreatDoor
