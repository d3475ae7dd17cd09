/- Rows of structs that the call owns last where one block alone changed. -/
import Derived.Test.YtjeadmndnbggmaaRowB
import Derived.Test.YtjeadmndnbggmaaOth0
set_option linter.unusedVariables false
set_option linter.unusedSimpArgs false
namespace Go.Proofs.Ytjeadmndnbggmaa
open Go.RowKit
section
variable {α : Type} {f : α → Array Value} {k : Nat} {T : TypeId}
theorem OwnS.oth {w w' : World} {B b : Nat} {v : Value} {xs : List α} (h : OwnS f k T w B v xs) (ho : Oth b w w') (hb : b < B) : OwnS f k T w' B v xs := by
  obtain ⟨h1, h2⟩ := h
  refine ⟨h1, ?_⟩
  rcases h2 with h2 | ⟨g, cap, cur, hv, hg, hh, r⟩
  · exact .inl h2
  · refine .inr ⟨g, cap, cur, hv, hg, ?_, r⟩
    rw [ho.block g ?_ (by omega)]; exact hh
    rcases Nat.lt_or_ge g w.heap.size with h | h
    · exact h
    · rw [Array.getElem?_eq_none h] at hh; cases hh
end
end Go.Proofs.Ytjeadmndnbggmaa
