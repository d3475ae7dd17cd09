/- Two rising rows, parted alike, and what their parts make. Plain. -/
import Derived.Test.YtjeadmndnbggmaaOrI
set_option linter.unusedVariables false
set_option linter.unusedSimpArgs false
namespace Go.Proofs.Ytjeadmndnbggmaa

def Up (l : List ValS) : Prop := l.Pairwise fun a b => ky a ≤ ky b
theorem Up.last {l : List ValS} {x : ValS} (h : Up (l ++ [x])) : ∀ z ∈ l ++ [x], ky z ≤ ky x := fun z hz => by
  rcases List.mem_append.1 hz with hz | hz
  · exact (List.pairwise_append.1 h).2.2 z hz x (by simp)
  · rw [List.mem_singleton.1 hz]; exact Int.le_refl _
theorem Up.head {l : List ValS} {x : ValS} (h : Up (x :: l)) : ∀ z ∈ x :: l, ky x ≤ ky z := fun z hz => by
  rcases List.mem_cons.1 hz with rfl | hz
  · exact Int.le_refl _
  · exact (List.pairwise_cons.1 h).1 z hz
/-- where the last of one is no greater than the first of the other, none is greater -/
theorem Up.cross {l r : List ValS} (hl : Up l) (hr : Up r) (h : ∀ l' x y r', l = l' ++ [x] → r = y :: r' → ky x ≤ ky y) : ∀ x ∈ l, ∀ y ∈ r, ky x ≤ ky y := by
  intro x hx y hy
  obtain ⟨l', z, rfl⟩ : ∃ a z, l = a ++ [z] := ⟨l.dropLast, l.getLast (by intro e; rw [e] at hx; cases hx), (List.dropLast_concat_getLast _).symm⟩
  obtain ⟨u, r', rfl⟩ : ∃ u a, r = u :: a := by
    cases r with
    | nil => cases hy
    | cons u a => exact ⟨u, a, rfl⟩
  have h1 := hl.last x hx
  have h2 := hr.head y hy
  have h3 := h l' z u r' rfl rfl
  omega
/-- two rising rows, parted so that the front parts are no greater than the hind ones; each side put in order -/
theorem Up.sym {A1 A2 C1 C2 L R : List ValS} (hA : Up (A1 ++ A2)) (hC : Up (C1 ++ C2)) (h1 : ∀ l' x y r', A1 = l' ++ [x] → C2 = y :: r' → ky x ≤ ky y) (h2 : ∀ l' x y r', C1 = l' ++ [x] → A2 = y :: r' → ky x ≤ ky y)
    (hL : Sd L (A1 ++ C1)) (hR : Sd R (A2 ++ C2)) : Sd (L ++ R) (A1 ++ A2 ++ (C1 ++ C2)) := by
  obtain ⟨a1, a2, a3⟩ := List.pairwise_append.1 hA
  obtain ⟨c1, c2, c3⟩ := List.pairwise_append.1 hC
  have x1 := Up.cross a1 c2 h1
  have x2 := Up.cross c1 a2 h2
  constructor
  · have e : (A1 ++ C1 ++ (A2 ++ C2)).Perm (A1 ++ A2 ++ (C1 ++ C2)) := by
      rw [List.append_assoc, List.append_assoc]
      refine List.Perm.append_left A1 ?_
      rw [← List.append_assoc, ← List.append_assoc]
      exact List.Perm.append_right C2 List.perm_append_comm
    exact (hL.1.append hR.1).trans e
  · refine List.pairwise_append.2 ⟨hL.2, hR.2, fun x hx y hy => ?_⟩
    rcases List.mem_append.1 (hL.1.mem_iff.1 hx) with hx | hx <;> rcases List.mem_append.1 (hR.1.mem_iff.1 hy) with hy | hy
    · exact a3 x hx y hy
    · exact x1 x hx y hy
    · exact x2 x hx y hy
    · exact c3 x hx y hy
/-- one value put into a rising row, at its place -/
theorem Up.put {a b : List ValS} {x : ValS} (h : Up (a ++ b)) (ha : ∀ z ∈ a, ky z ≤ ky x) (hb : ∀ z ∈ b, ky x ≤ ky z) : Up (a ++ x :: b) := by
  have h2 := List.pairwise_append.1 h
  unfold Up
  rw [List.pairwise_append]
  refine ⟨h2.1, List.pairwise_cons.2 ⟨hb, h2.2.1⟩, fun z hz y hy => ?_⟩
  rcases List.mem_cons.1 hy with rfl | hy
  · exact ha z hz
  · exact h2.2.2 z hz y hy
end Go.Proofs.Ytjeadmndnbggmaa
