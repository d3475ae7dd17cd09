/- Several values put into a block, one behind the other. Plain lemmas. -/
import Derived.Test.YtjeadmndnbggmaaBlk
import Derived.Test.YtjeadmndnbggmaaOth0
set_option linter.unusedVariables false
set_option linter.unusedSimpArgs false
namespace Go.Proofs.Ytjeadmndnbggmaa
open Go.RowKit

def wputs (w : World) (g : Nat) : Nat → List Value → World
  | _, [] => w
  | i, v :: r => wputs (w.setCell ⟨g, i, none⟩ v) g (i + 1) r
def putC (cs : Array Value) : Nat → List Value → Array Value
  | _, [] => cs
  | i, v :: r => putC (cs.setIfInBounds i v) (i + 1) r
theorem putC_get : ∀ (vs : List Value) (cs : Array Value) (i j : Nat), (putC cs i vs)[j]? = if i ≤ j ∧ j < i + vs.length ∧ j < cs.size then vs[j - i]? else cs[j]?
  | [], cs, i, j => by
    rw [if_neg (by simp; omega)]; rfl
  | v :: r, cs, i, j => by
    show (putC (cs.setIfInBounds i v) (i + 1) r)[j]? = _
    rw [putC_get r _ (i + 1) j, Array.size_setIfInBounds]
    by_cases h1 : i + 1 ≤ j ∧ j < i + 1 + r.length ∧ j < cs.size
    · rw [if_pos h1, if_pos (by simp only [List.length_cons]; omega), show j - i = (j - (i + 1)) + 1 by omega, List.getElem?_cons_succ]
    · rw [if_neg h1, Array.getElem?_setIfInBounds]
      by_cases h2 : i = j
      · subst h2
        by_cases h3 : i < cs.size
        · rw [if_pos rfl, if_pos h3, if_pos ⟨Nat.le_refl _, by rw [List.length_cons]; omega, h3⟩, Nat.sub_self]; rfl
        · rw [if_pos rfl, if_neg h3, if_neg (fun h => h3 h.2.2), Array.getElem?_eq_none (by omega)]
      · rw [if_neg h2, if_neg (by simp only [List.length_cons]; omega)]
theorem putC_all {vs : List Value} {cs : Array Value} (h : vs.length = cs.size) : putC cs 0 vs = vs.toArray := by
  have hz : (putC cs 0 vs).size = cs.size := by
    have : ∀ (vs : List Value) (cs : Array Value) (i : Nat), (putC cs i vs).size = cs.size := fun vs => by
      induction vs with
      | nil => exact fun _ _ => rfl
      | cons v r ih => intro cs i; show (putC _ _ r).size = _; rw [ih, Array.size_setIfInBounds]
    exact this vs cs 0
  apply Array.ext_getElem?
  intro j
  rw [putC_get]
  by_cases hj : j < cs.size
  · rw [if_pos ⟨Nat.zero_le _, by omega, hj⟩]; simp
  · rw [if_neg (by omega), Array.getElem?_eq_none (by omega), Array.getElem?_eq_none (by simp; omega)]
section
variable {w w' : World} {B g k b : Nat} {cs : Array Value} {T : TypeId}
theorem Blk.puts : ∀ (vs : List Value) {w : World} {cs : Array Value} (i : Nat), Blk w B g cs T → Blk (wputs w g i vs) B g (putC cs i vs) T
  | [], _, _, _, h => h
  | v :: r, _, _, i, h => Blk.puts r (i + 1) (h.put i v)
theorem Blk.putAll (h : Blk w B g cs T) (vs : List Value) (hl : vs.length = cs.size) : Blk (wputs w g 0 vs) B g vs.toArray T := by
  have := h.puts vs 0
  rw [putC_all hl] at this
  exact this
theorem Blk.apart (hk : k ≠ g) : ∀ (vs : List Value) {w : World} (i : Nat), Blk w B g cs T → Blk (wputs w k i vs) B g cs T
  | [], _, _, h => h
  | v :: r, _, i, h => Blk.apart hk r (i + 1) (h.other hk i v)
theorem Oth.puts (hg : w.heap.size ≤ g) : ∀ (vs : List Value) {w' : World} (i : Nat), Oth b w w' → Oth b w (wputs w' g i vs)
  | [], _, _, h => h
  | v :: r, _, i, h => Oth.puts hg r (i + 1) (h.put hg i v)
theorem Nx.puts (hg : w.heap.size ≤ g) : ∀ (vs : List Value) {w' : World} (i : Nat), Nx w w' → Nx w (wputs w' g i vs)
  | [], _, _, h => h
  | v :: r, _, i, h => Nx.puts hg r (i + 1) (h.put' hg i v)
end
end Go.Proofs.Ytjeadmndnbggmaa
