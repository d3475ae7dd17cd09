/- A block that the call made, with the values of its cells. Plain lemmas. -/
import Derived.Test.YtjeadmndnbggmaaHyb
set_option linter.unusedVariables false
set_option linter.unusedSimpArgs false
namespace Go.Proofs.Ytjeadmndnbggmaa
open Go.RowKit

def Blk (w : World) (B g : Nat) (cs : Array Value) (T : TypeId) : Prop := B ≤ g ∧ w.heap[g]? = some (.cells cs T (0, 0))
theorem Blk.lt {w : World} {B g : Nat} {cs : Array Value} {T : TypeId} (h : Blk w B g cs T) : g < w.heap.size := by
  rcases Nat.lt_or_ge g w.heap.size with h1 | h1
  · exact h1
  · have := h.2; rw [Array.getElem?_eq_none h1] at this; cases this
theorem Blk.new (w : World) (cs : Array Value) (T : TypeId) : Blk (w.alloc (.cells cs T)) w.heap.size w.heap.size cs T := ⟨Nat.le_refl _, heap_alloc_new w _⟩
theorem Blk.less {w : World} {B B' g : Nat} {cs : Array Value} {T : TypeId} (h : Blk w B g cs T) (hB : B' ≤ B) : Blk w B' g cs T := ⟨Nat.le_trans hB h.1, h.2⟩
theorem Blk.below {w w' : World} {B g : Nat} {cs : Array Value} {T : TypeId} (h : Blk w B g cs T) (hb : Below w.heap.size w w') : Blk w' B g cs T := ⟨h.1, by rw [hb.block g h.lt]; exact h.2⟩
theorem Blk.alloc {w : World} {B g : Nat} {cs : Array Value} {T : TypeId} (h : Blk w B g cs T) (o : Obj) : Blk (w.alloc o) B g cs T := h.below (nx0 w o)
theorem Blk.cell {w : World} {B g : Nat} {cs : Array Value} {T : TypeId} (h : Blk w B g cs T) (i : Nat) : w.cell? ⟨g, i, none⟩ = cs[i]? := by
  unfold World.cell?; rw [h.2]; rfl
theorem Blk.free {w : World} {B g : Nat} {cs : Array Value} {T : TypeId} (h : Blk w B g cs T) (i : Nat) : w.frozen? ⟨g, i, none⟩ = false := by
  unfold World.frozen?; rw [h.2]; simp
theorem Blk.put {w : World} {B g : Nat} {cs : Array Value} {T : TypeId} (h : Blk w B g cs T) (i : Nat) (v : Value) : Blk (w.setCell ⟨g, i, none⟩ v) B g (cs.setIfInBounds i v) T := by
  refine ⟨h.1, ?_⟩
  have hl := h.lt
  have h2 := h.2
  rw [Array.getElem?_eq_getElem hl] at h2
  simp only [World.setCell]
  rw [Array.getElem?_modify, if_pos rfl, Array.getElem?_eq_getElem hl, Option.some.inj h2]
  rfl
theorem Blk.other {w : World} {B g k : Nat} {cs : Array Value} {T : TypeId} (h : Blk w B g cs T) (hk : k ≠ g) (i : Nat) (v : Value) : Blk (w.setCell ⟨k, i, none⟩ v) B g cs T := by
  refine ⟨h.1, ?_⟩
  simp only [World.setCell]
  rw [Array.getElem?_modify, if_neg hk]; exact h.2
theorem Blk.drew {w : World} {B g : Nat} {cs : Array Value} {T : TypeId} (h : Blk w B g cs T) (n : Nat) : Blk (w.drewN n) B g cs T := h
theorem Nx.put {w w' : World} {B g : Nat} {cs : Array Value} {T : TypeId} (h : Nx w w') (hk : Blk w' w.heap.size g cs T) (i : Nat) (v : Value) : Nx w (w'.setCell ⟨g, i, none⟩ v) := Below.setCell h hk.1 v
theorem Nx.put' {w w' : World} {g : Nat} (h : Nx w w') (hk : w.heap.size ≤ g) (i : Nat) (v : Value) : Nx w (w'.setCell ⟨g, i, none⟩ v) := Below.setCell h hk v
theorem Nx.dr {w w' : World} (h : Nx w w') (n : Nat) : Nx w (w'.drewN n) := ⟨h.os, h.tape, h.output, h.size, h.block⟩
theorem Nx.al {w w' : World} (h : Nx w w') (o : Obj) : Nx w (w'.alloc o) := nxa h o
end Go.Proofs.Ytjeadmndnbggmaa
