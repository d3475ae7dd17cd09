/- Worlds that changed in one block alone. Plain lemmas. -/
import Derived.Test.YtjeadmndnbggmaaProg
import Derived.Test.YtjeadmndnbggmaaTxt
set_option linter.unusedVariables false
set_option linter.unusedSimpArgs false
namespace Go.Proofs.Ytjeadmndnbggmaa
open Go.RowKit

/-- all that lay lies, but for one block -/
structure Oth (b : Nat) (w w' : World) : Prop where
  os : w'.os = w.os
  tape : w'.tape = w.tape
  output : w'.output = w.output
  size : w.heap.size ≤ w'.heap.size
  block : ∀ k, k < w.heap.size → k ≠ b → w'.heap[k]? = w.heap[k]?
theorem Oth.refl (b : Nat) (w : World) : Oth b w w := ⟨rfl, rfl, rfl, Nat.le_refl _, fun _ _ _ => rfl⟩
theorem Oth.trans {b : Nat} {x y z : World} (h : Oth b x y) (k : Oth b y z) : Oth b x z :=
  ⟨k.os.trans h.os, k.tape.trans h.tape, k.output.trans h.output, Nat.le_trans h.size k.size, fun i hi hb => (k.block i (Nat.lt_of_lt_of_le hi h.size) hb).trans (h.block i hi hb)⟩
theorem Oth.nx {b : Nat} {w w' : World} (h : Nx w w') : Oth b w w' := ⟨h.os, h.tape, h.output, h.size, fun k hk _ => h.block k hk⟩
theorem Oth.set (w : World) (b i : Nat) (v : Value) : Oth b w (w.setCell ⟨b, i, none⟩ v) :=
  ⟨rfl, rfl, rfl, by simp [World.setCell], fun k _ hk => by simp only [World.setCell]; rw [Array.getElem?_modify, if_neg (fun e => hk e.symm)]⟩
theorem Oth.to {w w1 w' : World} {b : Nat} (h : Oth b w1 w') (hn : Nx w w1) (hb : w.heap.size ≤ b) : Nx w w' :=
  ⟨h.os.trans hn.os, h.tape.trans hn.tape, h.output.trans hn.output, Nat.le_trans hn.size h.size, fun k hk => (h.block k (Nat.lt_of_lt_of_le hk hn.size) (by omega)).trans (hn.block k hk)⟩
theorem Oth.blk {w w' : World} {b B g : Nat} {cs : Array Value} {T : TypeId} (h : Oth b w w') (k : Blk w B g cs T) (hg : g ≠ b) : Blk w' B g cs T :=
  ⟨k.1, by rw [h.block g k.lt hg]; exact k.2⟩
/-- a block of its own that changed, and others -/
theorem Oth.mono {w w1 w' : World} {b : Nat} (h : Oth b w1 w') (hn : Nx w w1) : Oth b w w' := (Oth.nx hn).trans h
theorem Oth.put {w w' : World} {b g : Nat} (h : Oth b w w') (hg : w.heap.size ≤ g) (i : Nat) (v : Value) : Oth b w (w'.setCell ⟨g, i, none⟩ v) :=
  ⟨h.os, h.tape, h.output, by simp [World.setCell]; exact h.size, fun k hk hb => by simp only [World.setCell]; rw [Array.getElem?_modify, if_neg (by omega)]; exact h.block k hk hb⟩
theorem Oth.put5 {w w' : World} {b g : Nat} {v0 v1 v2 v3 v4 : Value} (h : Oth b w w') (hk : w.heap.size ≤ g) :
    Oth b w (((((w'.setCell ⟨g, 0, none⟩ v0).setCell ⟨g, 1, none⟩ v1).setCell ⟨g, 2, none⟩ v2).setCell ⟨g, 3, none⟩ v3).setCell ⟨g, 4, none⟩ v4) :=
  ((((h.put hk 0 v0).put hk 1 v1).put hk 2 v2).put hk 3 v3).put hk 4 v4
theorem Oth.own {w w' : World} {b i : Nat} {v : Value} (h : Oth b w w') : Oth b w (w'.setCell ⟨b, i, none⟩ v) := h.trans (Oth.set _ _ _ _)

end Go.Proofs.Ytjeadmndnbggmaa
