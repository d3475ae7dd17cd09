/- A cursor over the text of a type: its cells, its names, what a call leaves of the world. Plain lemmas. -/
import Derived.Test.YtpaacfoiiihbeaaDoorKinS
import Derived.Test.YtpaacfoiiihbeaaDoorRowS
set_option linter.unusedVariables false
set_option linter.unusedSimpArgs false
namespace Go.Proofs.YtpaacfoiiihbeaaDoor
open Go.RowKit

/-- all that lay lies, but for the cursor's block and its names' row -/
structure Fr (b : Nat) (v : Value) (w : World) (v' : Value) (w' : World) : Prop where
  os : w'.os = w.os
  tape : w'.tape = w.tape
  output : w'.output = w.output
  size : w.heap.size ≤ w'.heap.size
  block : ∀ k, k < w.heap.size → k ≠ b → v.ownBlock ≠ some k → w'.heap[k]? = w.heap[k]?
  own : ∀ k, v'.ownBlock = some k → v.ownBlock = some k ∨ w.heap.size ≤ k
theorem Fr.refl (b : Nat) (v : Value) (w : World) : Fr b v w v w := ⟨rfl, rfl, rfl, Nat.le_refl _, fun _ _ _ _ => rfl, fun _ h => .inl h⟩
theorem Fr.trans {b : Nat} {v v1 v2 : Value} {x y z : World} (h : Fr b v x v1 y) (k : Fr b v1 y v2 z) : Fr b v x v2 z :=
  ⟨k.os.trans h.os, k.tape.trans h.tape, k.output.trans h.output, Nat.le_trans h.size k.size,
   fun i hi hb hv => (k.block i (Nat.lt_of_lt_of_le hi h.size) hb (fun e => (h.own i e).elim hv (by omega))).trans (h.block i hi hb hv),
   fun i e => (k.own i e).elim (h.own i) (fun h' => .inr (Nat.le_trans h.size h'))⟩
theorem Fr.oth {b : Nat} {w w' : World} (h : Oth b w w') (v : Value) : Fr b v w v w' := ⟨h.os, h.tape, h.output, h.size, fun k hk hb _ => h.block k hk hb, fun _ h => .inl h⟩
theorem Fr.nx {w w' : World} (h : Nx w w') (b : Nat) (v : Value) : Fr b v w v w' := ⟨h.os, h.tape, h.output, h.size, fun k hk _ _ => h.block k hk, fun _ h => .inl h⟩
theorem Fr.set (w : World) (b i : Nat) (u v : Value) : Fr b v w v (w.setCell ⟨b, i, none⟩ u) := Fr.oth (Oth.set w b i u) v
/-- a block that lay lies -/
theorem Fr.blk {b B g : Nat} {v v' : Value} {w w' : World} {cs : Array Value} {T : TypeId} (h : Fr b v w v' w') (k : Blk w B g cs T) (hb : g ≠ b) (hv : v.ownBlock ≠ some g) : Blk w' B g cs T :=
  ⟨k.1, by rw [h.block g k.lt hb hv]; exact k.2⟩
theorem Fr.sg {b g : Nat} {v v' : Value} {w w' : World} (h : Fr b v w v' w') (k : Sg w g) (hb : g ≠ b) (hv : v.ownBlock ≠ some g) : Sg w' g := by
  obtain ⟨es, c, hg, h1, h2⟩ := k
  refine ⟨es, c, ?_, h1, h2⟩
  rw [h.block g ?_ hb hv]
  · exact hg
  · exact (Array.getElem?_eq_some_iff.1 hg).1
theorem Fr.tab {b : Nat} {v v' : Value} {w w' : World} (h : Fr b v w v' w') (k : TabK w) (hb : 0 ≠ b) (hv : v.ownBlock ≠ some 0) : TabK w' := by
  obtain ⟨t, fr, hg⟩ := k
  refine ⟨t, fr, ?_⟩
  rw [h.block _ ?_ hb hv]
  · exact hg
  · exact (Array.getElem?_eq_some_iff.1 hg).1
theorem Fr.maxC {b : Nat} {v v' : Value} {w w' : World} (h : Fr b v w v' w') (k : MaxC w) (hb : 1 ≠ b) (hv : v.ownBlock ≠ some 1) : MaxC w' := by
  obtain ⟨m, hm⟩ := k
  refine ⟨m, ?_⟩
  have := h.block _ (World.block_lt_of_cell? w _ hm) hb hv
  rw [← hm]
  unfold World.cell?
  simp only
  rw [this]
/-- seen from a world in which neither the cursor nor the names lay -/
theorem Fr.to {b : Nat} {v v' : Value} {w w1 w' : World} (h : Fr b v w1 v' w') (hn : Nx w w1) (hb : w.heap.size ≤ b) (hv : ∀ k, v.ownBlock = some k → w.heap.size ≤ k) : Nx w w' :=
  ⟨h.os.trans hn.os, h.tape.trans hn.tape, h.output.trans hn.output, Nat.le_trans hn.size h.size, fun k hk =>
    (h.block k (Nat.lt_of_lt_of_le hk hn.size) (by omega) (fun e => by have := hv k e; omega)).trans (hn.block k hk)⟩
/-- a block more, made since -/
theorem Fr.mono {b : Nat} {v v' : Value} {w w1 w' : World} (h : Fr b v w1 v' w') (hn : Nx w w1) : Fr b v w v' w' := (Fr.nx hn b v).trans h
/-- a cell of a block that was made since -/
theorem Fr.put {b g : Nat} {v v' : Value} {w w' : World} (h : Fr b v w v' w') (hg : w.heap.size ≤ g) (i : Nat) (u : Value) : Fr b v w v' (w'.setCell ⟨g, i, none⟩ u) :=
  ⟨h.os, h.tape, h.output, by simp [World.setCell]; exact h.size, fun k hk hb hv => by simp only [World.setCell]; rw [Array.getElem?_modify, if_neg (by omega)]; exact h.block k hk hb hv, h.own⟩

def strC (s : ByteArray) : Array Value := #[.string s]
theorem strC_size (s : ByteArray) : (strC s).size = 1 := rfl
/-- names that the call owns -/
def OwnN (w : World) (B : Nat) (v : Value) (xs : List ByteArray) : Prop := OwnS strC 1 9 w B v xs
theorem OwnN.own {w : World} {B : Nat} {v : Value} {xs : List ByteArray} (h : OwnN w B v xs) (k : Nat) (e : v.ownBlock = some k) : B ≤ k ∧ k < w.heap.size := by
  have := World.ownsRow.lt h k e
  exact ⟨this.1, this.2⟩
theorem OwnN.ne {w : World} {B B' g : Nat} {v : Value} {xs : List ByteArray} {cs : Array Value} {T : TypeId} (h : OwnN w B v xs) (k : Blk w B' g cs T) (hT : T ≠ 9) : v.ownBlock ≠ some g := fun e => by
  obtain ⟨h1, h2⟩ := h
  rcases h2 with ⟨rfl, _⟩ | ⟨g', cap, cur, rfl, hg, hh, r⟩
  · cases e
  · obtain rfl : g' = g := by simpa [Value.ownBlock] using e
    have := k.2
    rw [hh] at this
    simp only [Option.some.injEq, Obj.cells.injEq] at this
    exact hT this.2.1.symm
theorem OwnN.keep {w w' : World} {B : Nat} {v : Value} {xs : List ByteArray} (h : OwnN w B v xs) (hk : ∀ k, v.ownBlock = some k → w'.heap[k]? = w.heap[k]?) : OwnN w' B v xs := by
  obtain ⟨h1, h2⟩ := h
  refine ⟨h1, ?_⟩
  rcases h2 with h2 | ⟨g, cap, cur, hv, hg, hh, r⟩
  · exact .inl h2
  · refine .inr ⟨g, cap, cur, hv, hg, ?_, r⟩
    rw [hk g (by rw [hv]; rfl)]; exact hh
/-- the cursor's block -/
def CurK (w : World) (b : Nat) (s : ByteArray) (at_ d dp : Int) (v : Value) (sb : Nat) : Prop :=
  Blk w 0 b #[.string s, .int .i64 at_, .int .i64 d, .int .i64 dp, v, .map (some sb)] 45
end Go.Proofs.YtpaacfoiiihbeaaDoor
