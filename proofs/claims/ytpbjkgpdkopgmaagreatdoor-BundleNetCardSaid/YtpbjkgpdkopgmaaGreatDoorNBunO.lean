/- What BundleNet keeps in memory: names, texts, who includes whom. Plain lemmas. -/
import Derived.Test.YtpbjkgpdkopgmaaGreatDoorG32
import Derived.Test.YtpbjkgpdkopgmaaGreatDoorNBunW
set_option linter.unusedVariables false
set_option linter.unusedSimpArgs false
namespace Go.Proofs.YtpbjkgpdkopgmaaGreatDoor
open Go.RowKit

/-- five rows of five truths -/
def mat (M : Nat → Nat → Bool) : Array Value := ((List.range 25).map fun p => Value.bool (M (p / 5) (p % 5))).toArray
def updM (M : Nat → Nat → Bool) (a b : Nat) (x : Bool) : Nat → Nat → Bool := fun i j => if i = a ∧ j = b then x else M i j
theorem mat_size (M : Nat → Nat → Bool) : (mat M).size = 25 := by simp [mat]
theorem mat_get (M : Nat → Nat → Bool) {a b : Nat} (ha : a < 5) (hb : b < 5) : (mat M)[a * 5 + b]? = some (.bool (M a b)) := by
  have h1 : (a * 5 + b) / 5 = a := by omega
  have h2 : (a * 5 + b) % 5 = b := by omega
  have h3 : a * 5 + b < 25 := by omega
  simp [mat, h3, h1, h2]
theorem mat_set (M : Nat → Nat → Bool) {a b : Nat} (ha : a < 5) (hb : b < 5) (x : Bool) : (mat M).setIfInBounds (a * 5 + b) (.bool x) = mat (updM M a b x) := by
  apply Array.ext
  · simp [mat]
  · intro i h1 h2
    have hi : i < 25 := by simpa [mat] using h2
    rw [Array.getElem_setIfInBounds]
    · by_cases e : a * 5 + b = i
      · have h3 : i / 5 = a := by omega
        have h4 : i % 5 = b := by omega
        simp [mat, updM, e, h3, h4]
      · have h3 : ¬ (i / 5 = a ∧ i % 5 = b) := by omega
        simp [mat, updM, e, h3]
    · simpa [mat] using hi
theorem mat_congr {M M' : Nat → Nat → Bool} (h : ∀ a b, a < 5 → b < 5 → M a b = M' a b) : mat M = mat M' := by
  unfold mat
  congr 1
  apply List.map_congr_left
  intro p hp
  have := List.mem_range.1 hp
  rw [h _ _ (by omega) (by omega)]
theorem mat_false : mat (fun _ _ => false) = #[.bool false, .bool false, .bool false, .bool false, .bool false, .bool false, .bool false, .bool false, .bool false, .bool false, .bool false, .bool false, .bool false, .bool false, .bool false, .bool false, .bool false, .bool false, .bool false, .bool false, .bool false, .bool false, .bool false, .bool false, .bool false] := by
  rfl

def nmA : Array Value := #[bt (nm 0), bt (nm 1), bt (nm 2), bt (nm 3), bt (nm 4)]
theorem nmA_get {i : Nat} (hi : i < 5) : nmA[i]? = some (bt (nm i)) := by
  rcases (show i = 0 ∨ i = 1 ∨ i = 2 ∨ i = 3 ∨ i = 4 by omega) with rfl | rfl | rfl | rfl | rfl <;> rfl
/-- what the law has made, when some files are noted -/
structure Nst (w0 : World) (gL gN g6 g7 : Nat) (Av : Array Value) (root : List UInt8) (v : Value) (xs : List (List UInt8 × List UInt8)) (M : Nat → Nat → Bool) (w : World) : Prop where
  nx : Nx w0 w
  bL : Blk w w0.heap.size gL Av 56
  bN : Blk w w0.heap.size gN nmA 9
  b6 : Blk w w0.heap.size g6 #[bt root, v] 41
  b7 : Blk w w0.heap.size g7 (mat M) 58
  ne : g6 ≠ g7 ∧ gL ≠ g6 ∧ gL ≠ g7 ∧ gN ≠ g6 ∧ gN ≠ g7
  fl : LQ w (fun k => w0.heap.size ≤ k ∧ k ≠ gL ∧ k ≠ gN ∧ k ≠ g6 ∧ k ≠ g7) v xs
section
variable {w0 w w' w2 : World} {gL gN g6 g7 : Nat} {Av : Array Value} {root : List UInt8} {v v' : Value} {xs xs' : List (List UInt8 × List UInt8)} {M M' : Nat → Nat → Bool}
theorem Nst.next (h : Nst w0 gL gN g6 g7 Av root v xs M w) (n : Nx w w') : Nst w0 gL gN g6 g7 Av root v xs M w' :=
  ⟨Nx.trans h.nx n, h.bL.below n, h.bN.below n, h.b6.below n, h.b7.below n, h.ne, h.fl.mv REq.lasts ⟨fun k _ hl => n.block k hl, fun k hk _ => hk⟩⟩
theorem Nst.setM (h : Nst w0 gL gN g6 g7 Av root v xs M w) {a b : Nat} (ha : a < 5) (hb : b < 5) (x : Bool) : Nst w0 gL gN g6 g7 Av root v xs (updM M a b x) (w.setCell ⟨g7, a * 5 + b, none⟩ (.bool x)) := by
  have hk : ∀ k, k ≠ g7 → (w.setCell ⟨g7, a * 5 + b, none⟩ (.bool x)).heap[k]? = w.heap[k]? := fun k hk => by
    simp only [World.setCell]; rw [Array.getElem?_modify, if_neg (fun e => hk e.symm)]
  refine ⟨Nx.put' h.nx h.b7.1 _ _, ⟨h.bL.1, by rw [hk _ h.ne.2.2.1]; exact h.bL.2⟩, ⟨h.bN.1, by rw [hk _ h.ne.2.2.2.2]; exact h.bN.2⟩, ⟨h.b6.1, by rw [hk _ h.ne.1]; exact h.b6.2⟩, ?_, h.ne, h.fl.mv REq.lasts ⟨fun k hp _ => hk k hp.2.2.2.2, fun k hp _ => hp⟩⟩
  have := h.b7.put (a * 5 + b) (.bool x)
  rwa [mat_set M ha hb x] at this
theorem Nst.eqM (h : Nst w0 gL gN g6 g7 Av root v xs M w) (e : ∀ a b, a < 5 → b < 5 → M a b = M' a b) : Nst w0 gL gN g6 g7 Av root v xs M' w :=
  ⟨h.nx, h.bL, h.bN, h.b6, by rw [← mat_congr e]; exact h.b7, h.ne, h.fl⟩
theorem Nst.fresh (h : Nst w0 gL gN g6 g7 Av root v xs M w) {k : Nat} (hk : w.heap.size ≤ k) : k ≠ gL ∧ k ≠ gN ∧ k ≠ g6 ∧ k ≠ g7 :=
  ⟨by have := h.bL.lt; omega, by have := h.bN.lt; omega, by have := h.b6.lt; omega, by have := h.b7.lt; omega⟩
theorem Nst.own (h : Nst w0 gL gN g6 g7 Av root v xs M w) (k : Nat) (e : v.ownBlock = some k) : (w0.heap.size ≤ k ∧ k ≠ gL ∧ k ≠ gN ∧ k ≠ g6 ∧ k ≠ g7) ∧ k < w.heap.size := RepL.own_lt h.fl k e
/-- a file is noted -/
theorem Nst.add (h : Nst w0 gL gN g6 g7 Av root v xs M w) (n : Nx w w2) (hr : LQ w' (fun k => w0.heap.size ≤ k ∧ k ≠ gL ∧ k ≠ gN ∧ k ≠ g6 ∧ k ≠ g7) v' xs') (hg : Gx v w2 v' w') :
    Nst w0 gL gN g6 g7 Av root v' xs' M (w'.setCell ⟨g6, 1, none⟩ v') := by
  have h2 := h.next n
  have hB : ∀ {g : Nat} {cs : Array Value} {T : TypeId}, Blk w2 w0.heap.size g cs T → v.ownBlock ≠ some g → Blk w' w0.heap.size g cs T := fun b hv => ⟨b.1, by rw [hg.block _ b.lt hv]; exact b.2⟩
  have hk : ∀ k, k ≠ g6 → (w'.setCell ⟨g6, 1, none⟩ v').heap[k]? = w'.heap[k]? := fun k hk => by
    simp only [World.setCell]; rw [Array.getElem?_modify, if_neg (fun e => hk e.symm)]
  have o := h.own
  refine ⟨Nx.put' ⟨hg.os.trans h2.nx.os, hg.tape.trans h2.nx.tape, hg.output.trans h2.nx.output, Nat.le_trans h2.nx.size hg.size, fun k hk => ?_⟩ h.b6.1 _ _, (hB h2.bL (fun e => (o _ e).1.2.1 rfl)).other h.ne.2.1.symm _ _, (hB h2.bN (fun e => (o _ e).1.2.2.1 rfl)).other h.ne.2.2.2.1.symm _ _,
    (hB h2.b6 (fun e => (o _ e).1.2.2.2.1 rfl)).put 1 v', (hB h2.b7 (fun e => (o _ e).1.2.2.2.2 rfl)).other h.ne.1 _ _, h.ne, hr.mv REq.lasts ⟨fun k hp _ => hk k hp.2.2.2.1, fun k hp _ => hp⟩⟩
  exact (hg.block k (Nat.lt_of_lt_of_le hk h2.nx.size) (fun e => by have := (o k e).1.1; omega)).trans (h2.nx.block k hk)
end
theorem LQ.own_keep {w w' : World} {P : Nat → Prop} {v : Value} {xs : List (List UInt8 × List UInt8)} (h : LQ w P v xs) (hk : ∀ g, v.ownBlock = some g → w'.heap[g]? = w.heap[g]?) : LQ w' P v xs := by
  obtain ⟨ys, h1, h2⟩ := h
  exact ⟨ys, ⟨h1.1.keep hk, h1.2⟩, h2.mono fun _ _ h => h⟩
theorem Nst.oth {w0 w : World} {gL gN g6 g7 g : Nat} {Av : Array Value} {root : List UInt8} {v : Value} {xs : List (List UInt8 × List UInt8)} {M : Nat → Nat → Bool} (h : Nst w0 gL gN g6 g7 Av root v xs M w) (hb : w0.heap.size ≤ g) (hne : g ≠ gL ∧ g ≠ gN ∧ g ≠ g6 ∧ g ≠ g7 ∧ v.ownBlock ≠ some g) (i : Nat) (u : Value) :
    Nst w0 gL gN g6 g7 Av root v xs M (w.setCell ⟨g, i, none⟩ u) :=
  ⟨Nx.put' h.nx hb _ _, h.bL.other hne.1 _ _, h.bN.other hne.2.1 _ _, h.b6.other hne.2.2.1 _ _, h.b7.other hne.2.2.2.1 _ _, h.ne, h.fl.own_keep fun k e => by
    simp only [World.setCell]; rw [Array.getElem?_modify, if_neg (fun e' => hne.2.2.2.2 (by rw [e, ← e']))]⟩
/-- with who is reached -/
structure Cst (w0 : World) (gL gN g6 g7 gC : Nat) (Av : Array Value) (root : List UInt8) (v : Value) (xs : List (List UInt8 × List UInt8)) (M C : Nat → Nat → Bool) (w : World) : Prop where
  st : Nst w0 gL gN g6 g7 Av root v xs M w
  b : Blk w w0.heap.size gC (mat C) 58
  ne : gC ≠ gL ∧ gC ≠ gN ∧ gC ≠ g6 ∧ gC ≠ g7 ∧ v.ownBlock ≠ some gC
section
variable {w0 w w' : World} {gL gN g6 g7 gC : Nat} {Av : Array Value} {root : List UInt8} {v : Value} {xs : List (List UInt8 × List UInt8)} {M C C' : Nat → Nat → Bool}
theorem Cst.next (h : Cst w0 gL gN g6 g7 gC Av root v xs M C w) (n : Nx w w') : Cst w0 gL gN g6 g7 gC Av root v xs M C w' := ⟨h.st.next n, h.b.below n, h.ne⟩
theorem Cst.drew_ (h : Cst w0 gL gN g6 g7 gC Av root v xs M C w) : Cst w0 gL gN g6 g7 gC Av root v xs M C w.drew := h.next (Nx.drewN w 1)
theorem Cst.setC (h : Cst w0 gL gN g6 g7 gC Av root v xs M C w) {a b : Nat} (ha : a < 5) (hb : b < 5) (x : Bool) : Cst w0 gL gN g6 g7 gC Av root v xs M (updM C a b x) (w.setCell ⟨gC, a * 5 + b, none⟩ (.bool x)) := by
  refine ⟨h.st.oth h.b.1 h.ne _ _, ?_, h.ne⟩
  have := h.b.put (a * 5 + b) (.bool x)
  rwa [mat_set C ha hb x] at this
theorem Cst.eqC (h : Cst w0 gL gN g6 g7 gC Av root v xs M C w) (e : ∀ a b, a < 5 → b < 5 → C a b = C' a b) : Cst w0 gL gN g6 g7 gC Av root v xs M C' w := ⟨h.st, by rw [← mat_congr e]; exact h.b, h.ne⟩
theorem Cst.cell (h : Cst w0 gL gN g6 g7 gC Av root v xs M C w) {a b : Nat} (ha : a < 5) (hb : b < 5) : w.cell? ⟨gC, a * 5 + b, none⟩ = some (.bool (C a b)) := (h.b.cell _).trans (mat_get C ha hb)
theorem Cst.free (h : Cst w0 gL gN g6 g7 gC Av root v xs M C w) (i : Nat) : w.frozen? ⟨gC, i, none⟩ = false := h.b.free i
theorem Cst.inc (h : Cst w0 gL gN g6 g7 gC Av root v xs M C w) {a b : Nat} (ha : a < 5) (hb : b < 5) : w.cell? ⟨g7, a * 5 + b, none⟩ = some (.bool (M a b)) := (h.st.b7.cell _).trans (mat_get M ha hb)
/-- a row is copied -/
theorem Cst.row (h : Cst w0 gL gN g6 g7 gC Av root v xs M C w) {a : Nat} (ha : a < 5) (hC : ∀ i b, i < 5 → b < 5 → C' i b = if i = a then M i b else C i b) :
    Cst w0 gL gN g6 g7 gC Av root v xs M C' (((((w.setCell ⟨gC, a * 5, none⟩ (.bool (M a 0))).setCell ⟨gC, a * 5 + 1, none⟩ (.bool (M a 1))).setCell ⟨gC, a * 5 + 2, none⟩ (.bool (M a 2))).setCell ⟨gC, a * 5 + 3, none⟩ (.bool (M a 3))).setCell ⟨gC, a * 5 + 4, none⟩ (.bool (M a 4))) := by
  have h5 := ((((h.setC ha (show 0 < 5 by omega) (M a 0)).setC ha (show 1 < 5 by omega) (M a 1)).setC ha (show 2 < 5 by omega) (M a 2)).setC ha (show 3 < 5 by omega) (M a 3)).setC ha (show 4 < 5 by omega) (M a 4)
  refine h5.eqC fun i b hi hb => ?_
  rw [hC i b hi hb]
  unfold updM
  by_cases hia : i = a
  · subst hia
    rcases (show b = 0 ∨ b = 1 ∨ b = 2 ∨ b = 3 ∨ b = 4 by omega) with rfl | rfl | rfl | rfl | rfl <;> simp
  · simp [hia]
end
theorem srcs_take (L : Nat → List UInt8) {i : Nat} (hi : i < 5) : (srcs L).take (i + 1) = (srcs L).take i ++ [(nm i, tOf (L i))] := by
  rcases (show i = 0 ∨ i = 1 ∨ i = 2 ∨ i = 3 ∨ i = 4 by omega) with rfl | rfl | rfl | rfl | rfl <;> rfl
theorem srcs_len (L : Nat → List UInt8) : (srcs L).length = 5 := rfl
theorem tOf_snoc (l : List UInt8) {k : Nat} (h : k < l.length) : tOf (l.take (k + 1)) = tOf (l.take k) ++ incT l[k] := by
  unfold tOf
  rw [List.take_succ_eq_append_getElem h, List.flatMap_append]
  simp only [List.flatMap_cons, List.flatMap_nil, List.append_nil]
theorem incT_len (x : UInt8) : (incT x).length = 12 := rfl
theorem tOf_len (l : List UInt8) : (tOf l).length = 12 * l.length := by
  induction l with
  | nil => rfl
  | cons x l ih =>
    have : tOf (x :: l) = incT x ++ tOf l := rfl
    rw [this, List.length_append, incT_len, ih, List.length_cons]; omega
def cntI (L : Nat → List UInt8) (r i : Nat) : Nat := ((List.range i).filter (got5 L r)).length
def cycI (L : Nat → List UInt8) (r i : Nat) : Bool := (List.range i).any fun j => got5 L r j && Wa (incB L) 5 j j
theorem cntI_succ (L : Nat → List UInt8) (r i : Nat) : cntI L r (i + 1) = if got5 L r i = true then cntI L r i + 1 else cntI L r i := by
  unfold cntI
  rw [List.range_succ, List.filter_append, List.length_append]
  by_cases h : got5 L r i = true
  · simp [h]
  · simp [h]
theorem cycI_succ (L : Nat → List UInt8) (r i : Nat) : cycI L r (i + 1) = (cycI L r i || (got5 L r i && Wa (incB L) 5 i i)) := by
  unfold cycI
  rw [List.range_succ, List.any_append]
  simp
theorem cntI_le (L : Nat → List UInt8) (r i : Nat) : cntI L r i ≤ i := by
  unfold cntI
  exact Nat.le_trans (List.length_filter_le _ _) (by simp)
theorem want5_pos (L : Nat → List UInt8) {r : Nat} (hr : r < 5) : 0 < want5 L r := by
  unfold want5
  refine List.length_pos_of_mem (a := r) (List.mem_filter.2 ⟨List.mem_range.2 hr, by unfold got5; simp⟩)
theorem want5_le (L : Nat → List UInt8) (r : Nat) : want5 L r ≤ 5 := cntI_le L r 5
theorem contains_snocB (l : List (List UInt8)) (z y : List UInt8) : (l ++ [z]).contains y = (l.contains y || (z == y)) := by
  rw [Bool.eq_iff_iff, Bool.or_eq_true, List.contains_iff_mem, List.contains_iff_mem, List.mem_append, List.mem_singleton, beq_iff_eq]
  exact or_congr Iff.rfl ⟨Eq.symm, Eq.symm⟩
theorem contains_mem {l : List (List UInt8)} {y : List UInt8} (h : y ∈ l) : l.contains y = true := List.contains_iff_mem.2 h
end Go.Proofs.YtpbjkgpdkopgmaaGreatDoor
