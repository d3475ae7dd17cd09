/- Numbers of fields and their order, as functions of lists. Plain. -/
import Derived.Test.YtjeadmndnbggmaaBase
set_option linter.unusedVariables false
set_option linter.unusedSimpArgs false
namespace Go.Proofs.Ytjeadmndnbggmaa

/-- a field, as far as its number goes -/
structure Fd where
  has : Bool
  id : Int
  nm : List UInt8
def fdBad (f : Fd) : Bool := f.has && !(decide (1 ≤ f.id) && decide (f.id ≤ 32767))
def fdN (f : Fd) (next : Int) : Int := if f.has = true then f.id else next
def fdX (f : Fd) (next : Int) : Int := if f.has = true then next else next - 1
/-- the rest's numbers: what comes next, numbers and names so far -/
def idsP : List Fd → Int → List Int → List (List UInt8) → List Int × Int
  | [], _, ids, _ => (ids, 0)
  | f :: r, nx, ids, ns => if fdBad f = true then ([], 5) else if fdN f nx ∈ ids ∨ f.nm ∈ ns then ([], 8) else idsP r (fdX f nx) (ids ++ [fdN f nx]) (ns ++ [f.nm])
theorem idsP_step {l : List Fd} {i : Nat} (hi : i < l.length) {f : Fd} (hf : l[i] = f) (nx : Int) (ids : List Int) (ns : List (List UInt8)) :
    idsP (l.drop i) nx ids ns = if fdBad f = true then ([], 5) else if fdN f nx ∈ ids ∨ f.nm ∈ ns then ([], 8) else idsP (l.drop (i + 1)) (fdX f nx) (ids ++ [fdN f nx]) (ns ++ [f.nm]) := by
  subst hf
  rw [List.drop_eq_getElem_cons hi]; rfl

/-- places in the order in which their numbers rise -/
def lx (v : Nat → Int) (a b : Nat) : Prop := v a < v b ∨ v a = v b ∧ a < b
def Ord (v : Nat → Int) (n : Nat) (o : List Nat) : Prop := o.Perm (List.range n) ∧ o.Pairwise (lx v)
theorem Ord.uniq {v : Nat → Int} {n : Nat} {o p : List Nat} (h : Ord v n o) (k : Ord v n p) : o = p := by
  refine List.Perm.eq_of_pairwise (le := lx v) ?_ h.2 k.2 (h.1.trans k.1.symm)
  intro a b _ _ h1 h2
  unfold lx at h1 h2
  omega
theorem Ord.nil_ (v : Nat → Int) : Ord v 0 [] := ⟨List.Perm.refl _, List.Pairwise.nil⟩
theorem Ord.len {v : Nat → Int} {n : Nat} {o : List Nat} (h : Ord v n o) : o.length = n := by
  have := h.1.length_eq
  simpa using this
theorem Ord.mem {v : Nat → Int} {n : Nat} {o : List Nat} (h : Ord v n o) {x : Nat} : x ∈ o ↔ x < n := by
  rw [h.1.mem_iff, List.mem_range]
theorem Ord.get {v : Nat → Int} {n : Nat} {o : List Nat} (h : Ord v n o) {i : Nat} (hi : i < o.length) : o[i] < n := h.mem.1 (List.getElem_mem hi)
/-- one more place, put where it belongs -/
theorem Ord.ins {v : Nat → Int} {n : Nat} {a b : List Nat} (h : Ord v n (a ++ b)) (ha : ∀ x ∈ a, v x ≤ v n) (hb : ∀ x ∈ b, v n < v x) : Ord v (n + 1) (a ++ n :: b) := by
  refine ⟨?_, ?_⟩
  · rw [List.range_succ]
    exact (List.perm_middle).trans ((List.Perm.cons n h.1).trans (List.perm_append_singleton n _).symm)
  · have h2 := List.pairwise_append.1 h.2
    rw [List.pairwise_append]
    refine ⟨h2.1, List.pairwise_cons.2 ⟨fun x hx => .inl (hb x hx), h2.2.1⟩, fun x hx y hy => ?_⟩
    rcases List.mem_cons.1 hy with rfl | hy
    · have h3 : x < y := h.mem.1 (List.mem_append_left _ hx)
      have := ha x hx
      unfold lx; omega
    · exact h2.2.2 x hx y hy
/-- the last of those ahead tells of all -/
theorem Ord.last {v : Nat → Int} {n : Nat} {a b : List Nat} {y : Nat} (h : Ord v n ((a ++ [y]) ++ b)) (hy : v y ≤ v n) : ∀ x ∈ a ++ [y], v x ≤ v n := by
  intro x hx
  rcases List.mem_append.1 hx with hx | hx
  · have h2 := (List.pairwise_append.1 (List.pairwise_append.1 h.2).1).2.2 x hx y (by simp)
    unfold lx at h2; omega
  · have : x = y := by simpa using hx
    rw [this]; exact hy
/-- the first of those behind tells of all -/
theorem Ord.first {v : Nat → Int} {n m : Nat} {a b : List Nat} {y : Nat} (h : Ord v n (a ++ y :: b)) (hy : v m < v y) : ∀ x ∈ y :: b, v m < v x := by
  intro x hx
  rcases List.mem_cons.1 hx with rfl | hx
  · exact hy
  · have h2 := (List.pairwise_cons.1 (List.pairwise_append.1 h.2).2.1).1 x hx
    unfold lx at h2; omega
theorem Ord.rise {v : Nat → Int} {n : Nat} {o : List Nat} (h : Ord v n o) {i : Nat} (h1 : i + 1 < o.length) : lx v o[i] o[i + 1] := by
  exact List.pairwise_iff_getElem.1 h.2 i (i + 1) (by omega) h1 (by omega)
theorem Ord.nodup {v : Nat → Int} {n : Nat} {o : List Nat} (h : Ord v n o) : o.Nodup := h.1.nodup_iff.2 List.nodup_range
theorem Ord.ne {v : Nat → Int} {n : Nat} {o : List Nat} (h : Ord v n o) {i j : Nat} (hi : i < o.length) (hj : j < o.length) (hij : i ≠ j) : o[i] ≠ o[j] := by
  have hp := List.pairwise_iff_getElem.1 h.nodup
  rcases Nat.lt_or_gt_of_ne hij with h1 | h1
  · exact hp i j hi hj h1
  · exact fun e => hp j i hj hi h1 e.symm
end Go.Proofs.Ytjeadmndnbggmaa
