/- Values in memory, as they are read. -/
import Derived.Test.YtjeadmndnbggmaaOrP
import Derived.Test.YtjeadmndnbggmaaRowS0
set_option linter.unusedVariables false
set_option linter.unusedSimpArgs false
namespace Go.Proofs.Ytjeadmndnbggmaa
open Go.RowKit

/-- a value's cells -/
structure ValS where
  k : Nat
  n : Int
  s : List UInt8
  l : Value
  ids : Value
def valA (x : ValS) : Array Value := #[.int .i64 (x.k : Int), .int .i64 x.n, .string ⟨x.s.toArray⟩, x.l, x.ids]
theorem valA_size (x : ValS) : (valA x).size = 5 := rfl
theorem valA_agg (x : ValS) : (Value.agg (valA x)) = .agg #[.int .i64 (x.k : Int), .int .i64 x.n, .string ⟨x.s.toArray⟩, x.l, x.ids] := rfl
/-- structs from a place on -/
def RdO (w : World) (A : Option Addr) (xs : List ValS) : Prop :=
  0 < xs.length → ∃ g off, A = some ⟨g, off, none⟩ ∧ g < w.heap.size ∧ ∀ i (h : i < xs.length) j, j < 5 → w.cell? ⟨g, off + i * 5 + j, none⟩ = (valA xs[i])[j]?
theorem RdO.nx {w w' : World} {A : Option Addr} {xs : List ValS} (h : RdO w A xs) (hn : Nx w w') : RdO w' A xs := fun h0 => by
  obtain ⟨g, off, e, hg, hc⟩ := h h0
  refine ⟨g, off, e, Nat.lt_of_lt_of_le hg hn.size, fun i hi j hj => ?_⟩
  rw [← hc i hi j hj]
  unfold World.cell?
  simp only
  rw [hn.block g hg]
def RdL (R : ValS → Val → Prop) (w : World) (v : Value) (l : List Val) : Prop :=
  ∃ A c ys, v = .slice A l.length c ∧ l.length ≤ c ∧ c ≤ maxLen ∧ RdO w A ys ∧ ys.length = l.length ∧ ∀ i (h1 : i < ys.length) (h2 : i < l.length), R ys[i] l[i]
def RdI (w : World) (v : Value) (ids : List Int) : Prop := ∃ A c, v = .slice A ids.length c ∧ ids.length ≤ c ∧ c ≤ maxLen ∧ Rd (Value.int .i64) w A ids
/-- a value, so deep -/
def RdV : Nat → World → ValS → Val → Prop
  | 0, _, _, _ => False
  | n + 1, w, x, .mk k a s l i => x.k = k ∧ x.n = a ∧ x.s = s ∧ RdL (RdV n w) w x.l l ∧ RdI w x.ids i
theorem RdI.nx {w w' : World} {v : Value} {l : List Int} (h : RdI w v l) (hn : Nx w w') : RdI w' v l := by
  obtain ⟨A, c, e, h1, h2, h3⟩ := h
  exact ⟨A, c, e, h1, h2, h3.below hn⟩
theorem RdL.nx {R R' : ValS → Val → Prop} (hR : ∀ x y, R x y → R' x y) {w w' : World} {v : Value} {l : List Val} (h : RdL R w v l) (hn : Nx w w') : RdL R' w' v l := by
  obtain ⟨A, c, ys, e, h1, h2, h3, h4, h5⟩ := h
  exact ⟨A, c, ys, e, h1, h2, h3.nx hn, h4, fun i a b => hR _ _ (h5 i a b)⟩
theorem RdV.nx {w w' : World} (hn : Nx w w') : ∀ (n : Nat) {x : ValS} {v : Val}, RdV n w x v → RdV n w' x v
  | 0, _, _, h => h
  | n + 1, x, .mk k a s l i, h => ⟨h.1, h.2.1, h.2.2.1, h.2.2.2.1.nx (fun x y h => RdV.nx hn n h) hn, h.2.2.2.2.nx hn⟩
theorem RdI.nil_ (w : World) : RdI w (.slice none 0 0) [] := ⟨none, 0, rfl, Nat.le_refl _, Nat.zero_le _, Rd.nil⟩
theorem RdL.nil_ (R : ValS → Val → Prop) (w : World) : RdL R w (.slice none 0 0) [] := ⟨none, 0, [], rfl, Nat.le_refl _, Nat.zero_le _, fun h => absurd h (by decide), rfl, fun i h => absurd h (by simp)⟩
def leafS (k : Nat) (a : Int) : ValS := ⟨k, a, [], .slice none 0 0, .slice none 0 0⟩
theorem RdV.leaf (n : Nat) (w : World) (k : Nat) (a : Int) : RdV (n + 1) w (leafS k a) (leafV k a) := ⟨rfl, rfl, rfl, RdL.nil_ _ _, RdI.nil_ _⟩
/-- the world, an own row of values: it reads as values -/
theorem RdL.own {w : World} {B n : Nat} {v : Value} {xs : List ValS} {l : List Val} (h : OwnS valA 5 29 w B v xs) (hl : xs.length = l.length) (hr : ∀ i (h1 : i < xs.length) (h2 : i < l.length), RdV n w xs[i] l[i]) : RdL (RdV n w) w v l := by
  obtain ⟨A, c, e, h1, h2, h3⟩ := h.sl valA_size
  refine ⟨A, c, xs, by rw [e, hl], by omega, h2, fun h0 => ?_, hl, hr⟩
  obtain ⟨g, e2, hg, hc⟩ := h3 h0
  exact ⟨g, 0, e2, hg, fun i hi j hj => by rw [Nat.zero_add]; exact hc i hi j hj⟩
theorem RdV.depth {w : World} : ∀ (n : Nat) {x : ValS} {v : Val}, RdV n w x v → depV n v
  | 0, _, _, h => h.elim
  | n + 1, x, .mk k a s l i, h => by
    obtain ⟨A, c, ys, -, -, -, -, h4, h5⟩ := h.2.2.2.1
    intro y hy
    obtain ⟨j, hj, rfl⟩ := List.getElem_of_mem hy
    exact (h5 j (by omega) hj).depth
end Go.Proofs.Ytjeadmndnbggmaa
