/- The contract of big: quotients. -/
import Derived.Test.YtiefheocomkfiaaBigI
import Derived.Laws.CopyOwn
set_option linter.unusedVariables false
set_option linter.unusedSimpArgs false
namespace Go.Proofs.Ytiefheocomkfiaa
open Go.RowKit

theorem Row.of_block {w : World} {B g : Nat} {xs : List UInt32} (h : w.heap[g]? = some (.cells (xs.map uv).toArray 81 (0, 0))) (hB : B ≤ g) (hm : xs.length ≤ maxLen) : Row w B g 0 xs.length xs := by
  have hlt : g < w.heap.size := by
    rcases Nat.lt_or_ge g w.heap.size with h' | h'
    · exact h'
    · rw [Array.getElem?_eq_none h'] at h; cases h
  refine ⟨hB, hlt, Nat.le_refl _, hm, fun j hj => ⟨?_, ?_⟩, fun j hj => ?_⟩
  · rw [Nat.zero_add, cell_of_row w g j _ _ (0, 0) h]; simp [hj]
  · simp [World.frozen?, h]
  · rw [Nat.zero_add, cell_of_row w g j _ _ (0, 0) h]; simp [hj]

section
variable {P : Program} (w : World) {ops : Array Oper} {rest : List Oper} {o : Oper} {a : Act} {Q : Exit → Act → World → Prop}
/-- make of n noughts: the whole block is known -/
theorem wpList_mkw {t e : TypeId} {by_ : Nat} (T : ElT P t e by_) (hz0 : ∀ i, P.info? e = some i → i.zero = some (uv 0)) (hgd : o.guard = none) (l c : Operand) (hop : o.op = Op.makeSlice t l c)
    (kl kc : IntKind) (N : Int) (hl : a.eval l = .int kl N) (hc : a.eval c = .int kc N) (h0 : 0 ≤ N) (hby : by_ * N ≤ 281474976710656) (hm : N ≤ 281474976710656)
    (h : ∀ g off w' (zs : List UInt32), Hid (off = 0 ∧ w'.heap[g]? = some (.cells (zs.map uv).toArray e (0, 0))) → Hid (zs = List.replicate N.toNat 0) → (zs.length : Int) ≤ N → N ≤ (zs.length : Int) → Below w.heap.size w w' → w.heap.size ≤ g → wpList P ops Q rest (a.put o.dst (.slice (some ⟨g, off, none⟩) zs.length zs.length)) w') : wpList P ops Q (o :: rest) a w := by
  obtain ⟨i, z, hi, hz, h1, h2, h3⟩ := T.inf
  obtain rfl : z = uv 0 := by have := hz0 i hi; rw [hz] at this; injection this
  refine wpList_plain hgd fun K hK => ?_
  have hrun := run_make (P := P) w t e i (uv 0) T.ht hi hz kl kc N N h0 (Int.le_refl _) (by rw [h2]; exact hby) (by omega)
  rw [h1, Nat.mul_one] at hrun
  have hmc : (madeCells (uv 0).cells N.toNat).toList = List.replicate N.toNat (uv 0) := by
    rw [show (uv 0).cells = #[uv 0] from rfl]
    apply List.ext_getElem
    · simp [madeCells]
    · intro j h1 h2
      simp [madeCells, Nat.mod_one]
  have hma : madeCells (uv 0).cells N.toNat = ((List.replicate N.toNat (0 : UInt32)).map uv).toArray := by
    apply Array.toList_inj.1
    rw [hmc]; simp
  have := hK _ _ (h w.heap.size 0 (w.alloc (.cells (madeCells (uv 0).cells N.toNat) e)) (List.replicate N.toNat 0) ⟨rfl, by rw [← hma]; exact heap_alloc_new w _⟩ rfl (by rw [List.length_replicate]; omega) (by rw [List.length_replicate]; omega) ((Below.refl _ w).alloc (Nat.le_refl _) _) (Nat.le_refl _))
  unfold Oper.wp execOp
  simp only [hop, Sem.run_bind, Sem.run_pure, Result.andThen_ok, hl, hc, hrun]
  simp only [List.length_replicate] at this
  exact this

/-- a part of a row, at its address -/
theorem wpList_slR {t e : TypeId} {by_ : Nat} (T : ElT P t e by_) (hgd : o.guard = none) (x pl ph : Operand) (ho : o.op = .slice t x (some pl) (some ph) none)
    (g off n c : Nat) (hx : a.eval x = .slice (some ⟨g, off, none⟩) n c) (hc : n ≤ c) (l m : Nat) (kl kh : IntKind) (li hi : Int) (hlo : a.eval pl = .int kl li) (hhi : a.eval ph = .int kh hi)
    (e1 : li = l) (e2 : hi = ((l + m : Nat) : Int)) (h0 : 0 < m) (h2 : l + m ≤ n)
    (hK : wpList P ops Q rest (a.put o.dst (.slice (some ⟨g, off + l, none⟩) m (c - l))) w) : wpList P ops Q (o :: rest) a w := by
  refine wpList_plain hgd fun K hK' => ?_
  subst e1 e2
  have hrun := run_sl (P := P) w T (A := some ⟨g, off, none⟩) (n := n) (c := c) hc (some (a.eval pl)) (some (a.eval ph)) l (l + m : Nat) (by omega) (by omega) (by omega) (.inr ⟨kl, by rw [hlo]⟩) (.inr ⟨kh, by rw [hhi]⟩)
  have hs : Go.sliced (some ⟨g, off, none⟩) (l : Int).toNat ((l + m : Nat) : Int).toNat c 1 = .slice (some ⟨g, off + l, none⟩) m (c - l) := by
    have : ¬ c = l := by omega
    simp only [Int.toNat_natCast]
    have e3 : l + m - l = m := by omega
    by_cases h0 : l = 0 <;> simp [Go.sliced, this, Addr.add, e3, h0]
    all_goals omega
  rw [hs] at hrun
  have := hK' _ _ hK
  unfold Oper.wp execOp
  simp only [ho, Sem.run_bind, Sem.run_pure, Result.andThen_ok, hx]
  rw [show Option.map a.eval (some pl) = some (a.eval pl) from rfl, show Option.map a.eval (some ph) = some (a.eval ph) from rfl, show Option.map a.eval (none : Option Operand) = none from rfl, run_sliceAt_slice w t _ _ _ _ (by simp [Program.elem, T.ht]), hrun]
  exact this
end
end Go.Proofs.Ytiefheocomkfiaa
