/- The contracts of the document's answers for big over numbers that are read. -/
import Derived.Test.YtpaacfoiiihbeaaGreatNum
import Derived.Test.YtpaacfoiiihbeaaGreatMRefBig
namespace Go.Proofs.YtpaacfoiiihbeaaGreat
open Go.RowKit

theorem Own.num {e : TypeId} {w : World} {B : Nat} {v : Value} {n : Nat} (h : Own uv e w B v (limbs n)) : IsNum w v n := by
  obtain ⟨A, c, rfl, h1, h2, h3⟩ := h.sl
  exact ⟨A, c, limbs n, rfl, h3, h1, h2, rfl⟩

theorem refAdd_n (v u : Value) (a b K : Nat) (w : World) (h : Num w v a K) (g : Num w u b K) (hK : (K : Int) ≤ 5000) :
    Calls Tryz.prog 48 #[v, u] w fun e w' => ∃ v', e = .returned v' ∧ IsNum w' v' (a + b) ∧ Below w.heap.size w w' := by
  obtain ⟨A, c, xs, rfl, h2, h3, h4, h5, rfl⟩ := h
  obtain ⟨B, d, ys, rfl, g2, g3, g4, g5, rfl⟩ := g
  exact (refAdd_any A xs c B ys d w h2 h3 (by omega) g2 g3 (by omega)).mono fun _ _ ⟨v, h1, h2, h3⟩ => ⟨v, h1, h2.num, h3⟩
theorem refMul_n (v u : Value) (a b K : Nat) (w : World) (h : Num w v a K) (g : Num w u b K) (hK : (K : Int) ≤ 5000) :
    Calls Tryz.prog 44 #[v, u] w fun e w' => ∃ v', e = .returned v' ∧ IsNum w' v' (a * b) ∧ Below w.heap.size w w' := by
  obtain ⟨A, c, xs, rfl, h2, h3, h4, h5, rfl⟩ := h
  obtain ⟨B, d, ys, rfl, g2, g3, g4, g5, rfl⟩ := g
  exact (refMul_any A xs c B ys d w h2 h3 (by omega) g2 g3 (by omega)).mono fun _ _ ⟨v, h1, h2, h3⟩ => ⟨v, h1, h2.num, h3⟩
theorem refSub_n (v u : Value) (a b K : Nat) (w : World) (h : Num w v a K) (g : Num w u b K) (hK : (K : Int) ≤ 5000) :
    Calls Tryz.prog 71 #[v, u] w fun e w' => ∃ v' is, e = .returned (.tuple #[v', .bool is]) ∧ SubN w' a b v' is ∧ Below w.heap.size w w' := by
  obtain ⟨A, c, xs, rfl, h2, h3, h4, h5, rfl⟩ := h
  obtain ⟨B, d, ys, rfl, g2, g3, g4, g5, rfl⟩ := g
  refine (refSub_any A xs c B ys d w h2 h3 (by omega) g2 g3 (by omega)).mono fun _ _ ⟨v, is, h1, h2, h3⟩ => ⟨v, is, h1, ?_, h3⟩
  unfold SubIs at h2
  unfold SubN
  split
  · rename_i hlt; rwa [if_pos hlt] at h2
  · rename_i hlt; rw [if_neg hlt] at h2; exact ⟨h2.1.num, h2.2⟩
theorem refDiv_n (v u : Value) (a b K : Nat) (w : World) (h : Num w v a K) (g : Num w u b K) (hK : (K : Int) ≤ 5000) :
    Calls Tryz.prog 46 #[v, u] w fun e w' => ∃ q r ok, e = .returned (.tuple #[q, r, .bool ok]) ∧ DivN w' a b q r ok ∧ Below w.heap.size w w' := by
  obtain ⟨A, c, xs, rfl, h2, h3, h4, h5, rfl⟩ := h
  obtain ⟨B, d, ys, rfl, g2, g3, g4, g5, rfl⟩ := g
  refine (refDiv_any A xs c B ys d w h2 h3 h4 (by omega) g2 g3 g4 (by omega)).mono fun _ _ ⟨q, r, ok, h1, h2, h3⟩ => ⟨q, r, ok, h1, ?_, h3⟩
  unfold DivIs at h2
  unfold DivN
  split
  · rename_i hy; rwa [if_pos hy] at h2
  · rename_i hy; rw [if_neg hy] at h2; exact ⟨h2.1.num, h2.2.1.num, h2.2.2⟩
theorem refCmp_n (v u : Value) (a b K : Nat) (w : World) (h : Num w v a K) (g : Num w u b K) (hK : (K : Int) ≤ 5000) :
    Calls Tryz.prog 47 #[v, u] w fun e w' => e = .returned (.int .i64 (cmpI a b)) ∧ w = w' := by
  obtain ⟨A, c, xs, rfl, h2, h3, h4, h5, rfl⟩ := h
  obtain ⟨B, d, ys, rfl, g2, g3, g4, g5, rfl⟩ := g
  exact refCmp_any A xs c B ys d w h2 h3 (by omega) g2 g3 (by omega)
theorem refShl_n (v : Value) (a K : Nat) (n : Int) (w : World) (h : Num w v a K) (hK : (K : Int) ≤ 5000) (hn1 : -100000 ≤ n) (hn2 : n ≤ 100000) :
    Calls Tryz.prog 41 #[v, .int .i64 n] w fun e w' => ∃ v', e = .returned v' ∧ IsNum w' v' (shV a n) ∧ Below w.heap.size w w' := by
  obtain ⟨A, c, xs, rfl, h2, h3, h4, h5, rfl⟩ := h
  refine (refShl_any A xs c n w h2 h3 h4 (by omega) hn1 hn2).mono fun _ _ ⟨v, h1, h2, h3⟩ => ⟨v, h1, ?_, h3⟩
  rw [shF_shV] at h2
  exact h2.num
theorem refBits_n (v : Value) (a K : Nat) (w : World) (h : Num w v a K) (hK : (K : Int) ≤ 5000) :
    Calls Tryz.prog 42 #[v] w fun e w' => e = .returned (.int .i64 (blen a : Nat)) ∧ Below w.heap.size w w' := by
  obtain ⟨A, c, xs, rfl, h2, h3, h4, h5, rfl⟩ := h
  exact refBits_any A xs c w h2 h3 h4 (by omega)
theorem refLow_n (v : Value) (a K : Nat) (w : World) (h : Num w v a K) (hK : (K : Int) ≤ 5000) :
    Calls Tryz.prog 49 #[v] w fun e w' => e = .returned (.int .u64 (a % 18446744073709551616 : Nat)) ∧ w = w' := by
  obtain ⟨A, c, xs, rfl, h2, h3, h4, h5, rfl⟩ := h
  exact refLow_any A xs c w h2 h3 (by omega)
theorem refOf_n (n : Nat) (w : World) (hn : (n : Int) ≤ 18446744073709551615) :
    Calls Tryz.prog 40 #[.int .u64 n] w fun e w' => ∃ v', e = .returned v' ∧ IsNum w' v' n ∧ Below w.heap.size w w' :=
  (refOf_any n w hn).mono fun _ _ ⟨v, h1, h2, h3⟩ => ⟨v, h1, h2.num, h3⟩
end Go.Proofs.YtpaacfoiiihbeaaGreat
