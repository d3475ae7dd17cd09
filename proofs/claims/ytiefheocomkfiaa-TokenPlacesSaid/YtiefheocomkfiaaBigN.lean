/- The contracts of big over numbers that are read, whatever noughts stand behind; the laws' own first question. -/
import Derived.Test.YtiefheocomkfiaaBigK
namespace Go.Proofs.Ytiefheocomkfiaa
open Go.RowKit

theorem add_n (v u : Value) (a b K : Nat) (w : World) (h : Num w v a K) (g : Num w u b K) (hK : (K : Int) ≤ 5000) :
    Calls Try.prog 59 #[v, u] w fun e w' => ∃ v', e = .returned v' ∧ IsNum w' v' (a + b) ∧ Below w.heap.size w w' := by
  obtain ⟨A, c, xs, rfl, h2, h3, h4, h5, rfl⟩ := h
  obtain ⟨B, d, ys, rfl, g2, g3, g4, g5, rfl⟩ := g
  exact add_any A xs c B ys d w h2 h3 (by omega) g2 g3 (by omega)
theorem mul_n (v u : Value) (a b K : Nat) (w : World) (h : Num w v a K) (g : Num w u b K) (hK : (K : Int) ≤ 5000) :
    Calls Try.prog 60 #[v, u] w fun e w' => ∃ v', e = .returned v' ∧ IsNum w' v' (a * b) ∧ Below w.heap.size w w' := by
  obtain ⟨A, c, xs, rfl, h2, h3, h4, h5, rfl⟩ := h
  obtain ⟨B, d, ys, rfl, g2, g3, g4, g5, rfl⟩ := g
  exact mul_any A xs c B ys d w h2 h3 (by omega) g2 g3 (by omega)
theorem div_n (v u : Value) (a b K : Nat) (w : World) (h : Num w v a K) (g : Num w u b K) (hK : (K : Int) ≤ 5000) :
    Calls Try.prog 73 #[v, u] w fun e w' => ∃ q r ok, e = .returned (.tuple #[q, r, .bool ok]) ∧ DivN w' a b q r ok ∧ Below w.heap.size w w' := by
  obtain ⟨A, c, xs, rfl, h2, h3, h4, h5, rfl⟩ := h
  obtain ⟨B, d, ys, rfl, g2, g3, g4, g5, rfl⟩ := g
  exact div_any A xs c B ys d w h2 h3 (by omega) g2 g3 g4 (by omega)
theorem cmp_n (v u : Value) (a b K : Nat) (w : World) (h : Num w v a K) (g : Num w u b K) (hK : (K : Int) ≤ 5000) :
    Calls Try.prog 75 #[v, u] w fun e w' => e = .returned (.int .i64 (cmpI a b)) ∧ Below w.heap.size w w' := by
  obtain ⟨A, c, xs, rfl, h2, h3, h4, h5, rfl⟩ := h
  obtain ⟨B, d, ys, rfl, g2, g3, g4, g5, rfl⟩ := g
  exact cmp_any A xs c B ys d w h2 h3 h4 (by omega) g2 g3 g4 (by omega)
theorem shl_n (v : Value) (a K : Nat) (n : Int) (w : World) (h : Num w v a K) (hK : (K : Int) ≤ 5000) (hn1 : -100000 ≤ n) (hn2 : n ≤ 100000) :
    Calls Try.prog 72 #[v, .int .i64 n] w fun e w' => ∃ v', e = .returned v' ∧ IsNum w' v' (shV a n) ∧ Below w.heap.size w w' := by
  obtain ⟨A, c, xs, rfl, h2, h3, h4, h5, rfl⟩ := h
  exact shl_any A xs c n w h2 h3 h4 (by omega) hn1 hn2
theorem bits_n (v : Value) (a K : Nat) (w : World) (h : Num w v a K) (hK : (K : Int) ≤ 5000) :
    Calls Try.prog 62 #[v] w fun e w' => e = .returned (.int .i64 (blen a : Nat)) ∧ w = w' := by
  obtain ⟨A, c, xs, rfl, h2, h3, h4, h5, rfl⟩ := h
  exact bits_any A xs c w h2 h3 h4 (by omega)
theorem low_n (v : Value) (a K : Nat) (w : World) (h : Num w v a K) (hK : (K : Int) ≤ 5000) :
    Calls Try.prog 74 #[v] w fun e w' => e = .returned (.int .u64 (a % 18446744073709551616 : Nat)) ∧ w = w' := by
  obtain ⟨A, c, xs, rfl, h2, h3, h4, h5, rfl⟩ := h
  exact low_any A xs c w h2 h3 (by omega)
end Go.Proofs.Ytiefheocomkfiaa
