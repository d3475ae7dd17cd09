/- Fields that come in, opened. -/
import Derived.Test.YtpfecpcgdfbekaaFdF
import Derived.Deep.Slices
import Derived.ChangeArms
import Derived.Lib.SmallJoins
set_option linter.unusedVariables false
set_option linter.unusedSimpArgs false
namespace Go.Proofs.Ytpfecpcgdfbekaa
open Go.RowKit Go.ChangeShapes Go.WideShapes Go.Deep

theorem list11 {α : Type} {l : List α} (h : l.length = 11) : ∃ c0 c1 c2 c3 c4 c5 c6 c7 c8 c9 c10, l = [c0, c1, c2, c3, c4, c5, c6, c7, c8, c9, c10] := by
  match l, h with
  | [c0, c1, c2, c3, c4, c5, c6, c7, c8, c9, c10], _ => exact ⟨c0, c1, c2, c3, c4, c5, c6, c7, c8, c9, c10, rfl⟩
theorem list7 {α : Type} {l : List α} (h : l.length = 7) : ∃ c0 c1 c2 c3 c4 c5 c6, l = [c0, c1, c2, c3, c4, c5, c6] := by
  match l, h with
  | [c0, c1, c2, c3, c4, c5, c6], _ => exact ⟨c0, c1, c2, c3, c4, c5, c6, rfl⟩
theorem list5 {α : Type} {l : List α} (h : l.length = 5) : ∃ c0 c1 c2 c3 c4, l = [c0, c1, c2, c3, c4] := by
  match l, h with
  | [c0, c1, c2, c3, c4], _ => exact ⟨c0, c1, c2, c3, c4, rfl⟩
theorem co_b : Try.prog.cellsOf 4 = 1 ∧ Try.prog.cellsOf 2 = 1 ∧ Try.prog.cellsOf 3 = 1 ∧ Try.prog.cellsOf 9 = 1 ∧ Try.prog.cellsOf 34 = 1 ∧ Try.prog.cellsOf 35 = 1 ∧ Try.prog.cellsOf 37 = 5 ∧ Try.prog.cellsOf 39 = 11 := ⟨by kernel_rfl, by kernel_rfl, by kernel_rfl, by kernel_rfl, by kernel_rfl, by kernel_rfl, by kernel_rfl, by kernel_rfl⟩
section
variable {H : Type} {enc : TypeId × Value → H} {w : World} {base : Nat} {sp : Nat → Bool} {held : Bool}
theorem open_const {n : Nat} {cs : List Value} {y : DataW H × List MemPlace} (h : DataW.trod enc Try.prog w base sp held n 37 cs = some y) : ∃ k m d s A l c, cs = [.int .i64 k, .int .i64 m, .int .u64 d, .string s, .slice A l c] := by
  obtain ⟨b1, b2, b3, b4, b5, b6, b7, b8⟩ := co_b
  obtain ⟨xs, n', -, -, hlen, hxl, hf⟩ := DataW.trod_struct Try.underlying37 h
  rw [b7] at hlen
  obtain ⟨c0, c1, c2, c3, c4, rfl⟩ := list5 hlen
  obtain ⟨x0, x1, x2, x3, x4, rfl⟩ := list5 hxl
  have h0 : DataW.trod enc Try.prog w base sp held n' 3 (([c0, c1, c2, c3, c4].drop 0).take (Try.prog.cellsOf 3)) = some x0 := hf 0 _ rfl
  rw [b3] at h0
  have h1 : DataW.trod enc Try.prog w base sp held n' 2 (([c0, c1, c2, c3, c4].drop 1).take (Try.prog.cellsOf 2)) = some x1 := hf 1 _ rfl
  rw [b2] at h1
  have h2 : DataW.trod enc Try.prog w base sp held n' 34 (([c0, c1, c2, c3, c4].drop 2).take (Try.prog.cellsOf 34)) = some x2 := hf 2 _ rfl
  rw [b5] at h2
  have h3 : DataW.trod enc Try.prog w base sp held n' 9 (([c0, c1, c2, c3, c4].drop 3).take (Try.prog.cellsOf 9)) = some x3 := hf 3 _ rfl
  rw [b4] at h3
  have h4 : DataW.trod enc Try.prog w base sp held n' 35 (([c0, c1, c2, c3, c4].drop 4).take (Try.prog.cellsOf 35)) = some x4 := hf 4 _ rfl
  rw [b6] at h4
  obtain ⟨k, e0, -⟩ := DataW.trod_int Try.underlying3 h0
  obtain ⟨m, e1, -⟩ := DataW.trod_int Try.underlying2 h1
  obtain ⟨d, e2, -⟩ := DataW.trod_int Try.underlying34 h2
  obtain ⟨s, e3, -⟩ := DataW.trod_string Try.underlying9 h3
  obtain ⟨A, l, c, e4⟩ := Go.Joins.slice_form Try.underlying35 h4
  simp at e0 e1 e2 e3 e4
  subst e0 e1 e2 e3 e4
  exact ⟨k, m, d, s, A, l, c, rfl⟩
theorem open_field {n : Nat} {cs : List Value} {y : DataW H × List MemPlace} (h : DataW.trod enc Try.prog w base sp held n 39 cs = some y) : ∃ (f : Fd) (x : FdC), cs = (fdV f x).toList ∧ f.nm.length ≤ maxLen := by
  obtain ⟨b1, b2, b3, b4, b5, b6, b7, b8⟩ := co_b
  obtain ⟨xs, n', -, -, hlen, hxl, hf⟩ := DataW.trod_struct Try.underlying39 h
  rw [b8] at hlen
  obtain ⟨c0, c1, c2, c3, c4, c5, c6, c7, c8, c9, c10, rfl⟩ := list11 hlen
  obtain ⟨x0, x1, x2, x3, x4, x5, x6, rfl⟩ := list7 hxl
  have h0 : DataW.trod enc Try.prog w base sp held n' 4 (([c0, c1, c2, c3, c4, c5, c6, c7, c8, c9, c10].drop 0).take (Try.prog.cellsOf 4)) = some x0 := hf 0 _ rfl
  rw [b1] at h0
  have h1 : DataW.trod enc Try.prog w base sp held n' 2 (([c0, c1, c2, c3, c4, c5, c6, c7, c8, c9, c10].drop 1).take (Try.prog.cellsOf 2)) = some x1 := hf 1 _ rfl
  rw [b2] at h1
  have h2 : DataW.trod enc Try.prog w base sp held n' 3 (([c0, c1, c2, c3, c4, c5, c6, c7, c8, c9, c10].drop 2).take (Try.prog.cellsOf 3)) = some x2 := hf 2 _ rfl
  rw [b3] at h2
  have h3 : DataW.trod enc Try.prog w base sp held n' 9 (([c0, c1, c2, c3, c4, c5, c6, c7, c8, c9, c10].drop 3).take (Try.prog.cellsOf 9)) = some x3 := hf 3 _ rfl
  rw [b4] at h3
  have h4 : DataW.trod enc Try.prog w base sp held n' 9 (([c0, c1, c2, c3, c4, c5, c6, c7, c8, c9, c10].drop 4).take (Try.prog.cellsOf 9)) = some x4 := hf 4 _ rfl
  rw [b4] at h4
  have h5 : DataW.trod enc Try.prog w base sp held n' 4 (([c0, c1, c2, c3, c4, c5, c6, c7, c8, c9, c10].drop 5).take (Try.prog.cellsOf 4)) = some x5 := hf 5 _ rfl
  rw [b1] at h5
  have h6 : DataW.trod enc Try.prog w base sp held n' 37 (([c0, c1, c2, c3, c4, c5, c6, c7, c8, c9, c10].drop 6).take (Try.prog.cellsOf 37)) = some x6 := hf 6 _ rfl
  rw [b7] at h6
  obtain ⟨v0, e0, -⟩ := DataW.trod_bool Try.underlying4 h0
  obtain ⟨v1, e1, -⟩ := DataW.trod_int Try.underlying2 h1
  obtain ⟨v2, e2, -⟩ := DataW.trod_int Try.underlying3 h2
  obtain ⟨v3, e3, -⟩ := DataW.trod_string Try.underlying9 h3
  obtain ⟨v4, e4, -, hs4⟩ := DataW.trod_string Try.underlying9 h4
  obtain ⟨v5, e5, -⟩ := DataW.trod_bool Try.underlying4 h5
  obtain ⟨k, m, d, s, A, l, c, e6⟩ := open_const h6
  simp at e0 e1 e2 e3 e4 e5 e6
  obtain ⟨e6, e7, e8, e9, e10⟩ := e6
  subst e0 e1 e2 e3 e4 e5 e6 e7 e8 e9 e10
  refine ⟨⟨v0, v1, v4.data.toList⟩, ⟨v2, v3, v5, k, m, d, s, A, l, c⟩, ?_, by show v4.data.toList.length ≤ maxLen; rw [Array.length_toList]; exact hs4⟩
  simp [fdV, st]
instance : Inhabited (Fd × FdC) := ⟨⟨⟨false, 0, []⟩, ⟨0, ⟨#[]⟩, false, 0, 0, 0, ⟨#[]⟩, none, 0, 0⟩⟩⟩
theorem open_fields {fuel : Nat} {a : Option Addr} {len cap : Nat} {y : DataW H × List MemPlace} (h : DataW.trod enc Try.prog w base sp held fuel 22 [.slice a len cap] = some y) : ∃ fs : List Fd, len = fs.length ∧ RdF w a fs ∧ fs.length ≤ cap ∧ cap ≤ maxLen ∧ ∀ f ∈ fs, f.nm.length ≤ maxLen := by
  rcases open_slice Try.underlying22 h with ⟨hcs, -⟩ | ⟨a', len', cap', m, n, D, Pl, hcs, -, hl, hm, hmm, -, hi⟩
  · simp at hcs
    obtain ⟨rfl, rfl, rfl⟩ := hcs
    exact ⟨[], rfl, fun h => absurd h (by simp), Nat.le_refl _, by simp [maxLen], fun f hf => by cases hf⟩
  · simp at hcs
    obtain ⟨rfl, rfl, rfl⟩ := hcs
    have hlm : len ≤ m := by rw [hmm]; split <;> omega
    rw [co_b.2.2.2.2.2.2.2] at hi
    obtain ⟨F, hF⟩ := choose_lt (α := Fd × FdC) (n := len) (p := fun i q => (∀ j, j < 11 → w.cell? ((a'.add (i * 11)).add j) = (fdV q.1 q.2)[j]?) ∧ q.1.nm.length ≤ maxLen) (fun i him => by
      obtain ⟨cs', hc, ht⟩ := hi i (by omega)
      obtain ⟨-, -, hat⟩ := World.cells?_some hc
      obtain ⟨f, x, rfl, hn⟩ := open_field ht
      exact ⟨(f, x), fun j hj => by rw [hat j hj]; simp, hn⟩)
    refine ⟨(List.range len).map fun i => (F i).1, by simp, fun h0 => ?_, by simpa using hl, hm, fun f hf => ?_⟩
    · have h00 := (hF 0 (by simpa using h0)).1 0 (by decide)
      obtain ⟨b, off, spt⟩ := a'
      have hspot : spt = none := by
        have h1 : w.cell? ((⟨b, off, spt⟩ : Addr)) = some (.bool (F 0).1.has) := by simpa [Addr.add, fdV] using h00
        exact World.cell?_spot h1
      subst hspot
      have hb : b < w.heap.size := by
        have h1 : w.cell? ((⟨b, off, none⟩ : Addr)) = some (.bool (F 0).1.has) := by simpa [Addr.add, fdV] using h00
        exact World.block_lt_of_cell? w _ h1
      refine ⟨b, off, rfl, hb, fun i hi2 => ?_⟩
      have hil : i < len := by simpa using hi2
      refine ⟨(F i).2, fun j hj => ?_⟩
      have := (hF i hil).1 j hj
      rw [add_add, Addr.add_lit, ← Nat.add_assoc] at this
      rw [this]
      simp
    · obtain ⟨i, hi2, rfl⟩ := List.mem_map.1 hf
      exact (hF i (List.mem_range.1 hi2)).2
end
end Go.Proofs.Ytpfecpcgdfbekaa
