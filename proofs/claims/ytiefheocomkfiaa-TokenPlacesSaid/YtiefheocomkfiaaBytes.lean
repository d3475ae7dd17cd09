/- The type of slices of bytes, and of bytes. -/
import Derived.Test.YtiefheocomkfiaaProg
import Derived.Test.YtiefheocomkfiaaBase
namespace Go.Proofs.Ytiefheocomkfiaa
open Go.RowKit

theorem info_u8 : (Try.prog.info? 5).map (fun i => (i.zero, i.size, i.bytes)) = some (some (.int .u8 0), 1, 1) := by kernel_rfl
theorem bT : ElT Try.prog 34 5 1 := by
  obtain ⟨i, h1, h2, h3, h4⟩ := info_parts info_u8
  exact ⟨Try.underlying34, i, _, h1, h2, h3, h4, rfl⟩
theorem bZ : ∀ i, Try.prog.info? 5 = some i → i.zero = some (.int .u8 0) := by
  obtain ⟨i, h1, h2, h3, h4⟩ := info_parts info_u8
  intro j hj
  rw [h1] at hj; cases hj; exact h2

end Go.Proofs.Ytiefheocomkfiaa
