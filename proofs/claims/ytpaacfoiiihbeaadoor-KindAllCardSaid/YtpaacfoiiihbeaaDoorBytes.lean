/- The type of slices of bytes, and of bytes. -/
import Derived.Test.YtpaacfoiiihbeaaDoorProg
import Derived.Test.YtpaacfoiiihbeaaDoorBase
namespace Go.Proofs.YtpaacfoiiihbeaaDoor
open Go.RowKit

theorem info_u8 : (Tryd.prog.info? 5).map (fun i => (i.zero, i.size, i.bytes)) = some (some (.int .u8 0), 1, 1) := by kernel_rfl
theorem bT : ElT Tryd.prog 37 5 1 := by
  obtain ⟨i, h1, h2, h3, h4⟩ := info_parts info_u8
  exact ⟨Tryd.underlying37, i, _, h1, h2, h3, h4, rfl⟩
theorem bZ : ∀ i, Tryd.prog.info? 5 = some i → i.zero = some (.int .u8 0) := by
  obtain ⟨i, h1, h2, h3, h4⟩ := info_parts info_u8
  intro j hj
  rw [h1] at hj; cases hj; exact h2

end Go.Proofs.YtpaacfoiiihbeaaDoor
