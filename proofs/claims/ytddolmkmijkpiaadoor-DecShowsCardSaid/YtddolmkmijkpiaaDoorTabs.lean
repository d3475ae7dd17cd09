/- The library's table of tens, out of what the rows list. -/
import Derived.Test.YtddolmkmijkpiaaDoorRows
import Derived.Test.YtddolmkmijkpiaaDoorDecV
import Derived.Lib.LaidTab
import Derived.Stop.LaidErr
import Derived.LaidByTextLater
namespace Go.Proofs.YtddolmkmijkpiaaDoor
open Go.RowKit

theorem tab_of_laid {W : World} (h : laidMetH Tryd.prog Rows.decBackRow.laid W) : Tab W := by
  rw [MakeChecks.laidMetH_plain _ _ _ (by kernel_rfl)] at h
  have h3 : laidMet Tryd.prog (("internal/strconv.uint64pow10", Lib.tabData .u64 Lib.pow10Tab) :: Rows.decBackRow.laid.drop 3) W := h.tail.tail
  exact Lib.tabIs_of_head (g := 0) (t := 120) (e := 23) (n := 20) (by kernel_rfl) (by kernel_rfl) Tryd.underlying120 Tryd.underlying23 (by kernel_rfl) (by kernel_rfl) h3
end Go.Proofs.YtddolmkmijkpiaaDoor
