/- The program's IsValue, IntValue, RefValue, IsNumber, addition of meanings: each as its answer. -/
import Derived.Test.YtmeacgpebpfpbaaMean
namespace Go.Proofs.Ytmeacgpebpfpbaa
open Go.RowKit
theorem broVal (w : World) : Calls Try.prog 113 #[.agg #[]] w (GivesV ⟨2, 0⟩ w) := by
  go_enter Try.func113, Try.ntmps113
  go_wp2
  go_returns
  exact GivesV.ret rfl rfl (by go_grown)
end Go.Proofs.Ytmeacgpebpfpbaa
