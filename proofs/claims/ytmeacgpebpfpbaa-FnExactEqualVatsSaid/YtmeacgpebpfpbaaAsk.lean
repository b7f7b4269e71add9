/- Type assertions to the types behind the interface. -/
import Derived.Test.YtmeacgpebpfpbaaImplV
import Derived.Stop.Asserts
namespace Go.Proofs.Ytmeacgpebpfpbaa
open Go.RowKit
theorem zero_bro : (Try.prog.info? 149).map (·.zero) = some (some (.agg #[])) := by kernel_rfl
end Go.Proofs.Ytmeacgpebpfpbaa
