/- Tags: type, copy, comparison. -/
import Derived.Test.YtmeacgpebpfpbaaTyE0
import Derived.LoopTactic
import Derived.Lib.Hide
import Derived.Deep.QuietTactic
import Derived.BigQuiet
import Derived.Deep.RegionWith
import Derived.Handy
namespace Go.Proofs.Ytmeacgpebpfpbaa
open Go.RowKit
set_option linter.unusedVariables false
set_option linter.unusedSimpArgs false
def tyTag : Ty := .rcd [.int, .int, .int]

def GivesTag (f0 : Int) (f1 : Int) (f2 : Int) (w : World) (e : Ending) (w' : World) : Prop := e = .returned (.agg #[.int .i64 f0, .int .i64 f1, .int .i64 f2]) ∧ Below w.heap.size w w'

set_option maxHeartbeats 4000000 in
theorem toTag (f0 : Int) (f1 : Int) (f2 : Int) (w : World) : Calls Try.prog 172 #[.agg #[.int .i64 f0, .int .i64 f1, .int .i64 f2]] w (GivesTag f0 f1 f2 w) := by
  go_enter Try.func172, Try.ntmps172
  go_wp2
  refine bodyPost_ret (v := .agg #[.int .i64 f0, .int .i64 f1, .int .i64 f2]) (by simp [results, Try.results172, go_sem]) rfl ?_
  exact ⟨rfl, by go_grown⟩

set_option maxHeartbeats 4000000 in
theorem eqTag (f0 : Int) (f1 : Int) (f2 : Int) (w : World) : Calls Try.prog 165 #[.agg #[.int .i64 f0, .int .i64 f1, .int .i64 f2], .agg #[.int .i64 f0, .int .i64 f1, .int .i64 f2]] w (GivesBool true w) := by
  go_enter Try.func165, Try.ntmps165
  go_wp2
  go_ret
  exact GivesBool.ret (by go_grown)
end Go.Proofs.Ytmeacgpebpfpbaa
