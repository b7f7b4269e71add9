/- Tags: type, copy, comparison. -/
import Derived.Test.YtmeacgpebpfpbaaGreatTyE0
import Derived.LoopTactic
import Derived.Lib.Hide
import Derived.Deep.QuietTactic
import Derived.BigQuiet
import Derived.Deep.RegionWith
import Derived.Handy
namespace Go.Proofs.YtmeacgpebpfpbaaGreat
open Go.RowKit
set_option linter.unusedVariables false
set_option linter.unusedSimpArgs false
def tyTag : Ty := .rcd [.int, .int, .int]

def GivesTag (f0 : Int) (f1 : Int) (f2 : Int) (w : World) (e : Ending) (w' : World) : Prop := e = .returned (.agg #[.int .i64 f0, .int .i64 f1, .int .i64 f2]) ∧ Below w.heap.size w w'

set_option maxHeartbeats 4000000 in
theorem toTag (f0 : Int) (f1 : Int) (f2 : Int) (w : World) : Calls Tryz.prog 29 #[.agg #[.int .i64 f0, .int .i64 f1, .int .i64 f2]] w (GivesTag f0 f1 f2 w) := by
  go_enter Tryz.func29, Tryz.ntmps29
  go_wp2
  refine bodyPost_ret (v := .agg #[.int .i64 f0, .int .i64 f1, .int .i64 f2]) (by simp [results, Tryz.results29, go_sem]) rfl ?_
  exact ⟨rfl, by go_grown⟩

set_option maxHeartbeats 4000000 in
theorem eqTag (f0 : Int) (f1 : Int) (f2 : Int) (w : World) : Calls Tryz.prog 39 #[.agg #[.int .i64 f0, .int .i64 f1, .int .i64 f2], .agg #[.int .i64 f0, .int .i64 f1, .int .i64 f2]] w (GivesBool true w) := by
  go_enter Tryz.func39, Tryz.ntmps39
  go_wp2
  go_ret
  exact GivesBool.ret (by go_grown)
end Go.Proofs.YtmeacgpebpfpbaaGreat
