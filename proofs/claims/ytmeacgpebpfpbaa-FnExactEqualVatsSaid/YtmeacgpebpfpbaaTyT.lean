/- Tags: type, copy, comparison. -/
import Derived.Test.YtmeacgpebpfpbaaTyE0
import Derived.LoopTactic
import Derived.Lib.Hide
import Derived.Deep.QuietTactic
import Derived.BigQuiet
import Derived.Deep.RegionWith
import Derived.Handy
namespace Go.Proofs.Ytmeacgpebpfpbaa
open Go.RowKit
set_option linter.unusedVariables false
set_option linter.unusedSimpArgs false
def tyTag : Ty := .rcd [.int, .int, .int]

theorem tiedTag : tiedB Try.prog tyTag 183 = true := by kernel_rfl

theorem widthTag : tyTag.width = 3 := rfl

theorem invTag {w : World} {d : Dat} {xs : List Value} (hT : Has tyTag d) (h : Lies w d xs) : ∃ (f0 : Int) (f1 : Int) (f2 : Int), d = .r [.i f0, .i f1, .i f2] ∧ xs = [.int .i64 f0, .int .i64 f1, .int .i64 f2] := by
  simp only [tyTag, Has, HasAll] at hT
  obtain ⟨ds, rfl, d0, r0, rfl, ⟨f0, rfl, -, -⟩, d1, r1, rfl, ⟨f1, rfl, -, -⟩, d2, r2, rfl, ⟨f2, rfl, -, -⟩, rfl⟩ := hT
  simp only [Lies, LiesAll] at h
  obtain ⟨e0, q0, rfl, rfl, e1, q1, rfl, rfl, e2, q2, rfl, rfl, rfl⟩ := h
  exact ⟨f0, f1, f2, rfl, rfl⟩

def GivesTag (f0 : Int) (f1 : Int) (f2 : Int) (w : World) (e : Ending) (w' : World) : Prop := e = .returned (.agg #[.int .i64 f0, .int .i64 f1, .int .i64 f2]) ∧ Below w.heap.size w w'

set_option maxHeartbeats 4000000 in
theorem toTag (f0 : Int) (f1 : Int) (f2 : Int) (w : World) : Calls Try.prog 172 #[.agg #[.int .i64 f0, .int .i64 f1, .int .i64 f2]] w (GivesTag f0 f1 f2 w) := by
  go_enter Try.func172, Try.ntmps172
  go_wp2
  refine bodyPost_ret (v := .agg #[.int .i64 f0, .int .i64 f1, .int .i64 f2]) (by simp [results, Try.results172, go_sem]) rfl ?_
  exact ⟨rfl, by go_grown⟩

set_option maxHeartbeats 4000000 in
theorem eqTag (f0 : Int) (f1 : Int) (f2 : Int) (w : World) : Calls Try.prog 165 #[.agg #[.int .i64 f0, .int .i64 f1, .int .i64 f2], .agg #[.int .i64 f0, .int .i64 f1, .int .i64 f2]] w (GivesBool true w) := by
  go_enter Try.func165, Try.ntmps165
  go_wp2
  go_ret
  exact GivesBool.ret (by go_grown)
end Go.Proofs.Ytmeacgpebpfpbaa
