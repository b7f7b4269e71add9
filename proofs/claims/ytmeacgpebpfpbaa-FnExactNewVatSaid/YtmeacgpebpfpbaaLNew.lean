/- Chapter 10: NewLink, both sides, and its exact law. -/
import Derived.Test.YtmeacgpebpfpbaaCom
import Derived.Test.YtmeacgpebpfpbaaMarkL
import Derived.Test.YtmeacgpebpfpbaaTyG4
import Derived.Deep.RegionHeld3
import Derived.LoopTactic
import Derived.Lib.Hide
import Derived.Deep.QuietTactic
import Derived.BigQuiet
import Derived.Deep.RegionWith
import Derived.Handy
namespace Go.Proofs.Ytmeacgpebpfpbaa
open Go.RowKit
set_option linter.unusedVariables false
set_option linter.unusedSimpArgs false
theorem nil_ownsL (w : World) (S : Nat → Prop) : Owns w (.l []) [.slice none 0 0] S := by rw [Owns]; exact ⟨none, 0, 0, rfl, rfl, Or.inl rfl⟩
theorem Own3.nil (w : World) : Own3 0 0 w [] none 0 0 [] none 0 0 [] none 0 0 := ⟨(fun _ => False), (fun _ => False), (fun _ => False), nil_ownsL w _, nil_ownsL w _, nil_ownsL w _, (fun b h => h.elim), (fun b h => h.elim), (fun b h => h.elim)⟩
theorem implNewLink (w : World) (p : Int) : Calls Try.prog 126 #[.int .i64 p] w (GivesX (.agg #[.int .i64 p, .bool true, .slice none 0 0, .int .i64 0, .slice none 0 0, .int .i64 0, .slice none 0 0]) w) := by
  go_enter Try.func126, Try.ntmps126
  go_wp2_with (
    with_reducible refine bodyPost_ret (v := .agg #[.int .i64 p, .bool true, .slice none 0 0, .int .i64 0, .slice none 0 0, .int .i64 0, .slice none 0 0]) ?hres rfl ?hpost
    case hres => simp [results, Try.results126, go_sem]
    case hpost => exact GivesX.ret (by go_grown))
theorem specNewLink (w : World) (p : Int) : Calls Try.prog 71 #[.int .i64 p] w (GivesX (.agg #[.int .i64 p, .bool true, .slice none 0 0, .int .i64 0, .slice none 0 0, .int .i64 0, .slice none 0 0]) w) := by
  go_enter Try.func71, Try.ntmps71
  go_wp2_with (
    with_reducible refine bodyPost_ret (v := .agg #[.int .i64 p, .bool true, .slice none 0 0, .int .i64 0, .slice none 0 0, .int .i64 0, .slice none 0 0]) ?hres rfl ?hpost
    case hres => simp [results, Try.results71, go_sem]
    case hpost => exact GivesX.ret (by go_grown))
end Go.Proofs.Ytmeacgpebpfpbaa
