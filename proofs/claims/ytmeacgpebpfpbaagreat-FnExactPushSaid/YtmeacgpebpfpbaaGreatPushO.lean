/- Of no program: a message on its way, owned. -/
import Derived.Test.YtmeacgpebpfpbaaGreatMzHold
import Derived.Test.YtmeacgpebpfpbaaGreatMzCopM
import Derived.Test.YtmeacgpebpfpbaaGreatMzVatV
import Derived.Deep.RegionHeld3
import Derived.Deep.RegionLaw
import Derived.Deep.Cut
import Derived.LoopTactic
import Derived.Lib.Hide
import Derived.Deep.QuietTactic
import Derived.BigQuiet
import Derived.Deep.RegionWith
import Derived.Handy
namespace Go.Proofs.YtmeacgpebpfpbaaGreat
open Go.RowKit
set_option linter.unusedVariables false
set_option linter.unusedSimpArgs false
theorem Owns.out_ {w : World} {P : Nat → Prop} {x : Int} {ds : List Dat} {cs : List Value} (h : Owns w (.r ds) cs P) : Owns w (.r [.i x, .r ds]) (.int .i64 x :: cs) P := by
  rw [Owns]
  exact OwnsAll.consF (c1 := [.int .i64 x]) (d := .i x) rfl (OwnsAll.one_ h)
def pushL (b : Bool) (L : List Dat) (d : Dat) : List Dat := if b then L ++ [d] else L
def pushN (b : Bool) (n : Nat) : Nat := if b then n + 1 else n
end Go.Proofs.YtmeacgpebpfpbaaGreat
