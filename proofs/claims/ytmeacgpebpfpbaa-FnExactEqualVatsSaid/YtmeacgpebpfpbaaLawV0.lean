/- Of no program: a box of five cells. -/
import Derived.Test.YtmeacgpebpfpbaaLokB
import Derived.LoopTactic
import Derived.Lib.Hide
import Derived.Deep.QuietTactic
import Derived.BigQuiet
import Derived.Deep.RegionWith
import Derived.Handy
namespace Go.Proofs.Ytmeacgpebpfpbaa
open Go.RowKit
set_option linter.unusedVariables false
set_option linter.unusedSimpArgs false
theorem St.c5 {W w : World} {l : List (Nat × List Value)} {m : List (Dat × List Value)} {b : Nat} {v0 v1 v2 v3 v4 : Value} (h : St W l m w) (hm : (b, [v0, v1, v2, v3, v4]) ∈ l) : w.cell? ⟨b, 0, none⟩ = some v0 ∧ w.cell? ⟨b, 1, none⟩ = some v1 ∧ w.cell? ⟨b, 2, none⟩ = some v2 ∧ w.cell? ⟨b, 3, none⟩ = some v3 ∧ w.cell? ⟨b, 4, none⟩ = some v4 := Box.c5 (h.1.2 _ hm)
end Go.Proofs.Ytmeacgpebpfpbaa
