/- The program's meaningOf and the numbers' methods: each as its answer. -/
import Derived.Test.YtmeacgpebpfpbaaCom
import Derived.Test.YtmeacgpebpfpbaaSpecV
import Derived.Deep.RegionHeld3
namespace Go.Proofs.Ytmeacgpebpfpbaa
open Go.RowKit
theorem cell_lowV {B : Nat} {w w' : World} (h : Below B w w') {b o : Nat} (hb : b < B) {v : Value} (hc : w.cell? ⟨b, o, none⟩ = some v) : w'.cell? ⟨b, o, none⟩ = some v := (h.cell (p := ⟨b, o, none⟩) hb).trans hc
theorem implBroV (w : World) : Calls Try.prog 49 #[] w (GivesV ⟨2, 0⟩ w) := by
  go_enter Try.func49, Try.ntmps49
  go_wp2
  go_returns
  exact GivesV.ret rfl rfl (by go_grown)
end Go.Proofs.Ytmeacgpebpfpbaa
