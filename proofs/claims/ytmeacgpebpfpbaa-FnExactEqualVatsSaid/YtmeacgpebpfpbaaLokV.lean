/- Chapter 12: where a reference leads. -/
import Derived.Test.YtmeacgpebpfpbaaCom
import Derived.Test.YtmeacgpebpfpbaaVal
import Derived.Test.YtmeacgpebpfpbaaTyV0
import Derived.Deep.RegionHeld3
import Derived.Deep.RegionLaw
import Derived.Deep.Cut
import Derived.Deep.CutRange
import Derived.LoopTactic
import Derived.Lib.Hide
import Derived.Deep.QuietTactic
import Derived.BigQuiet
import Derived.Deep.RegionWith
import Derived.Handy
namespace Go.Proofs.Ytmeacgpebpfpbaa
open Go.RowKit
set_option linter.unusedVariables false
set_option linter.unusedSimpArgs false
/-- A kept promise; what it is kept with. -/
def keptE (d : Dat) : Bool := fld 0 d == 2 && fld 3 d == 2
def valE : Dat → V
  | .r ds => match ds[(4 : Nat)]? with
    | some (.r [.i a, .i b]) => ⟨a, b⟩
    | _ => ⟨2, 0⟩
  | _ => ⟨2, 0⟩
/-- One kept promise further. -/
def stepL (L : List Dat) (x : V) : Option V :=
  if x.kind = 1 ∧ 0 ≤ x.n ∧ x.n < L.length then match L[x.n.toNat]? with
    | some d => if keptE d then some (valE d) else none
    | none => none
  else none
def lookF (L : List Dat) : Nat → V → V
  | 0, _ => ⟨2, 0⟩
  | f + 1, x => match stepL L x with
    | none => x
    | some y => lookF L f y
def lookD (L : List Dat) (x : V) : V := lookF L (L.length + 1) x
theorem lookF_none {L : List Dat} {x : V} (h : stepL L x = none) (f : Nat) : lookF L (f + 1) x = x := by rw [lookF, h]
theorem lookF_some {L : List Dat} {x y : V} (h : stepL L x = some y) (f : Nat) : lookF L (f + 1) x = lookF L f y := by rw [lookF, h]
theorem look_end (L : List Dat) : ∀ (f : Nat) (x : V), stepL L (lookF L f x) = none
  | 0, _ => by rw [lookF, stepL, if_neg (by simp)]
  | f + 1, x => by
    cases h : stepL L x with
    | none => rw [lookF_none h]; exact h
    | some y => rw [lookF_some h]; exact look_end L f y
/-- Looking twice is looking once. -/
theorem look_twice (L : List Dat) (x : V) : lookD L (lookD L x) = lookD L x := lookF_none (look_end L _ x) _
theorem stepL_out {L : List Dat} {k n : Int} {m : Nat} (hm : L.length = m) (h : ¬ (k = 1 ∧ 0 ≤ n ∧ n < m)) : stepL L ⟨k, n⟩ = none := by rw [stepL, if_neg (by rw [hm]; exact h)]
theorem stepL_in {L : List Dat} {i m : Nat} {d : Dat} (hm : L.length = m) (hi : i < m) (hd : L[i]? = some d) : stepL L ⟨1, (i : Int)⟩ = if keptE d then some (valE d) else none := by
  rw [stepL, if_pos ⟨rfl, by show (0 : Int) ≤ (i : Int); omega, by show (i : Int) < _; omega⟩]
  show (match L[(i : Int).toNat]? with | some d => _ | none => none) = _
  rw [Int.toNat_natCast, hd]
end Go.Proofs.Ytmeacgpebpfpbaa
