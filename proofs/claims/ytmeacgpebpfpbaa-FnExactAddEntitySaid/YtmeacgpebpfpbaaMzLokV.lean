/- Chapter 12: where a reference leads. Chapter 12: boxes of Look. -/
import Derived.Test.YtmeacgpebpfpbaaCom
import Derived.Test.YtmeacgpebpfpbaaVal
import Derived.Test.YtmeacgpebpfpbaaTyV0
import Derived.Deep.RegionHeld3
import Derived.Deep.RegionLaw
import Derived.Deep.Cut
import Derived.Deep.CutRange
import Derived.LoopTactic
import Derived.Lib.Hide
import Derived.Deep.QuietTactic
import Derived.BigQuiet
import Derived.Deep.RegionWith
import Derived.Handy
import Derived.Test.YtmeacgpebpfpbaaHold
section
namespace Go.Proofs.Ytmeacgpebpfpbaa
open Go.RowKit
set_option linter.unusedVariables false
set_option linter.unusedSimpArgs false
def keptE (d : Dat) : Bool := fld 0 d == 2 && fld 3 d == 2
def valE : Dat → V
  | .r ds => match ds[(4 : Nat)]? with
    | some (.r [.i a, .i b]) => ⟨a, b⟩
    | _ => ⟨2, 0⟩
  | _ => ⟨2, 0⟩
def stepL (L : List Dat) (x : V) : Option V :=
  if x.kind = 1 ∧ 0 ≤ x.n ∧ x.n < L.length then match L[x.n.toNat]? with
    | some d => if keptE d then some (valE d) else none
    | none => none
  else none
def lookF (L : List Dat) : Nat → V → V
  | 0, _ => ⟨2, 0⟩
  | f + 1, x => match stepL L x with
    | none => x
    | some y => lookF L f y
def lookD (L : List Dat) (x : V) : V := lookF L (L.length + 1) x
end Go.Proofs.Ytmeacgpebpfpbaa
end
section
namespace Go.Proofs.Ytmeacgpebpfpbaa
open Go.RowKit
set_option linter.unusedVariables false
set_option linter.unusedSimpArgs false
def LkB (W : World) (v x : List Value) (w : World) : Prop := Below W.heap.size W w ∧ Box W.heap.size v w ∧ Zx (W.heap.size + 1) x w ∧ Zx (W.heap.size + 1 + 1) [.int .i64 0, .int .i64 0] w ∧ W.heap.size + 1 + 1 + 1 ≤ w.heap.size
theorem LkB.below {W w w' : World} {v x : List Value} (h : LkB W v x w) (hb : Below w.heap.size w w') : LkB W v x w' := ⟨h.1.trans (hb.mono h.1.size), h.2.1.below hb, h.2.2.1.below hb, h.2.2.2.1.below hb, Nat.le_trans h.2.2.2.2 hb.size⟩
theorem LkB.put {W w : World} {v x : List Value} (h : LkB W v x w) (j : Nat) (u : Value) : LkB W v (x.set j u) (w.setCell ⟨W.heap.size + 1, j, none⟩ u) :=
  ⟨h.1.setCell (p := ⟨W.heap.size + 1, j, none⟩) (by show W.heap.size ≤ W.heap.size + 1; omega) u, h.2.1.far (by omega) u, h.2.2.1.put j u, h.2.2.2.1.far (by omega), by rw [World.size_setCell]; exact h.2.2.2.2⟩
theorem LkB.start (W : World) (v x : Array Value) : LkB W v.toList x.toList (((W.alloc (.cells v 29)).alloc (.cells x 31)).alloc (.cells #[.int .i64 0, .int .i64 0] 31)) := by
  have h1 := Zx.new (W.alloc (.cells v 29)) x 31
  have h2 := Zx.new ((W.alloc (.cells v 29)).alloc (.cells x 31)) #[.int .i64 0, .int .i64 0] 31
  simp only [World.size_alloc] at h1 h2
  refine ⟨by go_grown, ((Box.new W v 29).alloc _).alloc _, ?_, h2, by simp⟩
  have h3 := h1.below ((Below.refl _ _).alloc (Nat.le_refl _) (.cells #[.int .i64 0, .int .i64 0] 31))
  exact h3
theorem Box.c5 {b : Nat} {w : World} {v0 v1 v2 v3 v4 : Value} (h : Box b [v0, v1, v2, v3, v4] w) : w.cell? ⟨b, 0, none⟩ = some v0 ∧ w.cell? ⟨b, 1, none⟩ = some v1 ∧ w.cell? ⟨b, 2, none⟩ = some v2 ∧ w.cell? ⟨b, 3, none⟩ = some v3 ∧ w.cell? ⟨b, 4, none⟩ = some v4 := ⟨h.2 0 _ rfl, h.2 1 _ rfl, h.2 2 _ rfl, h.2 3 _ rfl, h.2 4 _ rfl⟩
theorem LkB.fin {W w : World} {v x : List Value} (h : LkB W v x w) (a b : Value) : Zx (W.heap.size + 1 + 1) [a, b] ((w.setCell ⟨W.heap.size + 1 + 1, 0, none⟩ a).setCell ⟨W.heap.size + 1 + 1, 1, none⟩ b) ∧ Below W.heap.size W ((w.setCell ⟨W.heap.size + 1 + 1, 0, none⟩ a).setCell ⟨W.heap.size + 1 + 1, 1, none⟩ b) :=
  ⟨(h.2.2.2.1.put 0 a).put 1 b, (h.1.setCell (p := ⟨W.heap.size + 1 + 1, 0, none⟩) (by show W.heap.size ≤ W.heap.size + 1 + 1; omega) a).setCell (p := ⟨W.heap.size + 1 + 1, 1, none⟩) (by show W.heap.size ≤ W.heap.size + 1 + 1; omega) b⟩
end Go.Proofs.Ytmeacgpebpfpbaa
end
