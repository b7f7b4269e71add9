/- Of no program: boxes that may be stored into. -/
import Derived.Test.YtmeacgpebpfpbaaHold
import Derived.Deep.RegionHeld3
import Derived.Deep.RegionLaw
import Derived.Deep.Cut
import Derived.LoopTactic
import Derived.Lib.Hide
import Derived.Deep.QuietTactic
import Derived.BigQuiet
import Derived.Deep.RegionWith
import Derived.Handy
namespace Go.Proofs.Ytmeacgpebpfpbaa
open Go.RowKit
set_option linter.unusedVariables false
set_option linter.unusedSimpArgs false
def HeldZ (W : World) (l : List (Nat × List Value)) (w : World) : Prop := Below W.heap.size W w ∧ ∀ p ∈ l, W.heap.size ≤ p.1 ∧ Zx p.1 p.2 w
theorem HeldZ.start (W : World) : HeldZ W [] W := ⟨Below.refl _ _, fun p h => by cases h⟩
theorem HeldZ.below {W w w' : World} {l : List (Nat × List Value)} (h : HeldZ W l w) (hb : Below w.heap.size w w') : HeldZ W l w' := ⟨h.1.trans (hb.mono h.1.size), fun p hp => ⟨(h.2 p hp).1, (h.2 p hp).2.below hb⟩⟩
theorem HeldZ.touch {W w w' : World} {l : List (Nat × List Value)} {S : Nat → Prop} (h : HeldZ W l w) (ht : Touch S w w') (hlo : ∀ b, S b → W.heap.size ≤ b) (hS : ∀ p ∈ l, ¬ S p.1) : HeldZ W l w' :=
  ⟨h.1.trans (ht.below hlo h.1.size), fun p hp => ⟨(h.2 p hp).1, (h.2 p hp).2.touch ht (hS p hp)⟩⟩
theorem HeldZ.new {W w : World} {l : List (Nat × List Value)} (h : HeldZ W l w) (cs : Array Value) (T : TypeId) : HeldZ W ((w.heap.size, cs.toList) :: l) (w.alloc (.cells cs T)) :=
  ⟨h.1.alloc h.1.size _, fun p hp => by
    rcases List.mem_cons.1 hp with rfl | hp
    · exact ⟨h.1.size, Zx.new w cs T⟩
    · exact ⟨(h.2 p hp).1, (h.2 p hp).2.below ((Below.refl _ _).alloc (Nat.le_refl _) _)⟩⟩
theorem HeldZ.box {W w : World} {l : List (Nat × List Value)} {g : Nat} {cs : List Value} (h : HeldZ W l w) (hg : W.heap.size ≤ g) (hz : Zx g cs w) : HeldZ W ((g, cs) :: l) w :=
  ⟨h.1, fun p hp => by
    rcases List.mem_cons.1 hp with rfl | hp
    · exact ⟨hg, hz⟩
    · exact h.2 p hp⟩
theorem HeldZ.put {W w : World} {l : List (Nat × List Value)} {g : Nat} {cs : List Value} (h : HeldZ W ((g, cs) :: l) w) (hd : ∀ p ∈ l, g ≠ p.1) (j : Nat) (v : Value) : HeldZ W ((g, cs.set j v) :: l) (w.setCell ⟨g, j, none⟩ v) :=
  ⟨h.1.setCell (p := ⟨g, j, none⟩) (h.2 (g, cs) (by simp)).1 v, fun p hp => by
    rcases List.mem_cons.1 hp with rfl | hp
    · exact ⟨(h.2 (g, cs) (by simp)).1, (h.2 (g, cs) (by simp)).2.put j v⟩
    · exact ⟨(h.2 p (by simp [hp])).1, (h.2 p (by simp [hp])).2.far (hd p hp)⟩⟩
theorem HeldZ.zx {W w : World} {l : List (Nat × List Value)} {g : Nat} {cs : List Value} (h : HeldZ W l w) (hm : (g, cs) ∈ l) : Zx g cs w := (h.2 _ hm).2
theorem HeldZ.swap {W w : World} {l l' : List (Nat × List Value)} (h : HeldZ W l w) (hl : ∀ p ∈ l', p ∈ l) : HeldZ W l' w := ⟨h.1, fun p hp => h.2 p (hl p hp)⟩
end Go.Proofs.Ytmeacgpebpfpbaa
