/- Chapter 10: PutQuestion, both sides. -/
import Derived.Test.YtmeacgpebpfpbaaCom
import Derived.Test.YtmeacgpebpfpbaaMzLnkC
import Derived.Deep.RegionHeld3
import Derived.Deep.RegionLaw
import Derived.Deep.Cut
import Derived.LoopTactic
import Derived.Lib.Hide
import Derived.Deep.QuietTactic
import Derived.BigQuiet
import Derived.Deep.RegionWith
import Derived.Handy
namespace Go.Proofs.Ytmeacgpebpfpbaa
open Go.RowKit
set_option linter.unusedVariables false
set_option linter.unusedSimpArgs false
theorem Zx.put7 {g : Nat} {w : World} {v0 v1 v2 v3 v4 v5 v6 u0 u1 u2 u3 u4 u5 u6 : Value} (h : Zx g [u0, u1, u2, u3, u4, u5, u6] w) : Zx g [v0, v1, v2, v3, v4, v5, v6] (((((((w.setCell ⟨g, 0, none⟩ v0).setCell ⟨g, 1, none⟩ v1).setCell ⟨g, 2, none⟩ v2).setCell ⟨g, 3, none⟩ v3).setCell ⟨g, 4, none⟩ v4).setCell ⟨g, 5, none⟩ v5).setCell ⟨g, 6, none⟩ v6) := (((((((h.put 0 v0).put 1 v1).put 2 v2).put 3 v3).put 4 v4).put 5 v5).put 6 v6)
theorem Touch.put7 {g : Nat} {S : Nat → Prop} {a w : World} {v0 v1 v2 v3 v4 v5 v6 : Value} (h : Touch S a w) (hg : S g) : Touch S a (((((((w.setCell ⟨g, 0, none⟩ v0).setCell ⟨g, 1, none⟩ v1).setCell ⟨g, 2, none⟩ v2).setCell ⟨g, 3, none⟩ v3).setCell ⟨g, 4, none⟩ v4).setCell ⟨g, 5, none⟩ v5).setCell ⟨g, 6, none⟩ v6) := (((((((h.setCell (p := ⟨g, 0, none⟩) hg v0).setCell (p := ⟨g, 1, none⟩) hg v1).setCell (p := ⟨g, 2, none⟩) hg v2).setCell (p := ⟨g, 3, none⟩) hg v3).setCell (p := ⟨g, 4, none⟩) hg v4).setCell (p := ⟨g, 5, none⟩) hg v5).setCell (p := ⟨g, 6, none⟩) hg v6)
theorem Src.litK {w : World} {E : TypeId} {C : Array Value} {d : Dat} {k : Nat} (hI : Ic k d) (hC : ic d = C.toList) : Src k (w.alloc (.cells C E)) (some ⟨w.heap.size, 0, none⟩) 1 [d] (fun _ => False) :=
  Src.lit (B := fun _ => False) hC.symm (Lies.owns hI.flat ((hI.lies w _).2 rfl)) hI.width (fun b h => h.elim)
theorem Apart.grown {A B C : Option Addr} {m : Nat} (h : Apart A B) (hA : ∀ a, C = some a → B = some a ∨ m ≤ a.block) (hl : ∀ a, A = some a → a.block < m) : Apart A C := fun a a' e e' x => by
  rcases hA a' e' with h1 | h1
  · exact h a a' e h1 x
  · have := hl a e
    omega
theorem Grow.apart_touch {E : TypeId} {k lo : Nat} {w w' : World} {A A' : Option Addr} {n c : Nat} {L : List Dat} (h : Grow E k lo w A n c L (fun _ => False)) (hp : Apart A A') (ht : Touch (fun b => ∃ a, A' = some a ∧ b = a.block) w w') : Grow E k lo w' A n c L (fun _ => False) :=
  h.touch ht (fun a e ⟨a', e', hx⟩ => hp a a' e e' hx) (fun _ h => h.elim)
theorem Grow.elem1 {E : TypeId} {k lo : Nat} {w : World} {g : Nat} {n c i : Nat} {L : List Dat} {d : Dat} (h : Grow E k lo w (some ⟨g, 0, none⟩) n c L (fun _ => False)) (hI : ∀ x ∈ L, Ic k x) (hd : L[i]? = some d) :
    (∀ (j : Nat) (v : Value), (ic d)[j]? = some v → w.cell? ⟨g, i * k + j, none⟩ = some v) ∧ (∀ o, w.frozen? ⟨g, o, none⟩ = false) ∧ g < w.heap.size := by
  obtain ⟨g', e, h1, h2, h3, h4, h5⟩ := h.elem hI hd
  obtain rfl : g = g' := by injection e with e; injection e
  exact ⟨h4, h5, h2⟩
def GivesLI (f0 : Int) (f1 : Bool) (L2 : List Dat) (n2 : Nat) (f3 : Int) (L4 : List Dat) (n4 : Nat) (f5 : Int) (L6 : List Dat) (n6 : Nat) (v : Int) (w : World) (e : Ending) (w' : World) : Prop :=
  ∃ (B2 : Option Addr) (k2 : Nat) (B4 : Option Addr) (k4 : Nat) (B6 : Option Addr) (k6 : Nat), e = .returned (.tuple #[.agg #[.int .i64 f0, .bool f1, .slice B2 n2 k2, .int .i64 f3, .slice B4 n4 k4, .int .i64 f5, .slice B6 n6 k6], .int .i64 v]) ∧ Link3 w.heap.size w' L2 B2 n2 k2 L4 B4 n4 k4 L6 B6 n6 k6 ∧ Below w.heap.size w w'
theorem Link3.fin {W w w' : World} {g lo : Nat} {L2 : List Dat} {B2 : Option Addr} {n2 k2 : Nat} {L4 : List Dat} {B4 : Option Addr} {n4 k4 : Nat} {L6 : List Dat} {B6 : Option Addr} {n6 k6 : Nat} (h2 : Grow 174 3 lo w B2 n2 k2 L2 (fun _ => False)) (h4 : Grow 177 2 lo w B4 n4 k4 L4 (fun _ => False)) (h6 : Grow 177 2 lo w B6 n6 k6 L6 (fun _ => False)) (p24 : Apart B2 B4) (p26 : Apart B2 B6) (p46 : Apart B4 B6)
    (hT : Touch (fun b => b = g) w w') (hB : Below W.heap.size W w) (hg : W.heap.size ≤ g) (hlo : g < lo) : Link3 W.heap.size w' L2 B2 n2 k2 L4 B4 n4 k4 L6 B6 n6 k6 ∧ Below W.heap.size W w' := by
  have up : ∀ {E : TypeId} {k : Nat} {A : Option Addr} {n c : Nat} {L : List Dat}, Grow E k lo w A n c L (fun _ => False) → Grow E k W.heap.size w' A n c L (fun _ => False) := fun h =>
    (h.touch hT (fun a e hS => by have h1 := (h.blkF a e).1; omega) (fun _ h => h.elim)).moreF (fun a e => by have h1 := (h.blkF a e).1; omega)
  exact ⟨⟨up h2, up h4, up h6, p24, p26, p46⟩, hB.trans (hT.below (fun b h => by rw [h]; exact hg) hB.size)⟩
end Go.Proofs.Ytmeacgpebpfpbaa
