/- Of no program: what a law's walk holds over nested data: boxes, and data that read. -/
import Derived.Test.YtaepconmjmcbdaaBox
import Derived.Test.YtaepconmjmcbdaaSzS
namespace Go.Proofs.Ytaepconmjmcbdaa
open Go.RowKit
/-- What stood at the beginning stands, so do these boxes, and these cells read as these data. -/
def St (W : World) (l : List (Nat × List Value)) (m : List (Dat × List Value)) (w : World) : Prop := Held W l w ∧ ∀ p ∈ m, Lies w p.1 p.2
section
variable {W w w' : World} {l : List (Nat × List Value)} {m : List (Dat × List Value)}
theorem St.start (W : World) : St W [] [] W := ⟨Held.start W, fun p h => by cases h⟩
theorem St.below (h : St W l m w) (hb : Below w.heap.size w w') : St W l m w' := ⟨h.1.below hb, fun p hp => (h.2 p hp).below hb⟩
theorem St.alloc (h : St W l m w) (o : Obj) : St W l m (w.alloc o) := h.below ((Below.refl _ _).alloc (Nat.le_refl _) o)
theorem St.drew (h : St W l m w) : St W l m w.drew := h.below (Below.refl _ _).drew
theorem St.push (h : St W l m w) (cs : Array Value) (T : TypeId) : St W ((w.heap.size, cs.toList) :: l) m (w.alloc (.cells cs T)) := ⟨h.1.push cs T, (h.alloc _).2⟩
theorem St.lie (h : St W l m w) {d : Dat} {cs : List Value} (hl : Lies w d cs) : St W l ((d, cs) :: m) w := by
  refine ⟨h.1, fun p hp => ?_⟩
  rcases List.mem_cons.1 hp with rfl | hp
  · exact hl
  · exact h.2 p hp
theorem St.lies (h : St W l m w) {d : Dat} {cs : List Value} (hm : (d, cs) ∈ m) : Lies w d cs := h.2 _ hm
theorem St.two (h : St W l m w) {g : Nat} {x y : Value} (hm : (g, [x, y]) ∈ l) : w.cell? ⟨g, 0, none⟩ = some x ∧ w.cell? ⟨g, 1, none⟩ = some y := ⟨h.1.at_ hm (i := 0) rfl, h.1.at_ hm (i := 1) rfl⟩
theorem St.low (h : St W l m w) : Below W.heap.size W w := h.1.1
theorem St.less {l' : List (Nat × List Value)} {m' : List (Dat × List Value)} (h : St W l m w) (hl : ∀ p ∈ l', p ∈ l) (hm : ∀ p ∈ m', p ∈ m) : St W l' m' w := ⟨h.1.less hl, fun p hp => h.2 p (hm p hp)⟩
end
theorem leftD_cases (d : Dat) (left : Int) : leftD d left = -1 ∨ ∃ r : Int, leftD d left = r ∧ 0 ≤ r ∧ r ≤ left ∧ (d.bulk : Int) ≤ left := by
  unfold leftD
  by_cases h0 : left - d.bulk < 0
  · exact Or.inl (if_pos h0)
  · exact Or.inr ⟨left - d.bulk, if_neg h0, by omega, by omega, by omega⟩
end Go.Proofs.Ytaepconmjmcbdaa
