/- Of no program: boxes (blocks of cells that a call has made), held over what makes memory; a new box that is stored into. -/
import Derived.Test.YthgcodbcafpmhaaDoorKit
import Derived.Laws.World
import Derived.Deep.RegionHeld
namespace Go.Proofs.YthgcodbcafpmhaaDoor
open Go.RowKit
/-- The block b holds these cells. -/
def Box (b : Nat) (cs : List Value) (w : World) : Prop := b < w.heap.size ∧ ∀ i v, cs[i]? = some v → w.cell? ⟨b, i, none⟩ = some v
theorem Box.new (w : World) (cs : Array Value) (T : TypeId) : Box w.heap.size cs.toList (w.alloc (.cells cs T)) := by
  refine ⟨by simp, fun i v h => ?_⟩
  have e := cell_of_row (w.alloc (.cells cs T)) w.heap.size i cs T (0, 0) (by show (w.heap.push _)[w.heap.size]? = _; simp)
  rw [e]
  simpa using h
theorem Box.below {b : Nat} {cs : List Value} {w w' : World} (h : Box b cs w) (hb : Below w.heap.size w w') : Box b cs w' :=
  ⟨Nat.lt_of_lt_of_le h.1 hb.size, fun i v hv => (hb.cell (p := ⟨b, i, none⟩) h.1).trans (h.2 i v hv)⟩
theorem Box.alloc {b : Nat} {cs : List Value} {w : World} (h : Box b cs w) (o : Obj) : Box b cs (w.alloc o) := h.below ((Below.refl _ _).alloc (Nat.le_refl _) o)
theorem Box.drew {b : Nat} {cs : List Value} {w : World} (h : Box b cs w) : Box b cs w.drew := h
theorem Box.far {b g i : Nat} {cs : List Value} {w : World} (h : Box b cs w) (hg : g ≠ b) (u : Value) : Box b cs (w.setCell ⟨g, i, none⟩ u) :=
  ⟨by simpa [World.setCell] using h.1, fun j v hv => (World.cell?_setCell_far w ⟨g, i, none⟩ ⟨b, j, none⟩ u hg).trans (h.2 j v hv)⟩
/-- What stood at the beginning stands, and so do these boxes. -/
def Held (W : World) (l : List (Nat × List Value)) (w : World) : Prop := Below W.heap.size W w ∧ ∀ p ∈ l, Box p.1 p.2 w
section
variable {W w w' : World} {l : List (Nat × List Value)}
theorem Held.start (W : World) : Held W [] W := ⟨Below.refl _ _, fun p h => by cases h⟩
theorem Held.below (h : Held W l w) (hb : Below w.heap.size w w') : Held W l w' := ⟨h.1.trans (hb.mono h.1.size), fun p hp => (h.2 p hp).below hb⟩
theorem Held.alloc (h : Held W l w) (o : Obj) : Held W l (w.alloc o) := h.below ((Below.refl _ _).alloc (Nat.le_refl _) o)
theorem Held.drew (h : Held W l w) : Held W l w.drew := ⟨h.1.drew, fun p hp => (h.2 p hp).drew⟩
theorem Held.push (h : Held W l w) (cs : Array Value) (T : TypeId) : Held W ((w.heap.size, cs.toList) :: l) (w.alloc (.cells cs T)) := by
  refine ⟨(h.alloc _).1, fun p hp => ?_⟩
  rcases List.mem_cons.1 hp with rfl | hp
  · exact Box.new w cs T
  · exact (h.alloc _).2 p hp
theorem Held.with {g : Nat} {cs : List Value} (h : Held W l w) (hb : Box g cs w) : Held W ((g, cs) :: l) w := by
  refine ⟨h.1, fun p hp => ?_⟩
  rcases List.mem_cons.1 hp with rfl | hp
  · exact hb
  · exact h.2 p hp
theorem Held.less {l' : List (Nat × List Value)} (h : Held W l w) (hl : ∀ p ∈ l', p ∈ l) : Held W l' w := ⟨h.1, fun p hp => h.2 p (hl p hp)⟩
theorem Held.far {g i : Nat} (h : Held W l w) (hg : W.heap.size ≤ g) (hl : ∀ p ∈ l, g ≠ p.1) (u : Value) : Held W l (w.setCell ⟨g, i, none⟩ u) :=
  ⟨h.1.setCell hg u, fun p hp => (h.2 p hp).far (hl p hp) u⟩
theorem Held.box {g : Nat} {cs : List Value} (h : Held W l w) (hg : (g, cs) ∈ l) : Box g cs w := h.2 _ hg
theorem Held.at_ {g i : Nat} {cs : List Value} {v : Value} (h : Held W l w) (hg : (g, cs) ∈ l) (hv : cs[i]? = some v) : w.cell? ⟨g, i, none⟩ = some v := (h.2 _ hg).2 i v hv
theorem Held.low (h : Held W l w) : W.heap.size ≤ w.heap.size := h.1.size
end
/-- A new box: from B on, its cells, none frozen. -/
def Zb (B g : Nat) (cs : List Value) (w : World) : Prop := B ≤ g ∧ Box g cs w ∧ ∀ j, w.frozen? ⟨g, j, none⟩ = false
section
variable {B g : Nat} {cs : List Value} {w w' : World}
theorem Zb.new (w : World) (cs : Array Value) (T : TypeId) (hB : B ≤ w.heap.size) : Zb B w.heap.size cs.toList (w.alloc (.cells cs T)) := by
  refine ⟨hB, Box.new w cs T, fun j => ?_⟩
  simp [go_sem]
theorem Zb.below (h : Zb B g cs w) (hb : Below w.heap.size w w') : Zb B g cs w' := ⟨h.1, h.2.1.below hb, fun j => (hb.frozen (p := ⟨g, j, none⟩) h.2.1.1).trans (h.2.2 j)⟩
theorem Zb.drew (h : Zb B g cs w) : Zb B g cs w.drew := h
theorem Zb.mk_ {cs : Array Value} {T : TypeId} (hb : Below (w.alloc (.cells cs T)).heap.size (w.alloc (.cells cs T)) w') (hB : B ≤ w.heap.size) : Zb B w.heap.size cs.toList w' := (Zb.new w cs T hB).below hb
theorem Zb.mkd {cs : Array Value} {T : TypeId} (hb : Below (w.alloc (.cells cs T)).drew.heap.size (w.alloc (.cells cs T)).drew w') (hB : B ≤ w.heap.size) : Zb B w.heap.size cs.toList w' := (Zb.new w cs T hB).drew.below hb
end
theorem Box.cells2 {b : Nat} {x y : Value} {l : List Value} {w : World} (h : Box b (x :: y :: l) w) : w.cell? ⟨b, 0, none⟩ = some x ∧ w.cell? ⟨b, 1, none⟩ = some y := ⟨h.2 0 _ rfl, h.2 1 _ rfl⟩
/-- Two cells of one block are stored. -/
theorem Box.two {w : World} {g : Nat} {x y : Value} {l : List Value} (h : Box g (x :: y :: l) w) (a b : Value) : Box g [a, b] ((w.setCell ⟨g, 0, none⟩ a).setCell ⟨g, 1, none⟩ b) := by
  have n1 : (⟨g, 1, none⟩ : Addr) ≠ ⟨g, 0, none⟩ := by intro e; injection e; omega
  have h0 := h.2 0 x rfl
  have h1 := h.2 1 y rfl
  refine ⟨by simpa [World.setCell] using h.1, fun i v hv => ?_⟩
  match i, hv with
  | 0, hv =>
    obtain rfl : a = v := by simpa using hv
    rw [World.cell?_setCell_other (h := n1)]
    exact World.cell?_setCell_same _ _ _ h0
  | 1, hv =>
    obtain rfl : b = v := by simpa using hv
    exact World.cell?_setCell_same _ _ _ (u := y) (by rw [World.cell?_setCell_other (h := Ne.symm n1)]; exact h1)
theorem Zb.two {B g : Nat} {w : World} {x y : Value} (h : Zb B g [x, y] w) : w.cell? ⟨g, 0, none⟩ = some x ∧ w.cell? ⟨g, 1, none⟩ = some y ∧ w.frozen? ⟨g, 0, none⟩ = false ∧ w.frozen? ⟨g, 1, none⟩ = false :=
  ⟨h.2.1.2 0 x rfl, h.2.1.2 1 y rfl, h.2.2 0, h.2.2 1⟩
/-- What was held when the heap had N blocks is held in w; new boxes lie from N on. -/
def Kept (W : World) (l : List (Nat × List Value)) (N : Nat) (w : World) : Prop := Held W l w ∧ N ≤ w.heap.size ∧ (∀ p ∈ l, p.1 < N) ∧ W.heap.size ≤ N
section
variable {W w w' : World} {l : List (Nat × List Value)} {N : Nat}
theorem Kept.start (h : Held W l w) (hN : w.heap.size = N) : Kept W l N w := by subst hN; exact ⟨h, Nat.le_refl _, fun p hp => (h.2 p hp).1, h.1.size⟩
theorem Kept.below (h : Kept W l N w) (hb : Below w.heap.size w w') : Kept W l N w' := ⟨h.1.below hb, Nat.le_trans h.2.1 hb.size, h.2.2⟩
theorem Kept.alloc (h : Kept W l N w) (o : Obj) : Kept W l N (w.alloc o) := h.below ((Below.refl _ _).alloc (Nat.le_refl _) o)
theorem Kept.drew (h : Kept W l N w) : Kept W l N w.drew := ⟨h.1.drew, h.2⟩
theorem Kept.and (hb : Below w.heap.size w w') (h : Kept W l N w) : Kept W l N w ∧ Kept W l N w' := ⟨h, h.below hb⟩
theorem Kept.low (h : Kept W l N w) : N ≤ w.heap.size := h.2.1
theorem Kept.put {g : Nat} {x y : Value} (h : Kept W l N w) (z : Zb N g [x, y] w) (a b : Value) : Held W ((g, [a, b]) :: l) ((w.setCell ⟨g, 0, none⟩ a).setCell ⟨g, 1, none⟩ b) :=
  ((h.1.far (Nat.le_trans h.2.2.2 z.1) (fun p hp => by have := h.2.2.1 p hp; have := z.1; omega) a).far (Nat.le_trans h.2.2.2 z.1) (fun p hp => by have := h.2.2.1 p hp; have := z.1; omega) b).with (z.2.1.two a b)
theorem Kept.put' {g : Nat} {x y : Value} (h : Kept W l N w) (z : Zb N g [x, y] w) (a b : Value) : Held W l ((w.setCell ⟨g, 0, none⟩ a).setCell ⟨g, 1, none⟩ b) := (h.put z a b).less fun _ hp => List.mem_cons_of_mem _ hp
theorem Kept.push (h : Kept W l N w) (cs : Array Value) (T : TypeId) : Held W ((w.heap.size, cs.toList) :: l) (w.alloc (.cells cs T)) := h.1.push cs T
end
end Go.Proofs.YthgcodbcafpmhaaDoor
