/- Of no program (but for the cursor): a record of a name and a slice that a draw builds up by append. -/
import Derived.Test.YtgibhbplgiejpaaGreatData
import Derived.Test.YtgibhbplgiejpaaGreatBase
namespace Go.Proofs.YtgibhbplgiejpaaGreat
open Go.RowKit
set_option linter.unusedVariables false
theorem Touch.of_turn {g : Nat} {w w' : World} (h : Turn g w w') : Touch (fun b => b = g) w w' := ⟨h.os, h.tape, h.output, h.size, fun k hk hn => h.block k hk hn⟩
theorem Zb.touch {S : Nat → Prop} {B b : Nat} {cs : List Value} {w w' : World} (h : Zb B b cs w) (ht : Touch S w w') (hb : ¬ S b) : Zb B b cs w' := by
  have e := ht.block b h.2.1.1 hb
  exact ⟨h.1, ⟨Nat.lt_of_lt_of_le h.2.1.1 ht.size, fun i v hv => (World.cell?_of_block (w := w) (a := ⟨b, i, none⟩) e).trans (h.2.1.2 i v hv)⟩, fun j => (World.frozen?_of_block (w := w) (a := ⟨b, j, none⟩) e).trans (h.2.2 j)⟩
theorem Box.touched {S : Nat → Prop} {b : Nat} {cs : List Value} {w w' : World} (h : Box b cs w) (ht : Touch S w w') (hb : ¬ S b) : Box b cs w' :=
  ⟨Nat.lt_of_lt_of_le h.1 ht.size, fun i v hv => (World.cell?_of_block (w := w) (a := ⟨b, i, none⟩) (ht.block b h.1 hb)).trans (h.2 i v hv)⟩
theorem Grow.less {E : TypeId} {k lo lo' : Nat} {w : World} {A : Option Addr} {n c : Nat} {L : List Dat} {B : Nat → Prop} (h : Grow E k lo w A n c L B) (hl : lo' ≤ lo) : Grow E k lo' w A n c L B := by
  obtain ⟨xs, h1, h2⟩ := h
  refine ⟨xs, ⟨h1.1, ?_⟩, h2⟩
  rcases h1.2 with hn | ⟨g, cap, cur, hv, hb, rest⟩
  · exact .inl hn
  · exact .inr ⟨g, cap, cur, hv, Nat.le_trans hl hb, rest⟩
theorem Grow.blk {E : TypeId} {k lo : Nat} {w : World} {A : Option Addr} {n c : Nat} {L : List Dat} {B : Nat → Prop} (h : Grow E k lo w A n c L B) : ∀ a, A = some a → lo ≤ a.block ∧ a.block < w.heap.size ∧ ¬ B a.block := fun a e => by
  subst e
  exact h.own a.block (by simp [Value.ownBlock])
/-- All blocks of the slice and of its elements. -/
theorem Grow.all {E : TypeId} {k lo : Nat} {w : World} {A : Option Addr} {n c : Nat} {L : List Dat} {B : Nat → Prop} (h : Grow E k lo w A n c L B) (hB : ∀ b, B b → lo ≤ b) : ∀ b, ((∃ a, A = some a ∧ b = a.block) ∨ B b) → lo ≤ b ∧ b < w.heap.size := fun b hb => by
  rcases hb with ⟨a, e, rfl⟩ | hb
  · exact ⟨(h.blk a e).1, (h.blk a e).2.1⟩
  · obtain ⟨xs, -, -, -, -, -, h6⟩ := h
    exact ⟨hB b hb, h6 b hb⟩
/-- Two boxes (the result's and the variable's, v), and what the slice of the record is; A0: what the variable's box says of the slice. -/
structure MkSt (W : World) (Bc g : Nat) (E : TypeId) (k lo v : Nat) (l : List (Nat × List Value)) (zc : List Value) (nm : ByteArray) (A0 : Option Addr) (n0 c0 : Nat) (A : Option Addr) (n c : Nat) (L : List Dat) (w : World) : Prop where
  res : Zb W.heap.size W.heap.size zc w
  loc : Zb W.heap.size v [.string nm, .slice A0 n0 c0] w
  grow : ∃ Bs, Grow E k lo w A n c L Bs ∧ (∀ b, Bs b → lo ≤ b ∧ b ≠ v) ∧ ∀ a, A = some a → a.block ≠ v
  held : ∀ p ∈ l, Box p.1 p.2 w ∧ W.heap.size < p.1 ∧ p.1 < lo ∧ p.1 ≠ v
  left : Left Bc g W w
  low : W.heap.size < lo ∧ lo ≤ w.heap.size ∧ g < W.heap.size ∧ W.heap.size < v
section
variable {W w w' : World} {Bc g : Nat} {E : TypeId} {k lo v : Nat} {l : List (Nat × List Value)} {zc : List Value} {nm : ByteArray} {A0 A A' : Option Addr} {n0 c0 n c n' c' : Nat} {L L' : List Dat}
theorem MkSt.start (hc : Cur W Bc g) (zc : Array Value) (nm : ByteArray) (E k : Nat) (T U : TypeId) : MkSt W Bc g E k (W.heap.size + 2) (W.heap.size + 1) [] zc.toList nm none 0 0 none 0 0 [] ((W.alloc (.cells zc T)).alloc (.cells #[.string nm, .slice none 0 0] U)) := by
  have hg := hc.lt
  have hz := Zb.new (B := W.heap.size) (W.alloc (.cells zc T)) #[.string nm, .slice none 0 0] U (by simp)
  rw [World.size_alloc] at hz
  exact ⟨(Zb.new W zc T (Nat.le_refl _)).below ((Below.refl _ _).alloc (Nat.le_refl _) _), hz, ⟨_, Grow.nil E k _ _, (fun b hb => hb.elim), (fun a e => by cases e)⟩, (fun p hp => by cases hp),
    ⟨(hc.alloc' _).alloc' _, ((Turn.refl g W).alloc _).alloc _⟩, ⟨by omega, by simp, hg, by omega⟩⟩
theorem MkSt.turn (h : MkSt W Bc g E k lo v l zc nm A0 n0 c0 A n c L w) (hL : Left Bc g w w') : MkSt W Bc g E k lo v l zc nm A0 n0 c0 A n c L w' := by
  obtain ⟨h1, h2, hg, hv⟩ := h.low
  have h3 := hL.2.size
  obtain ⟨Bs, hG, hB, hA⟩ := h.grow
  refine ⟨h.res.turn hL.2 (by omega), h.loc.turn hL.2 (by omega), ⟨Bs, hG.touch (Touch.of_turn hL.2) (fun a e e2 => ?_) (fun b hb e2 => ?_), hB, hA⟩, fun p hp => ?_, h.left.trans hL, ⟨h1, by omega, hg, hv⟩⟩
  · have := (hG.blk a e).1; omega
  · have := (hB b hb).1; omega
  · obtain ⟨x1, x2, x3, x4⟩ := h.held p hp
    exact ⟨x1.turn hL.2 (by omega), x2, x3, x4⟩
theorem MkSt.below (h : MkSt W Bc g E k lo v l zc nm A0 n0 c0 A n c L w) (hb : Below w.heap.size w w') : MkSt W Bc g E k lo v l zc nm A0 n0 c0 A n c L w' := by
  obtain ⟨h1, h2, hg, hv⟩ := h.low
  have hs := hb.size
  obtain ⟨Bs, hG, hB, hA⟩ := h.grow
  exact ⟨h.res.below hb, h.loc.below hb, ⟨Bs, hG.below hb, hB, hA⟩, fun p hp => ⟨(h.held p hp).1.below hb, (h.held p hp).2⟩, h.left.low hb h.left.2.size (by omega), ⟨h1, by omega, hg, hv⟩⟩
theorem MkSt.grown (h : MkSt W Bc g E k lo v l zc nm A0 n0 c0 A n c L w) (hG : ∃ Bs, Grow E k lo w' A' n' c' L' Bs ∧ (∀ b, Bs b → lo ≤ b ∧ b ≠ v) ∧ ∀ a, A' = some a → a.block ≠ v) (ht : Touch (fun b => ∃ a, A = some a ∧ b = a.block) w w') : MkSt W Bc g E k lo v l zc nm A0 n0 c0 A' n' c' L' w' := by
  obtain ⟨h1, h2, hg, hv⟩ := h.low
  have hs := ht.size
  obtain ⟨Bs, hG0, hB, hA⟩ := h.grow
  have hlo : ∀ b, (∃ a, A = some a ∧ b = a.block) → lo ≤ b ∧ b ≠ v := fun b ⟨a, e, hb⟩ => by subst hb; exact ⟨(hG0.blk a e).1, hA a e⟩
  refine ⟨h.res.touch ht (fun hb => ?_), h.loc.touch ht (fun hb => (hlo _ hb).2 rfl), hG, fun p hp => ?_, h.left.low (ht.below (fun b hb => (hlo b hb).1) h2) (by omega) (by omega), ⟨h1, by omega, hg, hv⟩⟩
  · have := (hlo _ hb).1; omega
  · obtain ⟨x1, x2, x3⟩ := h.held p hp
    exact ⟨x1.touched ht (fun hb => by have := (hlo _ hb).1; omega), x2, x3⟩
theorem MkSt.set (h : MkSt W Bc g E k lo v l zc nm A0 n0 c0 A n c L w) (j : Nat) (u : Value) (nm' : ByteArray) (A1 : Option Addr) (n1 c1 : Nat) (hl : Box v [.string nm', .slice A1 n1 c1] (w.setCell ⟨v, j, none⟩ u)) : MkSt W Bc g E k lo v l zc nm' A1 n1 c1 A n c L (w.setCell ⟨v, j, none⟩ u) := by
  obtain ⟨h1, h2, hg, hv⟩ := h.low
  have ht : Touch (fun b => b = v) w (w.setCell ⟨v, j, none⟩ u) := (Touch.refl (fun b => b = v) w).setCell (p := ⟨v, j, none⟩) rfl _
  obtain ⟨Bs, hG, hB, hA⟩ := h.grow
  refine ⟨h.res.touch ht (by omega), ⟨h.loc.1, hl, fun i => ?_⟩, ⟨Bs, hG.touch ht hA (fun b hb => (hB b hb).2), hB, hA⟩, fun p hp => ?_, h.left.low (ht.below (B := W.heap.size) (fun b e => by subst e; omega) (by omega)) (Nat.le_refl _) hg, ⟨h1, by simpa [World.setCell] using h2, hg, hv⟩⟩
  · rw [World.frozen?_setCell]
    exact h.loc.2.2 i
  · obtain ⟨x1, x2, x3, x4⟩ := h.held p hp
    exact ⟨x1.touched ht x4, x2, x3, x4⟩
theorem MkSt.store (h : MkSt W Bc g E k lo v l zc nm A0 n0 c0 A n c L w) : MkSt W Bc g E k lo v l zc nm A n c A n c L (w.setCell ⟨v, 1, none⟩ (.slice A n c)) := by
  have n1 : (⟨v, 1, none⟩ : Addr) ≠ ⟨v, 0, none⟩ := by intro e; injection e; omega
  refine h.set 1 _ nm A n c ⟨by simpa [World.setCell] using h.loc.2.1.1, fun i u hu => ?_⟩
  match i, hu with
  | 0, hu =>
    obtain rfl : Value.string nm = u := by simpa using hu
    rw [World.cell?_setCell_other (h := n1)]
    exact h.loc.2.1.2 0 _ rfl
  | 1, hu =>
    obtain rfl : Value.slice A n c = u := by simpa using hu
    exact World.cell?_setCell_same _ _ _ (h.loc.2.1.2 1 _ rfl)
theorem MkSt.rename (h : MkSt W Bc g E k lo v l zc nm A0 n0 c0 A n c L w) (nm' : ByteArray) : MkSt W Bc g E k lo v l zc nm' A0 n0 c0 A n c L (w.setCell ⟨v, 0, none⟩ (.string nm')) := by
  have n1 : (⟨v, 0, none⟩ : Addr) ≠ ⟨v, 1, none⟩ := by intro e; injection e; omega
  refine h.set 0 _ nm' A0 n0 c0 ⟨by simpa [World.setCell] using h.loc.2.1.1, fun i u hu => ?_⟩
  match i, hu with
  | 1, hu =>
    obtain rfl : Value.slice A0 n0 c0 = u := by simpa using hu
    rw [World.cell?_setCell_other (h := n1)]
    exact h.loc.2.1.2 1 _ rfl
  | 0, hu =>
    obtain rfl : Value.string nm' = u := by simpa using hu
    exact World.cell?_setCell_same _ _ _ (h.loc.2.1.2 0 _ rfl)
theorem MkSt.hold (h : MkSt W Bc g E k lo v l zc nm none 0 0 none 0 0 [] w) (hw : w.heap.size = lo) (hvl : v < lo) (cs : Array Value) (T : TypeId) : MkSt W Bc g E k (lo + 1) v ((lo, cs.toList) :: l) zc nm none 0 0 none 0 0 [] (w.alloc (.cells cs T)) := by
  have hb : Below w.heap.size w (w.alloc (.cells cs T)) := (Below.refl _ _).alloc (Nat.le_refl _) _
  obtain ⟨h1, h2, hg, hv⟩ := h.low
  refine ⟨h.res.below hb, h.loc.below hb, ⟨_, Grow.nil E k _ _, (fun b hb => hb.elim), (fun a e => by cases e)⟩, fun p hp => ?_, h.left.low hb h.left.2.size (by omega), ⟨by omega, by simp [hw], hg, hv⟩⟩
  rcases List.mem_cons.1 hp with rfl | hp
  · have := Box.new w cs T
    rw [hw] at this
    exact ⟨this, by omega, by simp, by show lo ≠ v; omega⟩
  · obtain ⟨x1, x2, x3, x4⟩ := h.held p hp
    exact ⟨x1.below hb, x2, by omega, x4⟩
theorem MkSt.two (h : MkSt W Bc g E k lo v l zc nm A0 n0 c0 A n c L w) : w.cell? ⟨v, 0, none⟩ = some (.string nm) ∧ w.cell? ⟨v, 1, none⟩ = some (.slice A0 n0 c0) := ⟨h.loc.two.1, h.loc.two.2.1⟩
theorem MkSt.free (h : MkSt W Bc g E k lo v l zc nm A0 n0 c0 A n c L w) : w.frozen? ⟨v, 0, none⟩ = false ∧ w.frozen? ⟨v, 1, none⟩ = false := ⟨h.loc.2.2 0, h.loc.2.2 1⟩
theorem MkSt.cur (h : MkSt W Bc g E k lo v l zc nm A0 n0 c0 A n c L w) : Cur w Bc g := h.left.1
theorem MkSt.ne (h : MkSt W Bc g E k lo v l zc nm A0 n0 c0 A n c L w) : W.heap.size < v ∧ v < w.heap.size := ⟨h.low.2.2.2, h.loc.2.1.1⟩
/-- A record that was drawn, in a new variable. -/
theorem MkSt.of_drew {Bs : Nat → Prop} (hz : Zb W.heap.size W.heap.size zc w) (hL : Left Bc g W w) (hg : g < W.heap.size) (hG : Grow E k lo w A n c L Bs) (hB : ∀ b, Bs b → lo ≤ b) (hlo : W.heap.size < lo) (hlw : lo ≤ w.heap.size) (T : TypeId) :
    MkSt W Bc g E k lo w.heap.size [] zc nm A n c A n c L (w.alloc (.cells #[.string nm, .slice A n c] T)) := by
  have hb : Below w.heap.size w (w.alloc (.cells #[.string nm, .slice A n c] T)) := (Below.refl _ _).alloc (Nat.le_refl _) _
  have hs := hL.2.size
  have hall := hG.all hB
  refine ⟨hz.below hb, Zb.new w #[.string nm, .slice A n c] T hs, ⟨Bs, hG.below hb, fun b hb => ⟨hB b hb, ?_⟩, fun a e => ?_⟩, (fun p hp => by cases hp), hL.low hb hs (by omega), ⟨hlo, by simp; omega, hg, hz.2.1.1⟩⟩
  · have := (hall b (Or.inr hb)).2; omega
  · have := (hall a.block (Or.inl ⟨a, e, rfl⟩)).2; omega
end
/-- A record of a name and a slice that was drawn: it may grow on. -/
def DrewG (Bc g : Nat) (E : TypeId) (k : Nat) (P : ByteArray → List Dat → Prop) (w : World) (e : Ending) (w' : World) : Prop := ∃ (nm : ByteArray) (A : Option Addr) (n c : Nat) (L : List Dat) (Bs : Nat → Prop), e = .returned (.agg #[.string nm, .slice A n c]) ∧ Grow E k w.heap.size w' A n c L Bs ∧ (∀ b, Bs b → w.heap.size ≤ b) ∧ P nm L ∧ Left Bc g w w'
section
variable {W w : World} {Bc g : Nat} {E : TypeId} {k lo v : Nat} {l : List (Nat × List Value)} {x y : Value} {nm : ByteArray} {A : Option Addr} {n c : Nat} {L : List Dat} {P : ByteArray → List Dat → Prop}
theorem MkSt.last (h : MkSt W Bc g E k lo v l [x, y] nm A n c A n c L w) (a b : Value) : Box W.heap.size [a, b] ((w.setCell ⟨W.heap.size, 0, none⟩ a).setCell ⟨W.heap.size, 1, none⟩ b) := h.res.2.1.two a b
theorem MkSt.done (h : MkSt W Bc g E k lo v l [x, y] nm A n c A n c L w) (hP : P nm L) (a b : Value) : DrewG Bc g E k P W (.returned (.agg #[.string nm, .slice A n c])) ((w.setCell ⟨W.heap.size, 0, none⟩ a).setCell ⟨W.heap.size, 1, none⟩ b) := by
  have ht : Touch (fun i => i = W.heap.size) w ((w.setCell ⟨W.heap.size, 0, none⟩ a).setCell ⟨W.heap.size, 1, none⟩ b) := ((Touch.refl (fun i => i = W.heap.size) w).setCell (p := ⟨W.heap.size, 0, none⟩) rfl a).setCell (p := ⟨W.heap.size, 1, none⟩) rfl b
  obtain ⟨h1, h2, hg, hv⟩ := h.low
  have hs := h.left.2.size
  obtain ⟨Bs, hG, hB, hA⟩ := h.grow
  refine ⟨nm, A, n, c, L, Bs, rfl, (hG.touch ht (fun a e e2 => ?_) (fun b hb e2 => ?_)).less (by omega), fun b hb => ?_, hP, h.left.low (ht.below (B := W.heap.size) (fun b e => by subst e; exact Nat.le_refl _) hs) (Nat.le_refl _) hg⟩
  · have := (hG.blk a e).1; omega
  · have := (hB b hb).1; omega
  · have := (hB b hb).1; omega
end
/-- An append at a step of a region that draws its order: what is appended was drawn between w4 and w5 and lies in a literal. -/
theorem step_app {W w4 w5 : World} {Bc g : Nat} {E : TypeId} {k lo v : Nat} {l : List (Nat × List Value)} {zc : List Value} {nm : ByteArray} {A0 A : Option Addr} {n0 c0 n c : Nat} {L : List Dat}
    {P : Program} {ops : Array Oper} {o : Oper} {a : Act} {K : Act → World → Prop} {Q : Exit → Act → World → Prop} {X : Prop} (hgd : o.guard = none) (s x : Operand) (t : TypeId)
    (ho : o.op = .call { callee := .builtin .append, args := #[s, x], argTypes := #[t, t] }) (hk : 0 < k) (i : TypeInfo) (z : Value) (bytes : Nat) (ht : P.underlying t = some (.slice E)) (hi : P.info? E = some i) (hz : i.zero = some z)
    (hsize : i.size = k) (hzs : z.cells.size = k) (hby : i.bytes = bytes) (hM : MkSt W Bc g E k lo v l zc nm A0 n0 c0 A n c L w4) (hL : Left Bc g w4 w5) (ob : Obj) (m c2 : Nat) (L2 : List Dat) (B2 : Nat → Prop)
    (hR : Src k (w5.alloc ob) (some ⟨w5.heap.size, 0, none⟩) m L2 B2) (hB : ∀ b, B2 b → w4.heap.size ≤ b) (hs : a.eval s = .slice A n c) (hx : a.eval x = .slice (some ⟨w5.heap.size, 0, none⟩) m c2) (h1 : n + m ≤ 1000) (h2 : bytes ≤ 1000)
    (h : ∀ A' c' w', MkSt W Bc g E k lo v l zc nm A0 n0 c0 A' (n + m) c' (L ++ L2) w' → K (a.put o.dst (.slice A' (n + m) c')) w') : if Region.wanted o (yielded ops a.tmps) = true then Oper.wp P o a (w5.alloc ob) K Q else X := by
  have hM5 := (hM.turn hL).below (w' := w5.alloc ob) ((Below.refl _ _).alloc (Nat.le_refl _) _)
  obtain ⟨Bs0, hG0, hB0, hA0⟩ := hM.grow
  have hGall := hG0.all (fun b hb => (hB0 b hb).1)
  obtain ⟨hl0, hl1, hg, hv⟩ := hM.low
  have hvw := hM.loc.2.1.1
  have h5 := hL.2.size
  have hG5 : Grow E k lo (w5.alloc ob) A n c L Bs0 := (hG0.touch (Touch.of_turn hL.2) (fun a e e2 => by have := (hG0.blk a e).1; omega) (fun b hb e2 => by have := (hB0 b hb).1; omega)).below ((Below.refl _ _).alloc (Nat.le_refl _) _)
  have hbytes : (n + m) * bytes ≤ 140737488355328 := Nat.le_trans (Nat.mul_le_mul h1 h2) (by decide)
  refine step_append_dat (w5.alloc ob) hgd s x t ho k hk E i z bytes ht hi hz hsize hzs hby lo A n c L Bs0 hs hG5 _ m c2 L2 B2 hx hR (fun b hb hb2 => ?_) (fun a e hb2 => ?_) (by unfold maxLen; omega) hbytes hM5.low.2.1 (fun A' c' w' hG hT hA => h A' c' w' (hM5.grown ⟨_, hG, fun b hb => ?_, fun a e => ?_⟩ hT))
  · have := (hGall b (Or.inr hb)).2; have := hB b hb2; omega
  · have := (hGall a.block (Or.inl ⟨a, e, rfl⟩)).2; have := hB _ hb2; omega
  · rcases hb with hb | hb
    · exact hB0 b hb
    · have := hB b hb; exact ⟨by omega, by omega⟩
  · rcases hA a e with e2 | e2
    · exact hA0 a e2
    · rw [World.size_alloc] at e2; omega
/-- The same, where the literal's block is known by number. -/
theorem step_app_at {W w4 w5 : World} {Bc g : Nat} {E : TypeId} {k lo v : Nat} {l : List (Nat × List Value)} {zc : List Value} {nm : ByteArray} {A0 A : Option Addr} {n0 c0 n c : Nat} {L : List Dat}
    {P : Program} {ops : Array Oper} {o : Oper} {a : Act} {K : Act → World → Prop} {Q : Exit → Act → World → Prop} {X : Prop} (q : Nat) (hq : w5.heap.size = q) (hgd : o.guard = none) (s x : Operand) (t : TypeId)
    (ho : o.op = .call { callee := .builtin .append, args := #[s, x], argTypes := #[t, t] }) (hk : 0 < k) (i : TypeInfo) (z : Value) (bytes : Nat) (ht : P.underlying t = some (.slice E)) (hi : P.info? E = some i) (hz : i.zero = some z)
    (hsize : i.size = k) (hzs : z.cells.size = k) (hby : i.bytes = bytes) (hM : MkSt W Bc g E k lo v l zc nm A0 n0 c0 A n c L w4) (hL : Left Bc g w4 w5) (ob : Obj) (m c2 : Nat) (L2 : List Dat) (B2 : Nat → Prop)
    (hR : Src k (w5.alloc ob) (some ⟨w5.heap.size, 0, none⟩) m L2 B2) (hB : ∀ b, B2 b → w4.heap.size ≤ b) (hs : a.eval s = .slice A n c) (hx : a.eval x = .slice (some ⟨q, 0, none⟩) m c2) (h1 : n + m ≤ 1000) (h2 : bytes ≤ 1000)
    (h : ∀ A' c' w', MkSt W Bc g E k lo v l zc nm A0 n0 c0 A' (n + m) c' (L ++ L2) w' → K (a.put o.dst (.slice A' (n + m) c')) w') : if Region.wanted o (yielded ops a.tmps) = true then Oper.wp P o a (w5.alloc ob) K Q else X := by
  subst hq
  exact step_app hgd s x t ho hk i z bytes ht hi hz hsize hzs hby hM hL ob m c2 L2 B2 hR hB hs hx h1 h2 h
/-- A literal of two records. -/
theorem Src.two {w : World} {k : Nat} {d e : Dat} {xs ys : List Value} {C : Array Value} {B B' : Nat → Prop} {E : TypeId} (hC : C.toList = xs ++ ys) (ho : Owns w d xs B) (ho' : Owns w e ys B') (hw : d.width = k) (hw' : e.width = k) (hB : ∀ b, B b → b < w.heap.size) (hB' : ∀ b, B' b → b < w.heap.size) (hd : ∀ b, B b → ¬ B' b) :
    Src k (w.alloc (.cells C E)) (some ⟨w.heap.size, 0, none⟩) 2 [d, e] (fun b => B b ∨ B' b) := by
  have hb : Below w.heap.size w (w.alloc (.cells C E)) := (Below.refl _ _).alloc (Nat.le_refl _) _
  refine ⟨xs ++ ys, Or.inr ⟨w.heap.size, 0, rfl, by simp, fun j v hj => ?_⟩, ?_, rfl, fun x hx => ?_, fun b h => ?_⟩
  · rw [Nat.zero_add, cell_of_row _ w.heap.size j C E (0, 0) (by show (w.heap.push _)[w.heap.size]? = _; simp)]
    rw [← hC] at hj
    simpa using hj
  · rw [OwnsAll]
    refine ⟨xs, ys, B, B', rfl, fun b h => Or.inl h, fun b h => Or.inr h, hd, ho.below hb, ?_⟩
    rw [OwnsAll]
    exact ⟨ys, [], B', (fun _ => False), (List.append_nil _).symm, fun b h => h, fun b h => h.elim, fun b _ h => h, ho'.below hb, by rw [OwnsAll]⟩
  · rcases List.mem_cons.1 hx with rfl | hx
    · exact hw
    · rw [List.mem_singleton.1 hx]; exact hw'
  · rcases h with h | h
    · exact Nat.lt_of_lt_of_le (hB b h) hb.size
    · exact Nat.lt_of_lt_of_le (hB' b h) hb.size
end Go.Proofs.YtgibhbplgiejpaaGreat
