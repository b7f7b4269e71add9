/- Of the cursor: what stays while it turns. -/
import Derived.Test.YtaepconmjmcbdaaKit
import Derived.Test.YtaepconmjmcbdaaFlat
import Derived.Test.YtaepconmjmcbdaaBox
namespace Go.Proofs.Ytaepconmjmcbdaa
open Go.RowKit
theorem Turn.step {g : Nat} {w w' : World} (h : Turn g w w') : Step g (g + 1) w w' := ⟨h.os, h.tape, h.output, h.size, fun k hk ho => h.block k hk (by omega)⟩
theorem Cur.low {w w' : World} {B g lo : Nat} (h : Cur w B g) (hb : Below lo w w') (hg : g < lo) : Cur w' B g := by
  obtain ⟨A, n, c, zs, i, hh, hgg, hl, hn, hz, hR, hi, hB⟩ := h
  exact ⟨A, n, c, zs, i, hh, (hb.block g hg).trans hgg, hl, hn, hz, hR.below (hb.mono (by omega)), hi, hB⟩
theorem Turn.low {g lo : Nat} {w w1 w2 : World} (h : Turn g w w1) (hb : Below lo w1 w2) (hl : w.heap.size ≤ lo) : Turn g w w2 :=
  ⟨hb.os.trans h.os, hb.tape.trans h.tape, hb.output.trans h.output, Nat.le_trans h.size hb.size, fun k hk hg => (hb.block k (by omega)).trans (h.block k hk hg)⟩
theorem Left.low {B g lo : Nat} {w w1 w2 : World} (h : Left B g w w1) (hb : Below lo w1 w2) (hl : w.heap.size ≤ lo) (hg : g < lo) : Left B g w w2 := ⟨h.1.low hb hg, h.2.low hb hl⟩
/-- What is owned above the cursor stays. -/
theorem Own.turn {k : IntKind} {E : TypeId} {lo hi : Nat} {w w' : World} {A : Option Addr} {n c g : Nat} {zs : List Int} (h : Own k E lo hi w A n c zs) (ht : Turn g w w') (hg : g < lo) : Own k E lo hi w' A n c zs := h.step ht.step (Or.inr hg)
/-- Records that are owned above the cursor stay. -/
theorem FO.turn {α : Type} {l : Lay α} {E : TypeId} {lo hi : Nat} {w w' : World} {A : Option Addr} {n c g : Nat} {L : List α} (h : FO l E lo hi w A n c L) (ht : Turn g w w') (hg : g < lo) : FO l E lo hi w' A n c L := h.step ht.step (Or.inr hg)
theorem Box.turn {b g : Nat} {cs : List Value} {w w' : World} (h : Box b cs w) (ht : Turn g w w') (hne : b ≠ g) : Box b cs w' :=
  ⟨Nat.lt_of_lt_of_le h.1 ht.size, fun i v hv => (ht.cell (p := ⟨b, i, none⟩) h.1 hne).trans (h.2 i v hv)⟩
theorem Zb.turn {B b g : Nat} {cs : List Value} {w w' : World} (h : Zb B b cs w) (ht : Turn g w w') (hne : b ≠ g) : Zb B b cs w' :=
  ⟨h.1, h.2.1.turn ht hne, fun j => (World.frozen?_of_block (w := w) (a := ⟨b, j, none⟩) (ht.block b h.2.1.1 hne)).trans (h.2.2 j)⟩
theorem Left.below {B g : Nat} {w w' : World} (h : Left B g w w') (hB : B ≤ g) (hs : B ≤ w.heap.size) : Below B w w' := h.2.below hB hs
theorem Cur.ge {w : World} {B g : Nat} (h : Cur w B g) : B ≤ g := by
  obtain ⟨A, n, c, zs, i, hh, hgg, hl, hn, hz, hR, hi, hB⟩ := h
  exact hB
end Go.Proofs.Ytaepconmjmcbdaa
