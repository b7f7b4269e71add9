/- Draws of bytes: l1Bytes; the draws of stage 2's laws. -/
import Derived.Test.YtchofnligbgigaaEncS
import Derived.Test.YtchofnligbgigaaBase
namespace Go.Proofs.Ytchofnligbgigaa
open Go.RowKit

/-- Bytes that were drawn. -/
def Drawn (m : Nat) (B g : Nat) (w : World) (e : Ending) (w' : World) : Prop :=
  ∃ A n c zs, e = .returned (.slice A n c) ∧ Own .u8 5 w.heap.size w'.heap.size w' A n c zs ∧ Byt zs ∧ n = m ∧ Left B g w w'
theorem Drawn.ret {m B g : Nat} {w w' : World} {A : Option Addr} {n c : Nat} {zs : List Int} (h : Own .u8 5 w.heap.size w'.heap.size w' A n c zs) (hb : Byt zs) (hn : n = m) (hL : Left B g w w') : Drawn m B g w (.returned (.slice A n c)) w' := ⟨A, n, c, zs, rfl, h, hb, hn, hL⟩
theorem Byt.snoc {zs : List Int} {z : Int} (h : Byt zs) (h0 : 0 ≤ z) (h1 : z ≤ 255) : Byt (zs ++ [z]) := h.append (fun y hy => by
  have : y = z := by simpa using hy
  omega)
/-- Midway. -/
def Drawing (B g : Nat) (w : World) (i : Nat) (A : Option Addr) (n c : Nat) (wr : World) : Prop :=
  ∃ zs, Own .u8 5 w.heap.size wr.heap.size wr A n c zs ∧ Byt zs ∧ n = i ∧ Left B g w wr
theorem Drawing.next {B g : Nat} {w wr w1 w2 : World} {i n n' c' : Nat} {A' : Option Addr} {x : Int} {o : Obj} {hi : Nat} {zs : List Int} (hg : g < w.heap.size) (hby : Byt zs) (hn : n = i) (hL : Left B g w wr) (hL1 : Left B g wr w1)
    (hO2 : Own .u8 5 w.heap.size w2.heap.size w2 A' n' c' (zs ++ [x])) (hS : Step w.heap.size hi (w1.alloc o) w2) (hx0 : 0 ≤ x) (hx1 : x ≤ 255) (hn' : n' = n + 1) : Drawing B g w (i + 1) A' n' c' w2 := by
  have hs : w.heap.size ≤ w1.heap.size := Nat.le_trans hL.2.size hL1.2.size
  exact ⟨_, hO2, hby.snoc hx0 hx1, by omega, (hL.trans hL1).low (((Below.refl _ _).alloc hs o).trans (hS.low (by simp; omega))) (Nat.le_refl _) hg⟩
/-- A slice of bytes and a number were drawn. -/
def DrewBI (w : World) (e : Ending) (w' : World) : Prop :=
  ∃ A n c zs, ∃ x : Int, e = .returned (.tuple #[.slice A n c, .int .i64 x]) ∧ Own .u8 5 w.heap.size w'.heap.size w' A n c zs ∧ Byt zs ∧ n ≤ 1048576 ∧ -9223372036854775808 ≤ x ∧ x ≤ 9223372036854775807 ∧ Below w.heap.size w w'
theorem DrewBI.ret {w w' : World} {A : Option Addr} {n c lo hi : Nat} {zs : List Int} {x : Int} (h : Own .u8 5 lo hi w' A n c zs) (hl : w.heap.size ≤ lo) (hb : Byt zs) (hn : n ≤ 1048576) (h0 : -9223372036854775808 ≤ x) (h1 : x ≤ 9223372036854775807) (hB : Below w.heap.size w w') :
    DrewBI w (.returned (.tuple #[.slice A n c, .int .i64 x])) w' := by
  have hs := h.2.2.1
  exact ⟨A, n, c, zs, x, rfl, (h.more hs (Nat.le_refl _)).less hl, hb, hn, h0, h1, hB⟩
/-- Two slices of bytes were drawn. -/
def DrewBB (w : World) (e : Ending) (w' : World) : Prop :=
  ∃ A n c zs A' n' c' zs', e = .returned (.tuple #[.slice A n c, .slice A' n' c']) ∧ Rz .u8 w' A n zs ∧ Byt zs ∧ n ≤ 1048576 ∧ Rz .u8 w' A' n' zs' ∧ Byt zs' ∧ n' ≤ 1048576 ∧ Below w.heap.size w w'
theorem DrewBB.ret {w w' : World} {A A' : Option Addr} {n c n' c' : Nat} {zs zs' : List Int} (h : Rz .u8 w' A n zs) (hb : Byt zs) (hn : n ≤ 1048576) (h' : Rz .u8 w' A' n' zs') (hb' : Byt zs') (hn' : n' ≤ 1048576) (hB : Below w.heap.size w w') :
    DrewBB w (.returned (.tuple #[.slice A n c, .slice A' n' c'])) w' := ⟨A, n, c, zs, A', n', c', zs', rfl, h, hb, hn, h', hb', hn', hB⟩
theorem wide_in {x : Int} (h0 : -wide ≤ x) (h1 : x ≤ wide - 1) : -9223372036854775808 ≤ x ∧ x ≤ 9223372036854775807 := by unfold wide at h0 h1; omega
/-- Midway in a draw that lays bytes: the cursor was made by this call. -/
def Midway (w : World) (g lo m : Nat) (A : Option Addr) (n c : Nat) (wr : World) : Prop :=
  ∃ zs, Own .u8 5 lo wr.heap.size wr A n c zs ∧ Byt zs ∧ n ≤ m ∧ Cur wr w.heap.size g ∧ Below w.heap.size w wr ∧ lo ≤ wr.heap.size
theorem Midway.next {w wr w1 w2 : World} {g lo m n n' c' : Nat} {A' : Option Addr} {x : Int} {o : Obj} {hi : Nat} {zs : List Int} (hg : g < lo) (hgB : w.heap.size ≤ g) (hby : Byt zs) (hn : n ≤ m) (hB : Below w.heap.size w wr) (hL1 : Left w.heap.size g wr w1) (hl : lo ≤ wr.heap.size)
    (hO2 : Own .u8 5 lo w2.heap.size w2 A' n' c' (zs ++ [x])) (hS : Step lo hi (w1.alloc o) w2) (hx0 : 0 ≤ x) (hx1 : x ≤ 255) (hn' : n' = n + 1) : Midway w g lo (m + 1) A' n' c' w2 := by
  have hs : lo ≤ w1.heap.size := Nat.le_trans hl hL1.2.size
  have hb2 : Below lo w1 w2 := ((Below.refl _ _).alloc hs o).trans (hS.low (by simp; omega))
  exact ⟨_, hO2, hby.snoc hx0 hx1, by omega, hL1.1.low hb2 hg, (hB.trans (hL1.below hgB hB.size)).trans (hb2.mono (by omega)), Nat.le_trans hs hb2.size⟩
end Go.Proofs.Ytchofnligbgigaa
