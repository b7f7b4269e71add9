/- Draws of chapter 9: l9Any. -/
import Derived.Test.YtfgijebgnkikpaaDraw9S
import Derived.Test.YtfgijebgnkikpaaNewO
import Derived.Test.YtfgijebgnkikpaaEntV
import Derived.Deep.Cut
import Derived.LoopTactic
import Derived.Lib.Hide
import Derived.Deep.QuietTactic
import Derived.BigQuiet
import Derived.Deep.RegionWith
import Derived.Handy
namespace Go.Proofs.Ytfgijebgnkikpaa
open Go.RowKit
set_option linter.unusedVariables false
set_option linter.unusedSimpArgs false
/-- Of no program: rows of values, owned; a literal of one element, owned. -/
theorem Owns.lit9 {w : World} {d : Dat} {C : Array Value} {E : TypeId} {B : Nat → Prop} (h : Owns w d C.toList B) (hB : ∀ b, B b → b < w.heap.size) (hw : d.width = C.size) : Owns (w.alloc (.cells C E)) (.l [d]) [.slice (some ⟨w.heap.size, 0, none⟩) 1 1] (fun b => B b ∨ b = w.heap.size) := by
  rw [Owns]
  refine ⟨_, 1, 1, rfl, rfl, Or.inr ⟨w.heap.size, E, C, B, rfl, Or.inr rfl, fun b hb => ⟨Or.inl hb, fun e => by have := hB b hb; omega⟩, heap_alloc_new _ _, ⟨by simp only [widthAll]; omega, Nat.le_refl _⟩, ?_⟩⟩
  have e : C.toList.take (widthAll [d]) = C.toList := List.take_of_length_le (by simp only [widthAll, Array.length_toList]; omega)
  rw [e, OwnsAll]
  exact ⟨C.toList, [], B, (fun _ => False), (List.append_nil _).symm, (fun b hb => hb), (fun b hb => hb.elim), (fun b _ hb => hb), h.below ((Below.refl _ _).alloc (Nat.le_refl _) _), OwnsAll.nil_ _ _⟩
/-- What an entity that was drawn holds: owned, small. -/
def Small9 (L2 : List Dat) (A2 : Option Addr) (n2 c2 : Nat) (L5 : List Dat) (A5 : Option Addr) (n5 c5 : Nat) (L6 : List Dat) (A6 : Option Addr) (n6 c6 : Nat) : Prop := ((∀ x ∈ L2, Has tyValue x) ∧ n2 ≤ 4) ∧ ((∀ x ∈ L5, Has tySent x) ∧ (Dat.l L5).bulk ≤ 1000) ∧ ((∀ x ∈ L6, Has tyAsker x) ∧ n6 ≤ 4)
theorem Small9.nil : Small9 [] none 0 0 [] none 0 0 [] none 0 0 := ⟨⟨fun x h => absurd h List.not_mem_nil, by omega⟩, ⟨fun x h => absurd h List.not_mem_nil, by simp [Dat.bulk, bulkAll]⟩, ⟨fun x h => absurd h List.not_mem_nil, by omega⟩⟩
def Own9 (k : Nat) (L2 : List Dat) (A2 : Option Addr) (n2 c2 : Nat) (L5 : List Dat) (A5 : Option Addr) (n5 c5 : Nat) (L6 : List Dat) (A6 : Option Addr) (n6 c6 : Nat) (w : World) : Prop := Owns w (.l L2) [.slice A2 n2 c2] (fun b => k < b) ∧ Owns w (.l L5) [.slice A5 n5 c5] (fun b => k < b) ∧ Owns w (.l L6) [.slice A6 n6 c6] (fun b => k < b)
theorem own_nil (w : World) (B : Nat → Prop) : Owns w (.l []) [.slice none 0 0] B := by rw [Owns]; exact ⟨none, 0, 0, rfl, rfl, Or.inl rfl⟩
/-- Midway: the entity's box at k. -/
def EntQ (W : World) (B g k : Nat) (cs : List Value) (L2 : List Dat) (A2 : Option Addr) (n2 c2 : Nat) (L5 : List Dat) (A5 : Option Addr) (n5 c5 : Nat) (L6 : List Dat) (A6 : Option Addr) (n6 c6 : Nat) (w : World) : Prop :=
  Left B g W w ∧ Zb W.heap.size W.heap.size [.int .i64 0, .int .i64 0, .slice none 0 0, .int .i64 0, .int .i64 0, .int .i64 0, .slice none 0 0, .slice none 0 0, .int .i64 0, .int .i64 0, .int .i64 0, .int .i64 0] w ∧ Zb W.heap.size k cs w ∧ Own9 k L2 A2 n2 c2 L5 A5 n5 c5 L6 A6 n6 c6 w ∧ Small9 L2 A2 n2 c2 L5 A5 n5 c5 L6 A6 n6 c6 ∧ (W.heap.size < k ∧ g < W.heap.size)
section
variable {W w w' : World} {B g k : Nat} {cs : List Value} {L2 : List Dat} {A2 : Option Addr} {n2 c2 : Nat} {L5 : List Dat} {A5 : Option Addr} {n5 c5 : Nat} {L6 : List Dat} {A6 : Option Addr} {n6 c6 : Nat}
theorem Own9.touch {S : Nat → Prop} (h : Own9 k L2 A2 n2 c2 L5 A5 n5 c5 L6 A6 n6 c6 w) (ht : Touch S w w') (hS : ∀ b, k < b → ¬ S b) : Own9 k L2 A2 n2 c2 L5 A5 n5 c5 L6 A6 n6 c6 w' := ⟨h.1.touch ht hS, h.2.1.touch ht hS, h.2.2.touch ht hS⟩
theorem Own9.below (h : Own9 k L2 A2 n2 c2 L5 A5 n5 c5 L6 A6 n6 c6 w) (hb : Below w.heap.size w w') : Own9 k L2 A2 n2 c2 L5 A5 n5 c5 L6 A6 n6 c6 w' := ⟨h.1.below hb, h.2.1.below hb, h.2.2.below hb⟩
theorem EntQ.left (h : EntQ W B g k cs L2 A2 n2 c2 L5 A5 n5 c5 L6 A6 n6 c6 w) : Left B g W w := h.1
theorem EntQ.cur (h : EntQ W B g k cs L2 A2 n2 c2 L5 A5 n5 c5 L6 A6 n6 c6 w) : Cur w B g := h.1.1
theorem EntQ.arith (h : EntQ W B g k cs L2 A2 n2 c2 L5 A5 n5 c5 L6 A6 n6 c6 w) : W.heap.size < k ∧ g < W.heap.size ∧ k < w.heap.size := ⟨h.2.2.2.2.2.1, h.2.2.2.2.2.2, h.2.2.1.2.1.1⟩
theorem EntQ.turn (h : EntQ W B g k cs L2 A2 n2 c2 L5 A5 n5 c5 L6 A6 n6 c6 w) (hL : Left B g w w') : EntQ W B g k cs L2 A2 n2 c2 L5 A5 n5 c5 L6 A6 n6 c6 w' :=
  have a := h.arith
  ⟨h.1.trans hL, h.2.1.turn hL.2 (by omega), h.2.2.1.turn hL.2 (by omega), h.2.2.2.1.touch (S := fun b => b = g) ⟨hL.2.os, hL.2.tape, hL.2.output, hL.2.size, fun k hk hn => hL.2.block k hk hn⟩ (fun b hb e => by omega), h.2.2.2.2⟩
theorem EntQ.low (h : EntQ W B g k cs L2 A2 n2 c2 L5 A5 n5 c5 L6 A6 n6 c6 w) (hb : Below w.heap.size w w') : EntQ W B g k cs L2 A2 n2 c2 L5 A5 n5 c5 L6 A6 n6 c6 w' :=
  have a := h.arith
  ⟨h.1.low hb h.1.2.size (by omega), h.2.1.below hb, h.2.2.1.below hb, h.2.2.2.1.below hb, h.2.2.2.2⟩
theorem EntQ.put (h : EntQ W B g k cs L2 A2 n2 c2 L5 A5 n5 c5 L6 A6 n6 c6 w) (j : Nat) (v : Value) : EntQ W B g k (cs.set j v) L2 A2 n2 c2 L5 A5 n5 c5 L6 A6 n6 c6 (w.setCell ⟨k, j, none⟩ v) := by
  have a := h.arith
  refine ⟨h.1.low ((Below.refl W.heap.size w).setCell (p := ⟨k, j, none⟩) (by show W.heap.size ≤ k; omega) v) (Nat.le_refl _) a.2.1, ?_, ?_, h.2.2.2.1.touch ((Touch.refl (fun b => b = k) w).setCell (p := ⟨k, j, none⟩) rfl v) (fun b hb e => by omega), h.2.2.2.2⟩
  · exact ⟨h.2.1.1, h.2.1.2.1.far (by omega) v, fun i => by rw [World.frozen?_setCell]; exact h.2.1.2.2 i⟩
  · exact ⟨h.2.2.1.1, h.2.2.1.2.1.put j v, fun i => by rw [World.frozen?_setCell]; exact h.2.2.1.2.2 i⟩
theorem EntQ.own {L2x : List Dat} {A2x : Option Addr} {n2x c2x : Nat} {L5x : List Dat} {A5x : Option Addr} {n5x c5x : Nat} {L6x : List Dat} {A6x : Option Addr} {n6x c6x : Nat} (h : EntQ W B g k cs L2 A2 n2 c2 L5 A5 n5 c5 L6 A6 n6 c6 w) (ho : Own9 k L2x A2x n2x c2x L5x A5x n5x c5x L6x A6x n6x c6x w) (hs : Small9 L2x A2x n2x c2x L5x A5x n5x c5x L6x A6x n6x c6x) : EntQ W B g k cs L2x A2x n2x c2x L5x A5x n5x c5x L6x A6x n6x c6x w := ⟨h.1, h.2.1, h.2.2.1, ho, hs, h.2.2.2.2.2⟩
theorem EntQ.at_ (h : EntQ W B g k cs L2 A2 n2 c2 L5 A5 n5 c5 L6 A6 n6 c6 w) (j : Nat) (v : Value) (hv : cs[j]? = some v) : w.cell? ⟨k, j, none⟩ = some v := h.2.2.1.2.1.2 j v hv
theorem EntQ.fz (h : EntQ W B g k cs L2 A2 n2 c2 L5 A5 n5 c5 L6 A6 n6 c6 w) : ∀ j, w.frozen? ⟨k, j, none⟩ = false := h.2.2.1.2.2
theorem EntQ.res (h : EntQ W B g k cs L2 A2 n2 c2 L5 A5 n5 c5 L6 A6 n6 c6 w) : w.cell? ⟨W.heap.size, 0, none⟩ = some (.int .i64 0) ∧ w.cell? ⟨W.heap.size, 1, none⟩ = some (.int .i64 0) ∧ w.cell? ⟨W.heap.size, 2, none⟩ = some (.slice none 0 0) ∧ w.cell? ⟨W.heap.size, 3, none⟩ = some (.int .i64 0) ∧ w.cell? ⟨W.heap.size, 4, none⟩ = some (.int .i64 0) ∧ w.cell? ⟨W.heap.size, 5, none⟩ = some (.int .i64 0) ∧ w.cell? ⟨W.heap.size, 6, none⟩ = some (.slice none 0 0) ∧ w.cell? ⟨W.heap.size, 7, none⟩ = some (.slice none 0 0) ∧ w.cell? ⟨W.heap.size, 8, none⟩ = some (.int .i64 0) ∧ w.cell? ⟨W.heap.size, 9, none⟩ = some (.int .i64 0) ∧ w.cell? ⟨W.heap.size, 10, none⟩ = some (.int .i64 0) ∧ w.cell? ⟨W.heap.size, 11, none⟩ = some (.int .i64 0) ∧ ∀ j, w.frozen? ⟨W.heap.size, j, none⟩ = false :=
  ⟨h.2.1.2.1.2 0 _ rfl, h.2.1.2.1.2 1 _ rfl, h.2.1.2.1.2 2 _ rfl, h.2.1.2.1.2 3 _ rfl, h.2.1.2.1.2 4 _ rfl, h.2.1.2.1.2 5 _ rfl, h.2.1.2.1.2 6 _ rfl, h.2.1.2.1.2 7 _ rfl, h.2.1.2.1.2 8 _ rfl, h.2.1.2.1.2 9 _ rfl, h.2.1.2.1.2 10 _ rfl, h.2.1.2.1.2 11 _ rfl, h.2.1.2.2⟩
end
/-- An entity was drawn. -/
def AnyE (B g : Nat) (w : World) (e : Ending) (w' : World) : Prop :=
  ∃ (f0 : Int) (f1 : Int) (L2 : List Dat) (A2 : Option Addr) (n2 c2 : Nat) (f3 : Int) (f4_0 : Int) (f4_1 : Int) (L5 : List Dat) (A5 : Option Addr) (n5 c5 : Nat) (L6 : List Dat) (A6 : Option Addr) (n6 c6 : Nat) (f7 : Int) (f8 : Int) (f9 : Int) (f10 : Int), e = .returned (.agg #[.int .i64 f0, .int .i64 f1, .slice A2 n2 c2, .int .i64 f3, .int .i64 f4_0, .int .i64 f4_1, .slice A5 n5 c5, .slice A6 n6 c6, .int .i64 f7, .int .i64 f8, .int .i64 f9, .int .i64 f10]) ∧ Own9 w.heap.size L2 A2 n2 c2 L5 A5 n5 c5 L6 A6 n6 c6 w' ∧ Small9 L2 A2 n2 c2 L5 A5 n5 c5 L6 A6 n6 c6 ∧ Left B g w w'
end Go.Proofs.Ytfgijebgnkikpaa
