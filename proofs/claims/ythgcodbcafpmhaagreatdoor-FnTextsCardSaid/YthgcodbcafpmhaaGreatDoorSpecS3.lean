/- The reference's chapter 6: a method's copy. -/
import Derived.Test.YthgcodbcafpmhaaGreatDoorSpecSA
import Derived.Test.YthgcodbcafpmhaaGreatDoorAppD
import Derived.Deep.RegionHeld3
namespace Go.Proofs.YthgcodbcafpmhaaGreatDoor
open Go.RowKit
set_option linter.unusedVariables false
set_option linter.unusedSimpArgs false
theorem Grow.lit0 (E : TypeId) (k : Nat) (w : World) : Grow E k w.heap.size (w.alloc (.cells #[] E)).drew (some ⟨w.heap.size, 0, none⟩) 0 0 [] (fun _ => False) := by
  refine ⟨[], ⟨by simp, Or.inr ⟨w.heap.size, 0, #[], rfl, Nat.le_refl _, ?_, Nat.le_refl _, Nat.zero_le _, by simp, by simp⟩⟩, (by rw [OwnsAll]), rfl, (fun x hx => by cases hx), (fun a e => ⟨fun h => h, ?_⟩), (fun b hb => hb.elim)⟩
  · show (w.heap.push _)[w.heap.size]? = _
    simp
  · obtain rfl := Option.some.inj e
    simp
/-- The argument's box and the result's. -/
def St2 (W : World) (nm : ByteArray) (A : Option Addr) (n c : Nat) (w : World) : Prop := Box W.heap.size [.string nm, .slice A n c] w ∧ Zb W.heap.size (W.heap.size + 1) [.string ⟨#[]⟩, .slice none 0 0] w ∧ Below W.heap.size W w
section
variable {W w w' : World} {nm : ByteArray} {A : Option Addr} {n c : Nat}
theorem St2.below (h : St2 W nm A n c w) (hb : Below w.heap.size w w') : St2 W nm A n c w' := ⟨h.1.below hb, h.2.1.below hb, h.2.2.trans (hb.mono h.2.2.size)⟩
theorem St2.touch {S : Nat → Prop} (h : St2 W nm A n c w) (ht : Touch S w w') (hS : ∀ b, S b → W.heap.size + 2 ≤ b) (hs : W.heap.size + 2 ≤ w.heap.size) : St2 W nm A n c w' := by
  have hb : Below (W.heap.size + 2) w w' := ht.below hS hs
  refine ⟨⟨Nat.lt_of_lt_of_le h.1.1 ht.size, fun i v hv => ?_⟩, ⟨h.2.1.1, ⟨Nat.lt_of_lt_of_le h.2.1.2.1.1 ht.size, fun i v hv => ?_⟩, fun j => ?_⟩, h.2.2.trans (hb.mono (by omega))⟩
  · exact (hb.cell (p := ⟨W.heap.size, i, none⟩) (by show W.heap.size < _; omega)).trans (h.1.2 i v hv)
  · exact (hb.cell (p := ⟨W.heap.size + 1, i, none⟩) (by show W.heap.size + 1 < _; omega)).trans (h.2.1.2.1.2 i v hv)
  · exact (hb.frozen (p := ⟨W.heap.size + 1, j, none⟩) (by show W.heap.size + 1 < _; omega)).trans (h.2.1.2.2 j)
theorem St2.cells (h : St2 W nm A n c w) : (w.cell? ⟨W.heap.size, 0, none⟩ = some (.string nm) ∧ w.cell? ⟨W.heap.size, 1, none⟩ = some (.slice A n c)) ∧ (w.cell? ⟨W.heap.size + 1, 0, none⟩ = some (.string ⟨#[]⟩) ∧ w.cell? ⟨W.heap.size + 1, 1, none⟩ = some (.slice none 0 0)) ∧ (w.frozen? ⟨W.heap.size + 1, 0, none⟩ = false ∧ w.frozen? ⟨W.heap.size + 1, 1, none⟩ = false) :=
  ⟨⟨h.1.2 0 _ rfl, h.1.2 1 _ rfl⟩, ⟨h.2.1.2.1.2 0 _ rfl, h.2.1.2.1.2 1 _ rfl⟩, h.2.1.2.2 0, h.2.1.2.2 1⟩
end
/-- A method comes back, its code owned. -/
def GivesM (nm : ByteArray) (L : List Dat) (w : World) (e : Ending) (w' : World) : Prop := ∃ A n c, e = .returned (.agg #[.string nm, .slice A n c]) ∧ Owns w' (.l L) [.slice A n c] (fun b => w.heap.size ≤ b ∧ b < w'.heap.size) ∧ Below w.heap.size w w'
theorem GivesM.mk_ {W w8 : World} {nm : ByteArray} {A A8 : Option Addr} {n c m c8 : Nat} {E : TypeId} {L : List Dat} (h : St2 W nm A n c w8) (G : Grow E 6 (W.heap.size + 1 + 1) w8 A8 (0 + m) c8 ([] ++ L) (fun _ => False ∨ False)) (hs : W.heap.size ≤ w8.heap.size) (u v : Value) : GivesM nm L W (.returned (.agg #[.string nm, .slice A8 m c8])) ((w8.setCell ⟨W.heap.size + 1, 0, none⟩ u).setCell ⟨W.heap.size + 1, 1, none⟩ v) := by
  rw [Nat.zero_add, List.nil_append] at G
  have hlo : ∀ a, A8 = some a → W.heap.size + 2 ≤ a.block ∧ a.block < w8.heap.size := fun a e => by
    subst e
    have := G.own a.block (by simp [Value.ownBlock])
    exact ⟨this.1, this.2.1⟩
  have ht : Touch (fun b => b = W.heap.size + 1) w8 ((w8.setCell ⟨W.heap.size + 1, 0, none⟩ u).setCell ⟨W.heap.size + 1, 1, none⟩ v) := ((Touch.refl (fun b => b = W.heap.size + 1) w8).setCell (p := ⟨W.heap.size + 1, 0, none⟩) rfl u).setCell (p := ⟨W.heap.size + 1, 1, none⟩) rfl v
  refine ⟨A8, m, c8, rfl, (G.owns.same fun b hb hlt => ht.block b hlt ?_).mono ?_, h.2.2.trans (ht.below (fun b e => by subst e; omega) hs)⟩
  · rcases hb with ⟨a, e, rfl⟩ | hb | hb
    · have := (hlo a e).1
      show ¬ _ = _
      omega
    · exact hb.elim
    · exact hb.elim
  · intro b hb
    rcases hb with ⟨a, e, rfl⟩ | hb | hb
    · have := hlo a e
      have := ht.size
      omega
    · exact hb.elim
    · exact hb.elim
theorem flatInstr {d : Dat} (h : Has tyInstr d) : d.flat = true := by
  simp only [tyInstr, Has, HasAll] at h
  obtain ⟨ds, rfl, d0, _, rfl, ⟨f0, rfl, -, -⟩, d1, _, rfl, ⟨f1, rfl, -, -⟩, d2, _, rfl, ⟨f2, rfl, -, -⟩, d3, _, rfl, ⟨f3, rfl, -, -⟩, d4, _, rfl, ⟨f4, rfl, -, -⟩, d5, _, rfl, ⟨f5, rfl, -⟩, rfl⟩ := h
  rfl
end Go.Proofs.YthgcodbcafpmhaaGreatDoor
