/- Chapter 12: a vat's lists, held apart. -/
import Derived.Test.YtmeacgpebpfpbaaHold
import Derived.LoopTactic
import Derived.Lib.Hide
import Derived.Deep.QuietTactic
import Derived.BigQuiet
import Derived.Deep.RegionWith
import Derived.Handy
namespace Go.Proofs.Ytmeacgpebpfpbaa
open Go.RowKit
set_option linter.unusedVariables false
set_option linter.unusedSimpArgs false
def VatX (P : Nat → Prop) (w : World) (L1 : List Dat) (A1 : Option Addr) (n1 c1 : Nat) (L2 : List Dat) (A2 : Option Addr) (n2 c2 : Nat) (L3 : List Dat) (A3 : Option Addr) (n3 c3 : Nat) (L4 : List Dat) (A4 : Option Addr) (n4 c4 : Nat) : Prop :=
  ∃ P1 P2 P3 P4 : Nat → Prop, (Hold 38 12 w A1 n1 c1 L1 P1 ∧ Hold 153 7 w A2 n2 c2 L2 P2 ∧ Hold 97 7 w A3 n3 c3 L3 P3 ∧ Hold 114 13 w A4 n4 c4 L4 P4) ∧ ((∀ b, P1 b → ¬ P2 b) ∧ (∀ b, P1 b → ¬ P3 b) ∧ (∀ b, P1 b → ¬ P4 b) ∧ (∀ b, P2 b → ¬ P3 b) ∧ (∀ b, P2 b → ¬ P4 b) ∧ (∀ b, P3 b → ¬ P4 b)) ∧ ((∀ b, P1 b → P b) ∧ (∀ b, P2 b → P b) ∧ (∀ b, P3 b → P b) ∧ (∀ b, P4 b → P b))
section
variable {P : Nat → Prop} {w w' : World} {L1 : List Dat} {A1 : Option Addr} {n1 c1 : Nat} {L2 : List Dat} {A2 : Option Addr} {n2 c2 : Nat} {L3 : List Dat} {A3 : Option Addr} {n3 c3 : Nat} {L4 : List Dat} {A4 : Option Addr} {n4 c4 : Nat}
theorem VatX.l1 (h : VatX P w L1 A1 n1 c1 L2 A2 n2 c2 L3 A3 n3 c3 L4 A4 n4 c4) : Lies w (.l L1) [.slice A1 n1 c1] := by
  obtain ⟨P1, P2, P3, P4, ⟨h1, h2, h3, h4⟩, -, -⟩ := h
  exact h1.lies
theorem VatX.l2 (h : VatX P w L1 A1 n1 c1 L2 A2 n2 c2 L3 A3 n3 c3 L4 A4 n4 c4) : Lies w (.l L2) [.slice A2 n2 c2] := by
  obtain ⟨P1, P2, P3, P4, ⟨h1, h2, h3, h4⟩, -, -⟩ := h
  exact h2.lies
theorem VatX.touch {S : Nat → Prop} (h : VatX P w L1 A1 n1 c1 L2 A2 n2 c2 L3 A3 n3 c3 L4 A4 n4 c4) (ht : Touch S w w') (hd : ∀ b, P b → ¬ S b) : VatX P w' L1 A1 n1 c1 L2 A2 n2 c2 L3 A3 n3 c3 L4 A4 n4 c4 := by
  obtain ⟨P1, P2, P3, P4, ⟨h1, h2, h3, h4⟩, d, ⟨u1, u2, u3, u4⟩⟩ := h
  exact ⟨P1, P2, P3, P4, ⟨h1.touch ht (fun b hb => hd b (u1 b hb)), h2.touch ht (fun b hb => hd b (u2 b hb)), h3.touch ht (fun b hb => hd b (u3 b hb)), h4.touch ht (fun b hb => hd b (u4 b hb))⟩, d, ⟨u1, u2, u3, u4⟩⟩
theorem VatX.below (h : VatX P w L1 A1 n1 c1 L2 A2 n2 c2 L3 A3 n3 c3 L4 A4 n4 c4) (hb : Below w.heap.size w w') : VatX P w' L1 A1 n1 c1 L2 A2 n2 c2 L3 A3 n3 c3 L4 A4 n4 c4 := h.touch (S := fun _ => False) (Touch.of_below hb) (fun _ _ h => h)
theorem VatX.mono {P' : Nat → Prop} (h : VatX P w L1 A1 n1 c1 L2 A2 n2 c2 L3 A3 n3 c3 L4 A4 n4 c4) (hP : ∀ b, P b → P' b) : VatX P' w L1 A1 n1 c1 L2 A2 n2 c2 L3 A3 n3 c3 L4 A4 n4 c4 := by
  obtain ⟨P1, P2, P3, P4, hh, d, ⟨u1, u2, u3, u4⟩⟩ := h
  exact ⟨P1, P2, P3, P4, hh, d, ⟨fun b hb => hP b (u1 b hb), fun b hb => hP b (u2 b hb), fun b hb => hP b (u3 b hb), fun b hb => hP b (u4 b hb)⟩⟩
theorem VatX.cut (h : VatX P w L1 A1 n1 c1 L2 A2 n2 c2 L3 A3 n3 c3 L4 A4 n4 c4) : VatX (fun b => P b ∧ b < w.heap.size) w L1 A1 n1 c1 L2 A2 n2 c2 L3 A3 n3 c3 L4 A4 n4 c4 := by
  obtain ⟨P1, P2, P3, P4, ⟨h1, h2, h3, h4⟩, ⟨d12, d13, d14, d23, d24, d34⟩, ⟨u1, u2, u3, u4⟩⟩ := h
  exact ⟨_, _, _, _, ⟨h1.cut, h2.cut, h3.cut, h4.cut⟩, ⟨fun b ha hb => d12 b ha.1 hb.1, fun b ha hb => d13 b ha.1 hb.1, fun b ha hb => d14 b ha.1 hb.1, fun b ha hb => d23 b ha.1 hb.1, fun b ha hb => d24 b ha.1 hb.1, fun b ha hb => d34 b ha.1 hb.1⟩, ⟨fun b hb => ⟨u1 b hb.1, hb.2⟩, fun b hb => ⟨u2 b hb.1, hb.2⟩, fun b hb => ⟨u3 b hb.1, hb.2⟩, fun b hb => ⟨u4 b hb.1, hb.2⟩⟩⟩
theorem VatX.rng {lo : Nat} (h : VatX (fun b => lo ≤ b) w L1 A1 n1 c1 L2 A2 n2 c2 L3 A3 n3 c3 L4 A4 n4 c4) : VatX (rng lo w.heap.size) w L1 A1 n1 c1 L2 A2 n2 c2 L3 A3 n3 c3 L4 A4 n4 c4 := h.cut.mono (fun b hb => hb)
theorem VatX.grow1 {q : Nat} (h : VatX P w L1 A1 n1 c1 L2 A2 n2 c2 L3 A3 n3 c3 L4 A4 n4 c4) (hP : ∀ b, P b → b < q) : ∃ B, Grow 38 12 0 w A1 n1 c1 L1 B ∧ (∀ b, B b → P b) ∧ (∀ a, A1 = some a → P a.block) ∧
    ∀ (w' : World) (A' : Option Addr) (n' c' : Nat) (L' : List Dat) (B2 : Nat → Prop), Grow 38 12 0 w' A' n' c' L' (fun b => B b ∨ B2 b) → Touch (fun b => ∃ a, A1 = some a ∧ b = a.block) w w' → (∀ a, A' = some a → A1 = some a ∨ w.heap.size ≤ a.block) → q ≤ w.heap.size → (∀ b, B2 b → q ≤ b) → VatX (fun b => P b ∨ q ≤ b) w' L' A' n' c' L2 A2 n2 c2 L3 A3 n3 c3 L4 A4 n4 c4 := by
  obtain ⟨P1, P2, P3, P4, ⟨h1, h2, h3, h4⟩, ⟨d12, d13, d14, d23, d24, d34⟩, ⟨u1, u2, u3, u4⟩⟩ := h
  have HX1 : ∀ a, A1 = some a → P1 a.block := fun a e => (h1.blk a e).1
  obtain ⟨B, hg, hA1, hB1⟩ := h1
  refine ⟨B, hg, fun b hb => u1 b (hB1 b hb), fun a e => u1 _ (hA1 a e), fun w' A' n' c' L' B2 hG hT hA' hq hQ2 => ?_⟩
  exact ⟨(fun b => P1 b ∨ q ≤ b), P2, P3, P4, ⟨Hold.grown hG hA1 hB1 hA' hq hQ2, h2.touch hT (fun b hb ⟨a, e, hb2⟩ => d12 b (by rw [hb2]; exact (HX1 a e)) hb), h3.touch hT (fun b hb ⟨a, e, hb2⟩ => d13 b (by rw [hb2]; exact (HX1 a e)) hb), h4.touch hT (fun b hb ⟨a, e, hb2⟩ => d14 b (by rw [hb2]; exact (HX1 a e)) hb)⟩, ⟨fun b ha hb => by
      rcases ha with ha | ha
      · exact d12 b ha hb
      · exact Nat.lt_irrefl _ (Nat.lt_of_le_of_lt ha (hP b (u2 b hb))), fun b ha hb => by
      rcases ha with ha | ha
      · exact d13 b ha hb
      · exact Nat.lt_irrefl _ (Nat.lt_of_le_of_lt ha (hP b (u3 b hb))), fun b ha hb => by
      rcases ha with ha | ha
      · exact d14 b ha hb
      · exact Nat.lt_irrefl _ (Nat.lt_of_le_of_lt ha (hP b (u4 b hb))), d23, d24, d34⟩, ⟨fun b hb => hb.elim (fun h => Or.inl (u1 b h)) Or.inr, fun b hb => Or.inl (u2 b hb), fun b hb => Or.inl (u3 b hb), fun b hb => Or.inl (u4 b hb)⟩⟩
theorem VatX.app1 (h : VatX P w L1 A1 n1 c1 L2 A2 n2 c2 L3 A3 n3 c3 L4 A4 n4 c4) {w1 : World} (hb : Below w.heap.size w w1) : ∃ B, Grow 38 12 0 w1 A1 n1 c1 L1 B ∧ (∀ b, B b → P b ∧ b < w.heap.size) ∧ (∀ a, A1 = some a → P a.block ∧ a.block < w.heap.size) ∧
    ∀ (w' : World) (A' : Option Addr) (n' c' : Nat) (L' : List Dat) (B2 : Nat → Prop), Grow 38 12 0 w' A' n' c' L' (fun b => B b ∨ B2 b) → Touch (fun b => ∃ a, A1 = some a ∧ b = a.block) w1 w' → (∀ a, A' = some a → A1 = some a ∨ w1.heap.size ≤ a.block) → (∀ b, B2 b → w.heap.size ≤ b) → VatX (fun b => P b ∨ w.heap.size ≤ b) w' L' A' n' c' L2 A2 n2 c2 L3 A3 n3 c3 L4 A4 n4 c4 := by
  obtain ⟨B, h1, h2, h3, h4⟩ := ((h.cut).below hb).grow1 (q := w.heap.size) (fun b hb => hb.2)
  exact ⟨B, h1, h2, h3, fun w' A' n' c' L' B2 g1 g2 g3 g4 => (h4 w' A' n' c' L' B2 g1 g2 g3 hb.size g4).mono (fun b hb => hb.imp (fun h => h.1) id)⟩
theorem VatX.grow3 {q : Nat} (h : VatX P w L1 A1 n1 c1 L2 A2 n2 c2 L3 A3 n3 c3 L4 A4 n4 c4) (hP : ∀ b, P b → b < q) : ∃ B, Grow 97 7 0 w A3 n3 c3 L3 B ∧ (∀ b, B b → P b) ∧ (∀ a, A3 = some a → P a.block) ∧
    ∀ (w' : World) (A' : Option Addr) (n' c' : Nat) (L' : List Dat) (B2 : Nat → Prop), Grow 97 7 0 w' A' n' c' L' (fun b => B b ∨ B2 b) → Touch (fun b => ∃ a, A3 = some a ∧ b = a.block) w w' → (∀ a, A' = some a → A3 = some a ∨ w.heap.size ≤ a.block) → q ≤ w.heap.size → (∀ b, B2 b → q ≤ b) → VatX (fun b => P b ∨ q ≤ b) w' L1 A1 n1 c1 L2 A2 n2 c2 L' A' n' c' L4 A4 n4 c4 := by
  obtain ⟨P1, P2, P3, P4, ⟨h1, h2, h3, h4⟩, ⟨d12, d13, d14, d23, d24, d34⟩, ⟨u1, u2, u3, u4⟩⟩ := h
  have HX3 : ∀ a, A3 = some a → P3 a.block := fun a e => (h3.blk a e).1
  obtain ⟨B, hg, hA3, hB3⟩ := h3
  refine ⟨B, hg, fun b hb => u3 b (hB3 b hb), fun a e => u3 _ (hA3 a e), fun w' A' n' c' L' B2 hG hT hA' hq hQ2 => ?_⟩
  exact ⟨P1, P2, (fun b => P3 b ∨ q ≤ b), P4, ⟨h1.touch hT (fun b hb ⟨a, e, hb2⟩ => d13 b hb (by rw [hb2]; exact (HX3 a e))), h2.touch hT (fun b hb ⟨a, e, hb2⟩ => d23 b hb (by rw [hb2]; exact (HX3 a e))), Hold.grown hG hA3 hB3 hA' hq hQ2, h4.touch hT (fun b hb ⟨a, e, hb2⟩ => d34 b (by rw [hb2]; exact (HX3 a e)) hb)⟩, ⟨d12, fun b ha hb => by
      rcases hb with hb | hb
      · exact d13 b ha hb
      · exact Nat.lt_irrefl _ (Nat.lt_of_le_of_lt hb (hP b (u1 b ha))), d14, fun b ha hb => by
      rcases hb with hb | hb
      · exact d23 b ha hb
      · exact Nat.lt_irrefl _ (Nat.lt_of_le_of_lt hb (hP b (u2 b ha))), d24, fun b ha hb => by
      rcases ha with ha | ha
      · exact d34 b ha hb
      · exact Nat.lt_irrefl _ (Nat.lt_of_le_of_lt ha (hP b (u4 b hb)))⟩, ⟨fun b hb => Or.inl (u1 b hb), fun b hb => Or.inl (u2 b hb), fun b hb => hb.elim (fun h => Or.inl (u3 b h)) Or.inr, fun b hb => Or.inl (u4 b hb)⟩⟩
theorem VatX.app3 (h : VatX P w L1 A1 n1 c1 L2 A2 n2 c2 L3 A3 n3 c3 L4 A4 n4 c4) {w1 : World} (hb : Below w.heap.size w w1) : ∃ B, Grow 97 7 0 w1 A3 n3 c3 L3 B ∧ (∀ b, B b → P b ∧ b < w.heap.size) ∧ (∀ a, A3 = some a → P a.block ∧ a.block < w.heap.size) ∧
    ∀ (w' : World) (A' : Option Addr) (n' c' : Nat) (L' : List Dat) (B2 : Nat → Prop), Grow 97 7 0 w' A' n' c' L' (fun b => B b ∨ B2 b) → Touch (fun b => ∃ a, A3 = some a ∧ b = a.block) w1 w' → (∀ a, A' = some a → A3 = some a ∨ w1.heap.size ≤ a.block) → (∀ b, B2 b → w.heap.size ≤ b) → VatX (fun b => P b ∨ w.heap.size ≤ b) w' L1 A1 n1 c1 L2 A2 n2 c2 L' A' n' c' L4 A4 n4 c4 := by
  obtain ⟨B, h1, h2, h3, h4⟩ := ((h.cut).below hb).grow3 (q := w.heap.size) (fun b hb => hb.2)
  exact ⟨B, h1, h2, h3, fun w' A' n' c' L' B2 g1 g2 g3 g4 => (h4 w' A' n' c' L' B2 g1 g2 g3 hb.size g4).mono (fun b hb => hb.imp (fun h => h.1) id)⟩
theorem VatX.grow4 {q : Nat} (h : VatX P w L1 A1 n1 c1 L2 A2 n2 c2 L3 A3 n3 c3 L4 A4 n4 c4) (hP : ∀ b, P b → b < q) : ∃ B, Grow 114 13 0 w A4 n4 c4 L4 B ∧ (∀ b, B b → P b) ∧ (∀ a, A4 = some a → P a.block) ∧
    ∀ (w' : World) (A' : Option Addr) (n' c' : Nat) (L' : List Dat) (B2 : Nat → Prop), Grow 114 13 0 w' A' n' c' L' (fun b => B b ∨ B2 b) → Touch (fun b => ∃ a, A4 = some a ∧ b = a.block) w w' → (∀ a, A' = some a → A4 = some a ∨ w.heap.size ≤ a.block) → q ≤ w.heap.size → (∀ b, B2 b → q ≤ b) → VatX (fun b => P b ∨ q ≤ b) w' L1 A1 n1 c1 L2 A2 n2 c2 L3 A3 n3 c3 L' A' n' c' := by
  obtain ⟨P1, P2, P3, P4, ⟨h1, h2, h3, h4⟩, ⟨d12, d13, d14, d23, d24, d34⟩, ⟨u1, u2, u3, u4⟩⟩ := h
  have HX4 : ∀ a, A4 = some a → P4 a.block := fun a e => (h4.blk a e).1
  obtain ⟨B, hg, hA4, hB4⟩ := h4
  refine ⟨B, hg, fun b hb => u4 b (hB4 b hb), fun a e => u4 _ (hA4 a e), fun w' A' n' c' L' B2 hG hT hA' hq hQ2 => ?_⟩
  exact ⟨P1, P2, P3, (fun b => P4 b ∨ q ≤ b), ⟨h1.touch hT (fun b hb ⟨a, e, hb2⟩ => d14 b hb (by rw [hb2]; exact (HX4 a e))), h2.touch hT (fun b hb ⟨a, e, hb2⟩ => d24 b hb (by rw [hb2]; exact (HX4 a e))), h3.touch hT (fun b hb ⟨a, e, hb2⟩ => d34 b hb (by rw [hb2]; exact (HX4 a e))), Hold.grown hG hA4 hB4 hA' hq hQ2⟩, ⟨d12, d13, fun b ha hb => by
      rcases hb with hb | hb
      · exact d14 b ha hb
      · exact Nat.lt_irrefl _ (Nat.lt_of_le_of_lt hb (hP b (u1 b ha))), d23, fun b ha hb => by
      rcases hb with hb | hb
      · exact d24 b ha hb
      · exact Nat.lt_irrefl _ (Nat.lt_of_le_of_lt hb (hP b (u2 b ha))), fun b ha hb => by
      rcases hb with hb | hb
      · exact d34 b ha hb
      · exact Nat.lt_irrefl _ (Nat.lt_of_le_of_lt hb (hP b (u3 b ha)))⟩, ⟨fun b hb => Or.inl (u1 b hb), fun b hb => Or.inl (u2 b hb), fun b hb => Or.inl (u3 b hb), fun b hb => hb.elim (fun h => Or.inl (u4 b h)) Or.inr⟩⟩
theorem VatX.app4 (h : VatX P w L1 A1 n1 c1 L2 A2 n2 c2 L3 A3 n3 c3 L4 A4 n4 c4) {w1 : World} (hb : Below w.heap.size w w1) : ∃ B, Grow 114 13 0 w1 A4 n4 c4 L4 B ∧ (∀ b, B b → P b ∧ b < w.heap.size) ∧ (∀ a, A4 = some a → P a.block ∧ a.block < w.heap.size) ∧
    ∀ (w' : World) (A' : Option Addr) (n' c' : Nat) (L' : List Dat) (B2 : Nat → Prop), Grow 114 13 0 w' A' n' c' L' (fun b => B b ∨ B2 b) → Touch (fun b => ∃ a, A4 = some a ∧ b = a.block) w1 w' → (∀ a, A' = some a → A4 = some a ∨ w1.heap.size ≤ a.block) → (∀ b, B2 b → w.heap.size ≤ b) → VatX (fun b => P b ∨ w.heap.size ≤ b) w' L1 A1 n1 c1 L2 A2 n2 c2 L3 A3 n3 c3 L' A' n' c' := by
  obtain ⟨B, h1, h2, h3, h4⟩ := ((h.cut).below hb).grow4 (q := w.heap.size) (fun b hb => hb.2)
  exact ⟨B, h1, h2, h3, fun w' A' n' c' L' B2 g1 g2 g3 g4 => (h4 w' A' n' c' L' B2 g1 g2 g3 hb.size g4).mono (fun b hb => hb.imp (fun h => h.1) id)⟩
end
def GivesVt (f0 : Int) (L1 : List Dat) (n1 : Nat) (L2 : List Dat) (n2 : Nat) (L3 : List Dat) (n3 : Nat) (L4 : List Dat) (n4 : Nat) (w : World) (e : Ending) (w' : World) : Prop := ∃ (B1 : Option Addr) (k1 : Nat) (B2 : Option Addr) (k2 : Nat) (B3 : Option Addr) (k3 : Nat) (B4 : Option Addr) (k4 : Nat), e = .returned (.agg #[.int .i64 f0, .slice B1 n1 k1, .slice B2 n2 k2, .slice B3 n3 k3, .slice B4 n4 k4]) ∧ VatX (rng w.heap.size w'.heap.size) w' L1 B1 n1 k1 L2 B2 n2 k2 L3 B3 n3 k3 L4 B4 n4 k4 ∧ Below w.heap.size w w'
def GivesVtI (f0 : Int) (L1 : List Dat) (n1 : Nat) (L2 : List Dat) (n2 : Nat) (L3 : List Dat) (n3 : Nat) (L4 : List Dat) (n4 : Nat) (v : Int) (w : World) (e : Ending) (w' : World) : Prop := ∃ (B1 : Option Addr) (k1 : Nat) (B2 : Option Addr) (k2 : Nat) (B3 : Option Addr) (k3 : Nat) (B4 : Option Addr) (k4 : Nat), e = .returned (.tuple #[.agg #[.int .i64 f0, .slice B1 n1 k1, .slice B2 n2 k2, .slice B3 n3 k3, .slice B4 n4 k4], .int .i64 v]) ∧ VatX (rng w.heap.size w'.heap.size) w' L1 B1 n1 k1 L2 B2 n2 k2 L3 B3 n3 k3 L4 B4 n4 k4 ∧ Below w.heap.size w w'
end Go.Proofs.Ytmeacgpebpfpbaa
