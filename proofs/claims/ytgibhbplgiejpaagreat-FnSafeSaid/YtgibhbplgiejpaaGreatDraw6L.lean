/- Draws of chapter 6: l6Library, l6Copy. -/
import Derived.Test.YtgibhbplgiejpaaGreatDraw6A
namespace Go.Proofs.YtgibhbplgiejpaaGreat
open Go.RowKit
set_option linter.unusedVariables false
set_option linter.unusedSimpArgs false
def ScrD (d : Dat) : Prop := Has tyScript d ∧ d.bulk ≤ 2000
theorem scr_d {nm : ByteArray} {L : List Dat} (hn : nm.size ≤ 8) (h : MethsOk 6 L) : ScrD (.r [.s nm, .l L]) := by
  have h1 := bulk_sum (fun x hx => (h.2 x hx).2)
  have h2 := h.1
  refine ⟨?_, by simp only [Dat.bulk, bulkAll]; omega⟩
  simp only [tyScript, Has, HasAll]
  exact ⟨_, rfl, _, _, rfl, ⟨nm, rfl, by omega⟩, _, _, rfl, ⟨L, rfl, by omega, fun x hx => (h.2 x hx).1⟩, rfl⟩
def ScrsOk (m : Nat) (L : List Dat) : Prop := L.length ≤ m ∧ ∀ x ∈ L, ScrD x
theorem ScrsOk.more {m m' : Nat} {L : List Dat} (h : ScrsOk m L) (hm : m ≤ m') : ScrsOk m' L := ⟨Nat.le_trans h.1 hm, h.2⟩
theorem ScrsOk.add {m k : Nat} {L M : List Dat} (h : ScrsOk m L) (hM : ScrsOk k M) : ScrsOk (m + k) (L ++ M) := by
  refine ⟨by have := h.1; have := hM.1; simp; omega, fun x hx => ?_⟩
  rcases List.mem_append.1 hx with hx | hx
  · exact h.2 x hx
  · exact hM.2 x hx
theorem ScrsOk.one {d : Dat} (hd : ScrD d) : ScrsOk 1 [d] := ⟨Nat.le_refl _, fun x hx => by rw [List.mem_singleton.1 hx]; exact hd⟩
theorem ScrsOk.bulk {m : Nat} {L : List Dat} (h : ScrsOk m L) (hm : m ≤ 100) : (Dat.l L).bulk ≤ 1048576 := by
  have h1 := bulk_sum (fun x hx => (h.2 x hx).2)
  have h2 := h.1
  simp only [Dat.bulk]
  omega
/-- A literal of owned records, as a slice that may grow. -/
theorem Grow.lit {E : TypeId} {k lo m : Nat} {w : World} {L : List Dat} {B : Nat → Prop} (C : Array Value) (ho : OwnsAll w L C.toList B) (hL : L.length = m) (hk : ∀ x ∈ L, x.width = k) (hB : ∀ b, B b → b < w.heap.size) (hlo : lo ≤ w.heap.size) (hm : m ≤ 1000) :
    Grow E k lo (w.alloc (.cells C E)) (some ⟨w.heap.size, 0, none⟩) m m L B := by
  have hb : Below w.heap.size w (w.alloc (.cells C E)) := (Below.refl _ _).alloc (Nat.le_refl _) _
  have hC : C.toList.length = m * k := by rw [ho.lies.len, widthAll_of hk, hL]
  refine ⟨C.toList, ⟨hC, Or.inr ⟨w.heap.size, m, C, rfl, hlo, ?_, Nat.le_refl _, by unfold maxLen; omega, by simpa using hC, List.take_of_length_le (by omega)⟩⟩, ho.same (fun b hb2 hlt => hb.block b hlt), hL, hk, fun a e => ?_, fun b hb2 => Nat.lt_of_lt_of_le (hB b hb2) hb.size⟩
  · show (w.heap.push _)[w.heap.size]? = _
    simp
  · obtain rfl := Option.some.inj e
    exact ⟨fun h => by have := hB _ h; simp at this, by simp⟩
/-- A list of scripts was drawn: it may grow on. -/
def DrewL (Bc g m : Nat) (w : World) (e : Ending) (w' : World) : Prop := ∃ (A : Option Addr) (n c : Nat) (L : List Dat) (Bs : Nat → Prop), e = .returned (.slice A n c) ∧ Grow 37 2 w.heap.size w' A n c L Bs ∧ (∀ b, Bs b → w.heap.size ≤ b) ∧ ScrsOk m L ∧ Left Bc g w w'
theorem ownScr {E : TypeId} {lo : Nat} {w : World} {A : Option Addr} {n c : Nat} {L : List Dat} {Bs : Nat → Prop} {nm : ByteArray} (h : Grow E 2 lo w A n c L Bs) : Owns w (.r [.s nm, .l L]) [.string nm, .slice A n c] (fun b => (∃ a, A = some a ∧ b = a.block) ∨ Bs b) := ownScript h.owns
theorem ScrOk.d {m : Nat} {nm nm' : ByteArray} {L : List Dat} (h : ScrOk m nm nm' L) (hm : m ≤ 6) (hn : nm.size ≤ 8) : ScrD (.r [.s nm', .l L]) := scr_d (by rw [h.1]; exact hn) (h.2.more hm)
theorem AnyScr.d {nm : ByteArray} {L : List Dat} (h : AnyScr nm L) : ScrD (.r [.s nm, .l L]) := scr_d h.1 h.2
/-- What was drawn into blocks from lo on stays while the cursor turns. -/
theorem Owns.left {Bc g lo : Nat} {w w' : World} {d : Dat} {cs : List Value} {B : Nat → Prop} (h : Owns w d cs B) (hL : Left Bc g w w') (hB : ∀ b, B b → lo ≤ b) (hg : g < lo) : Owns w' d cs B := h.touch (Touch.of_turn hL.2) (fun b hb e => by have := hB b hb; omega)
end Go.Proofs.YtgibhbplgiejpaaGreat
