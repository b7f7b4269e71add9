/- Of no program: slices that the call holds. -/
import Derived.Test.YtmeacgpebpfpbaaCom
import Derived.LoopTactic
import Derived.Lib.Hide
import Derived.Deep.QuietTactic
import Derived.BigQuiet
import Derived.Deep.RegionWith
import Derived.Handy
namespace Go.Proofs.Ytmeacgpebpfpbaa
open Go.RowKit
set_option linter.unusedVariables false
set_option linter.unusedSimpArgs false
def Hold (E : TypeId) (k : Nat) (w : World) (A : Option Addr) (n c : Nat) (L : List Dat) (P : Nat → Prop) : Prop :=
  ∃ B, Grow E k 0 w A n c L B ∧ (∀ a, A = some a → P a.block) ∧ ∀ b, B b → P b
section
variable {E : TypeId} {k : Nat} {w w' : World} {A : Option Addr} {n c : Nat} {L : List Dat} {P : Nat → Prop}
theorem Hold.owns (h : Hold E k w A n c L P) : Owns w (.l L) [.slice A n c] P := by
  obtain ⟨B, h1, h2, h3⟩ := h
  exact h1.owns.mono (fun b hb => by
    rcases hb with ⟨a, e, rfl⟩ | hb
    · exact h2 a e
    · exact h3 b hb)
theorem Hold.lies (h : Hold E k w A n c L P) : Lies w (.l L) [.slice A n c] := h.owns.lies
theorem Hold.touch {S : Nat → Prop} (h : Hold E k w A n c L P) (ht : Touch S w w') (hd : ∀ b, P b → ¬ S b) : Hold E k w' A n c L P := by
  obtain ⟨B, h1, h2, h3⟩ := h
  exact ⟨B, h1.touch ht (fun a e => hd _ (h2 a e)) (fun b hb => hd _ (h3 b hb)), h2, h3⟩
theorem Hold.below (h : Hold E k w A n c L P) (hb : Below w.heap.size w w') : Hold E k w' A n c L P := h.touch (S := fun _ => False) (Touch.of_below hb) (fun _ _ h => h)
theorem Hold.mono {P' : Nat → Prop} (h : Hold E k w A n c L P) (hP : ∀ b, P b → P' b) : Hold E k w A n c L P' := by
  obtain ⟨B, h1, h2, h3⟩ := h
  exact ⟨B, h1, fun a e => hP _ (h2 a e), fun b hb => hP _ (h3 b hb)⟩
theorem Hold.cut (h : Hold E k w A n c L P) : Hold E k w A n c L (fun b => P b ∧ b < w.heap.size) := by
  obtain ⟨B, h1, h2, h3⟩ := h
  refine ⟨B, h1, fun a e => ⟨h2 a e, (h1.blkF a e).2⟩, fun b hb => ⟨h3 b hb, ?_⟩⟩
  obtain ⟨xs, g1, g2, g3, g4, g5, g6⟩ := h1
  exact g6 b hb
theorem Hold.nil (E : TypeId) (k : Nat) (w : World) (P : Nat → Prop) : Hold E k w none 0 0 [] P := ⟨_, Grow.nil E k 0 w, fun a e => (by cases e), fun b h => h.elim⟩
theorem Hold.of_grow {lo : Nat} {B : Nat → Prop} (h : Grow E k lo w A n c L B) (hA : ∀ b, lo ≤ b → b < w.heap.size → P b) (hB : ∀ b, B b → P b) : Hold E k w A n c L P :=
  ⟨B, h.moreF (fun a e => Nat.zero_le _), fun a e => hA _ (h.blkF a e).1 (h.blkF a e).2, hB⟩
theorem Hold.lit (E : TypeId) (k : Nat) (w : World) : Hold E k (w.alloc (.cells #[] E)) (some ⟨w.heap.size, 0, none⟩) 0 0 [] (fun b => w.heap.size ≤ b) :=
  Hold.of_grow (Grow.lit9 E k w) (fun b h _ => h) (fun b h => h.elim)
theorem Hold.blk (h : Hold E k w A n c L P) : ∀ a, A = some a → P a.block ∧ a.block < w.heap.size := by
  obtain ⟨B, h1, h2, h3⟩ := h
  exact fun a e => ⟨h2 a e, (h1.blkF a e).2⟩
theorem Hold.grown {w0 : World} {B B2 : Nat → Prop} {A' : Option Addr} {n' c' q : Nat} {L' : List Dat} (hG : Grow E k 0 w' A' n' c' L' (fun b => B b ∨ B2 b)) (hA : ∀ a, A = some a → P a.block) (hB : ∀ b, B b → P b) (hA' : ∀ a, A' = some a → A = some a ∨ w0.heap.size ≤ a.block) (hq : q ≤ w0.heap.size) (hQ2 : ∀ b, B2 b → q ≤ b) : Hold E k w' A' n' c' L' (fun b => P b ∨ q ≤ b) :=
  ⟨_, hG, fun a e => by
    rcases hA' a e with h | h
    · exact Or.inl (hA a h)
    · exact Or.inr (Nat.le_trans hq h), fun b hb => by
    rcases hb with hb | hb
    · exact Or.inl (hB b hb)
    · exact Or.inr (hQ2 b hb)⟩
end
def GrewD (E : TypeId) (k : Nat) (L : List Dat) (w : World) (e : Ending) (w' : World) : Prop := ∃ A n c, e = .returned (.slice A n c) ∧ Hold E k w' A n c L (rng w.heap.size w'.heap.size) ∧ Below w.heap.size w w'
theorem GrewD.fresh {E : TypeId} {k : Nat} {L : List Dat} {w w' : World} {e : Ending} (h : GrewD E k L w e w') : FreshD L w e w' := by
  obtain ⟨A, n, c, h1, h2, h3⟩ := h
  exact ⟨A, n, c, h1, h2.owns, h3⟩
theorem Touch.blk {w w' : World} {A : Option Addr} {q : Nat} (h : Touch (fun b => ∃ a, A = some a ∧ b = a.block) w w') (hA : ∀ a, A = some a → q ≤ a.block) (hq : q ≤ w.heap.size) : Below q w w' := h.below (fun b ⟨a, e, hb⟩ => by rw [hb]; exact hA a e) hq
theorem Zx.d2 {g : Nat} {w : World} {v0 v1 : Value} (h : Zx g [v0, v1] w) : w.cell? ⟨g, 0, none⟩ = some v0 ∧ w.cell? ⟨g, 1, none⟩ = some v1 ∧ ∀ j, w.frozen? ⟨g, j, none⟩ = false :=
  ⟨h.1.2 0 _ rfl, h.1.2 1 _ rfl, h.2⟩
theorem Zx.d5 {g : Nat} {w : World} {v0 v1 v2 v3 v4 : Value} (h : Zx g [v0, v1, v2, v3, v4] w) : w.cell? ⟨g, 0, none⟩ = some v0 ∧ w.cell? ⟨g, 1, none⟩ = some v1 ∧ w.cell? ⟨g, 2, none⟩ = some v2 ∧ w.cell? ⟨g, 3, none⟩ = some v3 ∧ w.cell? ⟨g, 4, none⟩ = some v4 ∧ ∀ j, w.frozen? ⟨g, j, none⟩ = false :=
  ⟨h.1.2 0 _ rfl, h.1.2 1 _ rfl, h.1.2 2 _ rfl, h.1.2 3 _ rfl, h.1.2 4 _ rfl, h.2⟩
theorem Zx.d7 {g : Nat} {w : World} {v0 v1 v2 v3 v4 v5 v6 : Value} (h : Zx g [v0, v1, v2, v3, v4, v5, v6] w) : w.cell? ⟨g, 0, none⟩ = some v0 ∧ w.cell? ⟨g, 1, none⟩ = some v1 ∧ w.cell? ⟨g, 2, none⟩ = some v2 ∧ w.cell? ⟨g, 3, none⟩ = some v3 ∧ w.cell? ⟨g, 4, none⟩ = some v4 ∧ w.cell? ⟨g, 5, none⟩ = some v5 ∧ w.cell? ⟨g, 6, none⟩ = some v6 ∧ ∀ j, w.frozen? ⟨g, j, none⟩ = false :=
  ⟨h.1.2 0 _ rfl, h.1.2 1 _ rfl, h.1.2 2 _ rfl, h.1.2 3 _ rfl, h.1.2 4 _ rfl, h.1.2 5 _ rfl, h.1.2 6 _ rfl, h.2⟩
theorem Zx.d12 {g : Nat} {w : World} {v0 v1 v2 v3 v4 v5 v6 v7 v8 v9 v10 v11 : Value} (h : Zx g [v0, v1, v2, v3, v4, v5, v6, v7, v8, v9, v10, v11] w) : w.cell? ⟨g, 0, none⟩ = some v0 ∧ w.cell? ⟨g, 1, none⟩ = some v1 ∧ w.cell? ⟨g, 2, none⟩ = some v2 ∧ w.cell? ⟨g, 3, none⟩ = some v3 ∧ w.cell? ⟨g, 4, none⟩ = some v4 ∧ w.cell? ⟨g, 5, none⟩ = some v5 ∧ w.cell? ⟨g, 6, none⟩ = some v6 ∧ w.cell? ⟨g, 7, none⟩ = some v7 ∧ w.cell? ⟨g, 8, none⟩ = some v8 ∧ w.cell? ⟨g, 9, none⟩ = some v9 ∧ w.cell? ⟨g, 10, none⟩ = some v10 ∧ w.cell? ⟨g, 11, none⟩ = some v11 ∧ ∀ j, w.frozen? ⟨g, j, none⟩ = false :=
  ⟨h.1.2 0 _ rfl, h.1.2 1 _ rfl, h.1.2 2 _ rfl, h.1.2 3 _ rfl, h.1.2 4 _ rfl, h.1.2 5 _ rfl, h.1.2 6 _ rfl, h.1.2 7 _ rfl, h.1.2 8 _ rfl, h.1.2 9 _ rfl, h.1.2 10 _ rfl, h.1.2 11 _ rfl, h.2⟩
theorem Zx.d13 {g : Nat} {w : World} {v0 v1 v2 v3 v4 v5 v6 v7 v8 v9 v10 v11 v12 : Value} (h : Zx g [v0, v1, v2, v3, v4, v5, v6, v7, v8, v9, v10, v11, v12] w) : w.cell? ⟨g, 0, none⟩ = some v0 ∧ w.cell? ⟨g, 1, none⟩ = some v1 ∧ w.cell? ⟨g, 2, none⟩ = some v2 ∧ w.cell? ⟨g, 3, none⟩ = some v3 ∧ w.cell? ⟨g, 4, none⟩ = some v4 ∧ w.cell? ⟨g, 5, none⟩ = some v5 ∧ w.cell? ⟨g, 6, none⟩ = some v6 ∧ w.cell? ⟨g, 7, none⟩ = some v7 ∧ w.cell? ⟨g, 8, none⟩ = some v8 ∧ w.cell? ⟨g, 9, none⟩ = some v9 ∧ w.cell? ⟨g, 10, none⟩ = some v10 ∧ w.cell? ⟨g, 11, none⟩ = some v11 ∧ w.cell? ⟨g, 12, none⟩ = some v12 ∧ ∀ j, w.frozen? ⟨g, j, none⟩ = false :=
  ⟨h.1.2 0 _ rfl, h.1.2 1 _ rfl, h.1.2 2 _ rfl, h.1.2 3 _ rfl, h.1.2 4 _ rfl, h.1.2 5 _ rfl, h.1.2 6 _ rfl, h.1.2 7 _ rfl, h.1.2 8 _ rfl, h.1.2 9 _ rfl, h.1.2 10 _ rfl, h.1.2 11 _ rfl, h.1.2 12 _ rfl, h.2⟩
theorem Grow.rngO {E : TypeId} {k lo m c8 : Nat} {w8 : World} {A8 : Option Addr} {L : List Dat} (G : Grow E k lo w8 A8 (0 + m) c8 ([] ++ L) (fun _ => False ∨ False)) : Owns w8 (.l L) [.slice A8 m c8] (rng lo w8.heap.size) := by
  rw [Nat.zero_add, List.nil_append] at G
  refine G.owns.mono fun b hb => ?_
  rcases hb with ⟨a, rfl, rfl⟩ | hb | hb
  · have := G.own a.block (by simp [Value.ownBlock])
    exact ⟨this.1, this.2.1⟩
  · exact hb.elim
  · exact hb.elim
theorem Touch.fresh12 {wx w' : World} {E : TypeId} {A0 : Option Addr} {g : Nat} (hT : Touch (fun b => ∃ a, A0 = some a ∧ b = a.block) (wx.alloc (.cells #[] E)) w') (e : A0 = some ⟨g, 0, none⟩) (hg : wx.heap.size ≤ g) : Below wx.heap.size wx w' :=
  ((Below.refl _ _).alloc (Nat.le_refl _) _).trans (hT.below (fun b ⟨a, e', hb⟩ => by rw [e] at e'; obtain rfl := Option.some.inj e'; rw [hb]; exact hg) (by simp))
theorem Grow.made0 {w : World} {base : Nat} {E : TypeId} {k g c : Nat} (h : w.ownsRow base E k (.slice (some ⟨g, 0, none⟩) 0 c) 0 []) : Grow E k base w (some ⟨g, 0, none⟩) 0 c [] (fun _ => False) := by
  refine ⟨[], h, (by rw [OwnsAll]), rfl, (fun x hx => by cases hx), (fun a e => ⟨fun h => h, ?_⟩), (fun b hb => hb.elim)⟩
  obtain rfl := Option.some.inj e
  rcases h.2 with ⟨e, -⟩ | ⟨g', cap, cur, e, hb, hh, -⟩
  · cases e
  · simp only [Value.slice.injEq, Option.some.injEq, Addr.mk.injEq, and_true, true_and] at e
    obtain ⟨rfl, rfl⟩ := e
    exact (Array.getElem?_eq_some_iff.1 hh).1
mutual
def Ty.flat : Ty → Bool
  | .int => true
  | .str => true
  | .bool => true
  | .rcd ts => tyFlatAll ts
  | .sl _ => false
def tyFlatAll : List Ty → Bool
  | [] => true
  | t :: ts => t.flat && tyFlatAll ts
end
mutual
theorem Has.flat : ∀ {t : Ty} {d : Dat}, t.flat = true → Has t d → d.flat = true
  | .int, _, _, h => by rw [Has] at h; obtain ⟨n, rfl, -⟩ := h; rfl
  | .str, _, _, h => by rw [Has] at h; obtain ⟨n, rfl, -⟩ := h; rfl
  | .bool, _, _, h => by rw [Has] at h; obtain ⟨n, rfl⟩ := h; rfl
  | .rcd ts, _, hf, h => by rw [Has] at h; obtain ⟨ds, rfl, h⟩ := h; rw [Dat.flat]; exact HasAll.flat (by simpa [Ty.flat] using hf) h
  | .sl _, _, hf, _ => by simp [Ty.flat] at hf
theorem HasAll.flat : ∀ {ts : List Ty} {ds : List Dat}, tyFlatAll ts = true → HasAll ts ds → flatAll ds = true
  | [], _, _, h => by rw [HasAll] at h; subst h; rfl
  | t :: ts, _, hf, h => by
    rw [HasAll] at h
    obtain ⟨d, ds, rfl, h1, h2⟩ := h
    rw [tyFlatAll, Bool.and_eq_true] at hf
    rw [flatAll, Has.flat hf.1 h1, HasAll.flat hf.2 h2]
    rfl
end
end Go.Proofs.Ytmeacgpebpfpbaa
