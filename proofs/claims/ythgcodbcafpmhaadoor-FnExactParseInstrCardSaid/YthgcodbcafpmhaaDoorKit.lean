/- Slices of integers: what reads as a list; what the call owns, in which blocks; how both are kept. -/
import Derived.Test.YthgcodbcafpmhaaDoorDraw
import Derived.WalkKit
import Derived.Maps.AppendAt
import Derived.OwnWalk
import Derived.Laws.OwnMore
import Derived.Deep.AppendLies
namespace Go.Proofs.YthgcodbcafpmhaaDoor
open Go.RowKit

/-- The slice reads as the integers zs. -/
def Rz (k : IntKind) (w : World) (A : Option Addr) (n : Nat) (zs : List Int) : Prop := zs.length = n ∧ Rd w w.heap.size A (zs.map (Value.int k))
section
variable {k : IntKind} {w w' : World} {A : Option Addr} {n : Nat} {zs : List Int}
theorem Rz.below (h : Rz k w A n zs) (hb : Below w.heap.size w w') : Rz k w' A n zs := ⟨h.1, (h.2.below hb).more hb.size⟩
theorem Rz.drewN (h : Rz k w A n zs) (m : Nat) : Rz k (w.drewN m) A n zs := h
theorem Rz.alloc (h : Rz k w A n zs) (o : Obj) : Rz k (w.alloc o) A n zs := h.below ((Below.refl _ _).alloc (Nat.le_refl _) o)
theorem Rz.at_ (h : Rz k w A n zs) {i : Nat} (hi : i < n) : ∃ b off z, A = some ⟨b, off, none⟩ ∧ b < w.heap.size ∧ zs[i]? = some z ∧ w.cell? ⟨b, off + i, none⟩ = some (.int k z) := by
  have hl : i < zs.length := by rw [h.1]; exact hi
  obtain ⟨b, off, e, hb, hc⟩ := h.2.at_ (k := i) (by simpa using hl)
  exact ⟨b, off, zs[i], e, hb, List.getElem?_eq_getElem hl, by simpa using hc⟩
theorem Rz.nil : Rz k w A 0 [] := ⟨rfl, Or.inl rfl⟩
end

/-- Nothing turns but blocks from lo to hi; new blocks may lie behind. -/
structure Step (lo hi : Nat) (w w' : World) : Prop where
  os : w'.os = w.os
  tape : w'.tape = w.tape
  output : w'.output = w.output
  size : w.heap.size ≤ w'.heap.size
  block : ∀ k, k < w.heap.size → (k < lo ∨ hi ≤ k) → w'.heap[k]? = w.heap[k]?
theorem Step.refl (lo hi : Nat) (w : World) : Step lo hi w w := ⟨rfl, rfl, rfl, Nat.le_refl _, fun _ _ _ => rfl⟩
theorem Step.trans {lo hi : Nat} {a b c : World} (h : Step lo hi a b) (k : Step lo hi b c) : Step lo hi a c :=
  ⟨k.os.trans h.os, k.tape.trans h.tape, k.output.trans h.output, Nat.le_trans h.size k.size, fun i hi hg => (k.block i (Nat.lt_of_lt_of_le hi h.size) hg).trans (h.block i hi hg)⟩
theorem Step.of_below {lo hi : Nat} {w w' : World} (h : Below w.heap.size w w') : Step lo hi w w' := ⟨h.os, h.tape, h.output, h.size, fun k hk _ => h.block k hk⟩
theorem Step.of_grown {lo hi : Nat} {w w' : World} {row : Option Nat} (h : w.grownBy w' row) (hr : ∀ g, row = some g → lo ≤ g ∧ g < hi) : Step lo hi w w' :=
  ⟨h.os, h.tape, h.output, h.size, fun k hk ho => h.block k hk (fun e => by have := hr k e.symm; omega)⟩
theorem Step.below {lo hi B : Nat} {W w w' : World} (h : Step lo hi w w') (hb : Below B W w) (hB : B ≤ lo) (hs : B ≤ w.heap.size) : Below B W w' :=
  hb.trans ⟨h.os, h.tape, h.output, h.size, fun k hk => h.block k (by omega) (by omega)⟩

/-- The slice owns the integers zs, in a block from lo on and below hi. -/
def Own (k : IntKind) (E : TypeId) (lo hi : Nat) (w : World) (A : Option Addr) (n c : Nat) (zs : List Int) : Prop :=
  zs.length = n ∧ w.ownsRow lo E 1 (.slice A n c) n (zs.map (Value.int k)) ∧ hi ≤ w.heap.size ∧ ∀ a, A = some a → a.block < hi
section
variable {k : IntKind} {E : TypeId} {lo hi : Nat} {w w' : World} {A : Option Addr} {n c : Nat} {zs : List Int}
theorem Own.blk (h : Own k E lo hi w A n c zs) : ∀ g, (Value.slice A n c).ownBlock = some g → lo ≤ g ∧ g < hi := by
  intro g hg
  refine ⟨(h.2.1.lt g hg).1, ?_⟩
  cases A with
  | none => simp [Value.ownBlock] at hg
  | some a =>
    simp [Value.ownBlock] at hg
    have := h.2.2.2 a rfl
    omega
theorem Own.step {lo' hi' : Nat} (h : Own k E lo hi w A n c zs) (hs : Step lo' hi' w w') (hd : hi ≤ lo' ∨ hi' ≤ lo) : Own k E lo hi w' A n c zs := by
  refine ⟨h.1, ⟨h.2.1.1, ?_⟩, Nat.le_trans h.2.2.1 hs.size, h.2.2.2⟩
  rcases h.2.1.2 with hn | ⟨g, cap, cur, hv, hb, hgg, rest⟩
  · exact .inl hn
  · refine .inr ⟨g, cap, cur, hv, hb, ?_, rest⟩
    have hlt : g < hi := by
      injection hv with hA
      have := h.2.2.2 _ hA
      simpa using this
    rw [hs.block g (Array.getElem?_eq_some_iff.1 hgg).1 (by omega)]
    exact hgg
theorem Own.below (h : Own k E lo hi w A n c zs) (hb : Below w.heap.size w w') : Own k E lo hi w' A n c zs :=
  h.step (Step.of_below (lo := hi) (hi := hi) hb) (Or.inl (Nat.le_refl _))
theorem Own.drewN (h : Own k E lo hi w A n c zs) (m : Nat) : Own k E lo hi (w.drewN m) A n c zs := h
theorem Own.more {hi' : Nat} (h : Own k E lo hi w A n c zs) (hh : hi ≤ hi') (hs : hi' ≤ w.heap.size) : Own k E lo hi' w A n c zs := ⟨h.1, h.2.1, hs, fun a e => by have := h.2.2.2 a e; omega⟩
theorem Own.less {lo' : Nat} (h : Own k E lo hi w A n c zs) (hh : lo' ≤ lo) : Own k E lo' hi w A n c zs :=
  ⟨h.1, ⟨h.2.1.1, by
    rcases h.2.1.2 with hn | ⟨g, cap, cur, hv, hb, rest⟩
    · exact .inl hn
    · exact .inr ⟨g, cap, cur, hv, by omega, rest⟩⟩, h.2.2⟩
theorem Own.rz (h : Own k E lo hi w A n c zs) : Rz k w A n zs := by
  refine ⟨h.1, ?_⟩
  rcases h.2.1.2 with ⟨hv, hn⟩ | ⟨g, cap, cur, hv, hb, hgg, hnc, hcm, hcs, htk⟩
  · left
    have := h.1
    simp only [List.map_eq_nil_iff]
    exact List.eq_nil_of_length_eq_zero (by omega)
  · right
    injection hv with hA
    refine ⟨g, 0, hA, (Array.getElem?_eq_some_iff.1 hgg).1, fun j v hj => ?_⟩
    rw [Nat.zero_add, cell_of_row w g j cur E (0, 0) hgg, ← hj, ← htk, List.getElem?_take]
    have hjl : j < n * 1 := by
      have := (List.getElem?_eq_some_iff.1 hj).1
      have := h.2.1.1
      omega
    rw [if_pos hjl]
    simp
theorem Own.cap (h : Own k E lo hi w A n c zs) : n ≤ c ∧ c ≤ maxLen := by
  rcases h.2.1.2 with ⟨hv, hn⟩ | ⟨g, cap, cur, hv, hb, hgg, hnc, hcm, hcs, htk⟩
  · injection hv with _ _ h3
    unfold maxLen; omega
  · injection hv with _ _ h3
    subst h3
    exact ⟨hnc, hcm⟩
theorem Own.mk_ (v : Value) {m : Nat} {ys : List Value} (h : w.ownsRow lo E 1 v m ys) (hm : zs.length = m) (hy : ys = zs.map (Value.int k)) : ∃ A c, v = .slice A m c ∧ Own k E lo w.heap.size w A m c zs := by
  subst hy
  rcases h.2 with ⟨rfl, rfl⟩ | ⟨g, cap, cur, rfl, hb, hgg, rest⟩
  · exact ⟨none, 0, rfl, hm, h, Nat.le_refl _, fun a e => by cases e⟩
  · exact ⟨_, _, rfl, hm, h, Nat.le_refl _, fun a e => by
      obtain rfl := Option.some.inj e
      exact (Array.getElem?_eq_some_iff.1 hgg).1⟩
/-- The cell that is stored into. -/
theorem Own.slot (h : Own k E lo hi w A n c zs) {i : Nat} (hi' : i < n) : ∃ g z, A = some ⟨g, 0, none⟩ ∧ lo ≤ g ∧ g < hi ∧ zs[i]? = some z ∧ w.cell? ⟨g, i, none⟩ = some (.int k z) ∧ w.frozen? ⟨g, i, none⟩ = false := by
  rcases h.2.1.2 with ⟨hv, hn⟩ | ⟨g, cap, cur, hv, hb, hgg, hnc, hcm, hcs, htk⟩
  · omega
  · injection hv with hA
    subst hA
    have hl : i < zs.length := by rw [h.1]; exact hi'
    have hc := h.2.1.cellAt i (by omega)
    refine ⟨g, zs[i], rfl, hb, h.2.2.2 _ rfl, List.getElem?_eq_getElem hl, ?_, h.2.1.frozenAt i⟩
    rw [hc]
    simp [hl]
theorem Own.store (h : Own k E lo hi w A n c zs) {g i : Nat} (hA : A = some ⟨g, 0, none⟩) (z : Int) : Own k E lo hi (w.setCell ⟨g, i, none⟩ (.int k z)) A n c (zs.set i z) ∧ Step lo hi w (w.setCell ⟨g, i, none⟩ (.int k z)) := by
  subst hA
  obtain ⟨h1, h2⟩ := h.2.1.stored i (.int k z)
  refine ⟨⟨by simpa using h.1, by rw [List.map_set]; exact h1, by simpa [World.setCell] using h.2.2.1, h.2.2.2⟩, Step.of_grown h2 ?_⟩
  intro g' hg
  obtain rfl := Option.some.inj hg
  exact h.blk g rfl
end

/-- A new slice comes back, that owns zs; what was there stands. -/
def Fresh (k : IntKind) (E : TypeId) (zs : List Int) (w : World) (e : Ending) (w' : World) : Prop :=
  ∃ A n c, e = .returned (.slice A n c) ∧ Own k E w.heap.size w'.heap.size w' A n c zs ∧ Below w.heap.size w w'
theorem Fresh.ret {k : IntKind} {E : TypeId} {zs : List Int} {w w' : World} {A : Option Addr} {n c : Nat} (h : Own k E w.heap.size w'.heap.size w' A n c zs) (hb : Below w.heap.size w w') : Fresh k E zs w (.returned (.slice A n c)) w' := ⟨A, n, c, rfl, h, hb⟩
/-- A number comes back. -/
def GivesInt (x : Int) (w : World) (e : Ending) (w' : World) : Prop := e = .returned (.int .i64 x) ∧ Below w.heap.size w w'
theorem GivesInt.ret {x y : Int} {w w' : World} (h : x = y) (hb : Below w.heap.size w w') : GivesInt y w (.returned (.int .i64 x)) w' := ⟨by rw [h], hb⟩
/-- A bool comes back. -/
def GivesBool (b : Bool) (w : World) (e : Ending) (w' : World) : Prop := e = .returned (.bool b) ∧ Below w.heap.size w w'
theorem GivesBool.ret {b : Bool} {w w' : World} (hb : Below w.heap.size w w') : GivesBool b w (.returned (.bool b)) w' := ⟨rfl, hb⟩
theorem below_drewN {B : Nat} {a w : World} (h : Below B a w) (n : Nat) : Below B a (w.drewN n) := ⟨h.os, h.tape, h.output, h.size, h.block⟩
end Go.Proofs.YthgcodbcafpmhaaDoor
