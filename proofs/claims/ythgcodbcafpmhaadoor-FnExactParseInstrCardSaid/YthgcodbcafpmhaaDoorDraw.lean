/- The draws: a cursor over bytes: each draw returns a number in its range, and turns nothing but the cursor. -/
import Derived.Test.YthgcodbcafpmhaaDoorLawKit
import Derived.Test.YthgcodbcafpmhaaDoorProg
import Derived.LoopTactic
import Derived.Lib.Hide
import Derived.Deep.QuietTactic
import Derived.BigQuiet
import Derived.ChangeSlices
namespace Go.Proofs.YthgcodbcafpmhaaDoor
open Go.RowKit

/-- The slice's cells read as xs; it lies below block B. -/
def Rd (w : World) (B : Nat) (A : Option Addr) (xs : List Value) : Prop := xs = [] ∨ ∃ b off, A = some ⟨b, off, none⟩ ∧ b < B ∧ ∀ j v, xs[j]? = some v → w.cell? ⟨b, off + j, none⟩ = some v
theorem Rd.at_ {w : World} {B : Nat} {A : Option Addr} {xs : List Value} (h : Rd w B A xs) {k : Nat} (hk : k < xs.length) :
    ∃ b off, A = some ⟨b, off, none⟩ ∧ b < B ∧ w.cell? ⟨b, off + k, none⟩ = some xs[k] := by
  rcases h with rfl | ⟨b, off, e, hb, hc⟩
  · simp at hk
  · exact ⟨b, off, e, hb, hc k _ (List.getElem?_eq_getElem hk)⟩
theorem Rd.below {w w' : World} {B : Nat} {A : Option Addr} {xs : List Value} (h : Rd w B A xs) (hb : Below B w w') : Rd w' B A xs := by
  rcases h with rfl | ⟨b, off, e, hlt, hc⟩
  · exact Or.inl rfl
  · exact Or.inr ⟨b, off, e, hlt, fun j v hj => (hb.cell (p := ⟨b, off + j, none⟩) hlt).trans (hc j v hj)⟩
theorem Rd.more {w : World} {B B' : Nat} {A : Option Addr} {xs : List Value} (h : Rd w B A xs) (hB : B ≤ B') : Rd w B' A xs := by
  rcases h with rfl | ⟨b, off, e, hlt, hc⟩
  · exact Or.inl rfl
  · exact Or.inr ⟨b, off, e, by omega, hc⟩

/-- Nothing turns but block g; new blocks may lie behind. -/
structure Turn (g : Nat) (w w' : World) : Prop where
  os : w'.os = w.os
  tape : w'.tape = w.tape
  output : w'.output = w.output
  size : w.heap.size ≤ w'.heap.size
  block : ∀ k, k < w.heap.size → k ≠ g → w'.heap[k]? = w.heap[k]?
theorem Turn.refl (g : Nat) (w : World) : Turn g w w := ⟨rfl, rfl, rfl, Nat.le_refl _, fun _ _ _ => rfl⟩
theorem Turn.trans {g : Nat} {a b c : World} (h : Turn g a b) (k : Turn g b c) : Turn g a c :=
  ⟨k.os.trans h.os, k.tape.trans h.tape, k.output.trans h.output, Nat.le_trans h.size k.size, fun i hi hg => (k.block i (Nat.lt_of_lt_of_le hi h.size) hg).trans (h.block i hi hg)⟩
theorem Turn.drewN {g : Nat} {a w : World} (h : Turn g a w) (n : Nat) : Turn g a (w.drewN n) := ⟨h.os, h.tape, h.output, h.size, h.block⟩
theorem Turn.alloc {g : Nat} {a w : World} (h : Turn g a w) (o : Obj) : Turn g a (w.alloc o) :=
  h.trans ⟨rfl, rfl, rfl, by simp, fun k hk _ => Below.heap_alloc _ _ _ hk⟩
theorem Turn.setCell {g : Nat} {a w : World} (h : Turn g a w) {p : Addr} (hp : p.block = g) (u : Value) : Turn g a (w.setCell p u) :=
  h.trans ⟨rfl, rfl, rfl, by simp [World.setCell], fun k _ hg => Below.heap_setCell _ _ _ _ (by rw [hp]; exact hg)⟩
theorem Turn.below {g B : Nat} {w w' : World} (h : Turn g w w') (hB : B ≤ g) (hs : B ≤ w.heap.size) : Below B w w' :=
  ⟨h.os, h.tape, h.output, h.size, fun k hk => h.block k (by omega) (by omega)⟩
theorem Turn.of_below {g : Nat} {w w' : World} (h : Below w.heap.size w w') : Turn g w w' := ⟨h.os, h.tape, h.output, h.size, fun k hk _ => h.block k hk⟩
theorem Turn.cell {g : Nat} {w w' : World} (h : Turn g w w') {p : Addr} (hp : p.block < w.heap.size) (hg : p.block ≠ g) : w'.cell? p = w.cell? p := World.cell?_of_block (w := w) (h.block p.block hp hg)
theorem Rd.turn {w w' : World} {B g : Nat} {A : Option Addr} {xs : List Value} (h : Rd w B A xs) (ht : Turn g w w') (hB : B ≤ g) (hs : B ≤ w.heap.size) : Rd w' B A xs := h.below (ht.below hB hs)

theorem cell_set {w : World} {g o : Nat} {C : Array Value} {t : TypeId} {fz : Nat × Nat} (h : w.heap[g]? = some (.cells C t fz)) (v : Value) : (w.setCell ⟨g, o, none⟩ v).heap[g]? = some (.cells (C.setIfInBounds o v) t fz) := by
  have hlt : g < w.heap.size := by
    rcases Nat.lt_or_ge g w.heap.size with h' | h'
    · exact h'
    · simp [Array.getElem?_eq_none h'] at h
  have h' : w.heap[g] = .cells C t fz := by simpa [Array.getElem?_eq_getElem hlt] using h
  show (w.heap.modify g _)[g]? = _
  rw [Array.getElem?_eq_getElem (by simpa using hlt), Array.getElem_modify_self, h']
  rfl
theorem i64_and255 (n : Int) : bits .and .i64 n 255 = n % 256 := by
  have h255 : (BitVec.ofInt 64 255).toNat = 2 ^ 8 - 1 := by decide
  have key : (BitVec.ofInt 64 n &&& BitVec.ofInt 64 255).toNat = (n % ((2 ^ 64 : Nat) : Int)).toNat % 2 ^ 8 := by
    rw [BitVec.toNat_and, BitVec.toNat_ofInt, h255, Nat.and_two_pow_sub_one_eq_mod]
  show IntKind.i64.wrap ((BitVec.ofInt 64 n &&& BitVec.ofInt 64 255).toNat : Nat) = n % 256
  rw [key, IntKind.wrap_i64]
  omega
/-! ### A list that the draw lays -/
theorem int_cells (w : World) (zs : List Int) (T : TypeId) (j : Nat) (h : j < zs.length) : (w.alloc (.cells (zs.map (Value.int .i64)).toArray T)).cell? ⟨w.heap.size, j, none⟩ = some (.int .i64 zs[j]) := by
  rw [World.cell?_alloc_new]
  simp [h]
theorem str_cells (w : World) (zs : List ByteArray) (T : TypeId) (j : Nat) (h : j < zs.length) : (w.alloc (.cells (zs.map Value.string).toArray T)).cell? ⟨w.heap.size, j, none⟩ = some (.string zs[j]) := by
  rw [World.cell?_alloc_new]
  simp [h]
def wide : Int := 9223372036854775808
theorem prod_le {x y : Int} (a : 0 ≤ x) (b : x ≤ 999999) (c : 0 ≤ y) (d : y ≤ 999999) : 0 ≤ x * y ∧ x * y ≤ 999998000001 := by
  refine ⟨Int.mul_nonneg a c, ?_⟩
  have h1 : x * y ≤ 999999 * y := Int.mul_le_mul_of_nonneg_right b c
  omega
/-! ### The cursor's making -/
/-- The bytes that came in. -/
def Code (w : World) (A : Option Addr) (n : Nat) : Prop := ∃ zs : List Nat, zs.length = n ∧ n ≤ 9223372036854775807 ∧ (∀ z ∈ zs, z ≤ 255) ∧ Rd w w.heap.size A (zs.map fun (z : Nat) => Value.int .u8 (z : Int))
/-- A slice of bytes that came in. -/
theorem open_code {H : Type} {enc : TypeId × Value → H} {W : World} {T E : TypeId} {v : Value} {d : DataW H} {p : List MemPlace} (ht : Tryd.prog.underlying T = some (.slice E)) (he : Tryd.prog.underlying E = some (.int .u8)) (hce : Tryd.prog.cellsOf E = 1)
    (h : DataW.Trod enc Tryd.prog W 0 (fun _ => true) true T v d p) (hv : v.cells.toList = [v]) (hlt : ∀ x ∈ p, x.block < W.heap.size) : ∃ A n c, v = .slice A n c ∧ Code W A n := by
  obtain ⟨fuel, hf⟩ := h
  rw [hv] at hf
  rcases ChangeShapes.open_ints ht he hce hf with ⟨hcs, -⟩ | ⟨a, len, cap, zs, hcs, -, hl, hm, hz, hx, hcell, hwf⟩
  · refine ⟨none, 0, 0, by simpa using hcs, [], rfl, by omega, by simp, Or.inl rfl⟩
  · simp only [if_true] at hz
    unfold maxLen at hm
    refine ⟨some a, len, cap, by simpa using hcs, (zs.take len).map Int.toNat, by simp; omega, by omega, ?_, ?_⟩
    · intro z hzm
      obtain ⟨y, hy, rfl⟩ := List.mem_map.1 hzm
      have := hwf y (List.mem_of_mem_take hy)
      have e1 : IntKind.u8.min = 0 := rfl
      have e2 : IntKind.u8.max = 255 := rfl
      simp [Lit.wf, e1, e2] at this
      omega
    · by_cases h0 : len = 0
      · left; subst h0; simp
      · right
        have hsp : a.spot = none := by simpa [Addr.add] using World.cell?_spot (hcell 0 (by omega))
        obtain ⟨b, off, spot⟩ := a
        simp only at hsp
        subst hsp
        refine ⟨b, off, rfl, ?_, fun j u hj => ?_⟩
        · have := hlt (.cell b off) (by
            have e := congrArg Prod.snd hx
            simp only at e
            rw [e]
            exact MemPlace.mem_row.2 ⟨0, by omega, by simp⟩)
          exact this
        · have hjl : j < len := by
            have := (List.getElem?_eq_some_iff.1 hj).1
            simp at this
            omega
          have hc := hcell j (by omega)
          have ea : (⟨b, off, none⟩ : Addr).add j = ⟨b, off + j, none⟩ := by
            unfold Addr.add
            split
            · rename_i h; subst h; rfl
            · rfl
          rw [ea] at hc
          rw [hc]
          have hw := hwf (zs[j]'(by omega)) (List.getElem_mem _)
          have e1 : IntKind.u8.min = 0 := rfl
          have e2 : IntKind.u8.max = 255 := rfl
          simp [Lit.wf, e1, e2] at hw
          have hjz : j < zs.length := by omega
          simp [hjl, List.getElem?_eq_getElem hjz] at hj
          subst hj
          simp [List.getD, List.getElem?_eq_getElem hjz]
          omega
end Go.Proofs.YthgcodbcafpmhaaDoor
