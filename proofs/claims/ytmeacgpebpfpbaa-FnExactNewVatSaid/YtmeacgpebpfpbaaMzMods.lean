/- Both sides' Mod at a modulus in range. The reference's chapter 4: each as its answer. The program's meaningOf and the numbers' methods: each as its answer. The program's IsValue, IntValue, RefValue, IsNumber, addition of meanings: each as its answer. Type assertions to the types behind the interface. The program's IsValue and IsNumber. The reference's AreValues and EqualValues. The program's AreValues and EqualValues. Chapter 9, plain: lists of values as data and as pairs; what is alike. Chapter 9: new entities, both sides; a shape's entity. Chapter 9: NewObject, both sides. -/
import Derived.Test.YtmeacgpebpfpbaaBase
import Derived.Test.YtmeacgpebpfpbaaProg
import Derived.LoopTactic
import Derived.Lib.Hide
import Derived.Test.YtmeacgpebpfpbaaVal
import Derived.Handy
import Derived.Test.YtmeacgpebpfpbaaCom
import Derived.Deep.RegionHeld3
import Derived.Stop.Asserts
import Derived.Test.YtmeacgpebpfpbaaTyE1
import Derived.Deep.QuietTactic
import Derived.BigQuiet
import Derived.Deep.RegionWith
section
namespace Go.Proofs.Ytmeacgpebpfpbaa
open Go.RowKit
end Go.Proofs.Ytmeacgpebpfpbaa
end
section
namespace Go.Proofs.Ytmeacgpebpfpbaa
open Go.RowKit
def isVal (v : V) (e : Int) : Bool := decide ((v.kind = 0 ∧ 0 ≤ v.n ∧ v.n ≤ 999999) ∨ (v.kind = 1 ∧ 0 ≤ v.n ∧ v.n < e) ∨ (v.kind = 2 ∧ v.n = 0))
def intV (n : Int) : V := ⟨0, n % 1000000⟩
def addV (a b : V) : V := if a.kind = 0 ∧ b.kind = 0 ∧ (0 ≤ a.n ∧ a.n ≤ 999999) ∧ (0 ≤ b.n ∧ b.n ≤ 999999) then intV (a.n + b.n) else ⟨2, 0⟩
def isNum (v : V) (n : Int) : Bool := decide (v.kind = 0 ∧ v.n = n)
def areVals (L : List V) (e : Int) : Bool := L.all fun v => isVal v e
end Go.Proofs.Ytmeacgpebpfpbaa
end
section
namespace Go.Proofs.Ytmeacgpebpfpbaa
open Go.RowKit
end Go.Proofs.Ytmeacgpebpfpbaa
end
section
namespace Go.Proofs.Ytmeacgpebpfpbaa
open Go.RowKit
end Go.Proofs.Ytmeacgpebpfpbaa
end
section
namespace Go.Proofs.Ytmeacgpebpfpbaa
open Go.RowKit
end Go.Proofs.Ytmeacgpebpfpbaa
end
section
namespace Go.Proofs.Ytmeacgpebpfpbaa
open Go.RowKit
end Go.Proofs.Ytmeacgpebpfpbaa
end
section
namespace Go.Proofs.Ytmeacgpebpfpbaa
open Go.RowKit
noncomputable def eqVals (L L' : List V) : Bool := @decide (L = L') (Classical.propDecidable _)
end Go.Proofs.Ytmeacgpebpfpbaa
end
section
namespace Go.Proofs.Ytmeacgpebpfpbaa
open Go.RowKit
end Go.Proofs.Ytmeacgpebpfpbaa
end
section
namespace Go.Proofs.Ytmeacgpebpfpbaa
open Go.RowKit
def vOf : Dat → V
  | .r [.i k, .i n] => ⟨k, n⟩
  | _ => ⟨0, 0⟩
def vs (L : List Dat) : List V := L.map vOf
def dOf (v : V) : Dat := .r [.i v.kind, .i v.n]
theorem val_form {d : Dat} (h : Has tyValue d) : ∃ k n : Int, d = .r [.i k, .i n] := by
  simp only [tyValue, Has, HasAll] at h
  obtain ⟨ds, rfl, d0, r0, rfl, ⟨f0, rfl, -, -⟩, d1, r1, rfl, ⟨f1, rfl, -, -⟩, rfl⟩ := h
  exact ⟨f0, f1, rfl⟩
theorem LiesAll.of_vals {w : World} : ∀ (L : List V), LiesAll w (L.map dOf) (layV.flat L)
  | [] => by rw [List.map_nil, LiesAll]; rfl
  | v :: L => by
    rw [List.map_cons, LiesAll]
    exact ⟨layV.cells v, layV.flat L, rfl, by rw [dOf, Lies]; exact ⟨[.int .i64 v.kind], _, rfl, rfl, [.int .i64 v.n], _, rfl, rfl, rfl⟩, LiesAll.of_vals L⟩
theorem FR.lies {w : World} {A : Option Addr} {n c : Nat} {L : List V} (h : FR layV w A n L) (hc : n ≤ c) : Lies w (.l (L.map dOf)) [.slice A n c] := by
  rw [Lies]
  refine ⟨A, n, c, rfl, by rw [List.length_map]; exact h.1, ?_⟩
  rcases h.2 with h0 | ⟨b, off, rfl, hb, hcell⟩
  · left
    cases L with
    | nil => rfl
    | cons v L => cases h0
  · exact Or.inr ⟨b, off, layV.flat L, rfl, ⟨hb, hc⟩, LiesAll.of_vals L, hcell⟩
section
variable {L M : List Dat} {A B : Option Addr} {n c m k : Nat} {w : World}
end
end Go.Proofs.Ytmeacgpebpfpbaa
end
section
namespace Go.Proofs.Ytmeacgpebpfpbaa
open Go.RowKit
set_option linter.unusedVariables false
set_option linter.unusedSimpArgs false
section
variable (w : World)
theorem objEnt (k s sc : Int) (A : Option Addr) (n c : Nat) : Calls Try.prog 124 #[.agg #[.int .i64 k, .int .i64 s, .int .i64 sc, .slice A n c]] w (GivesX (.agg #[.int .i64 k, .int .i64 sc, .slice A n c, .int .i64 0, .int .i64 0, .int .i64 0, .slice none 0 0, .slice none 0 0, .int .i64 0, .int .i64 0, .int .i64 0, .int .i64 s]) w) := by
  go_enter Try.func124, Try.ntmps124
  go_wp2_with (
    with_reducible refine bodyPost_ret (v := .agg #[.int .i64 k, .int .i64 sc, .slice A n c, .int .i64 0, .int .i64 0, .int .i64 0, .slice none 0 0, .slice none 0 0, .int .i64 0, .int .i64 0, .int .i64 0, .int .i64 s]) ?hres rfl ?hpost
    case hres => simp [results, Try.results124, go_sem]
    case hpost => exact GivesX.ret (by go_grown))
theorem proxEnt (k s p q ct : Int) : Calls Try.prog 127 #[.agg #[.int .i64 k, .int .i64 s, .int .i64 p, .int .i64 q, .int .i64 ct]] w (GivesX (.agg #[.int .i64 k, .int .i64 0, .slice none 0 0, .int .i64 0, .int .i64 0, .int .i64 0, .slice none 0 0, .slice none 0 0, .int .i64 p, .int .i64 q, .int .i64 ct, .int .i64 s]) w) := by
  go_enter Try.func127, Try.ntmps127
  go_wp2_with (
    with_reducible refine bodyPost_ret (v := .agg #[.int .i64 k, .int .i64 0, .slice none 0 0, .int .i64 0, .int .i64 0, .int .i64 0, .slice none 0 0, .slice none 0 0, .int .i64 p, .int .i64 q, .int .i64 ct, .int .i64 s]) ?hres rfl ?hpost
    case hres => simp [results, Try.results127, go_sem]
    case hpost => exact GivesX.ret (by go_grown))
theorem implNewProx (p q : Int) : Calls Try.prog 58 #[.int .i64 p, .int .i64 q] w (GivesX (.agg #[.int .i64 3, .int .i64 0, .slice none 0 0, .int .i64 0, .int .i64 0, .int .i64 0, .slice none 0 0, .slice none 0 0, .int .i64 p, .int .i64 q, .int .i64 1, .int .i64 0]) w) := by
  go_enter Try.func58, Try.ntmps58
  go_wp2_with fail
  refine (proxEnt _ 3 0 p q 1).mono ?_
  rintro e w1 ⟨rfl, hb⟩
  have ZB : Box (w.heap.size) [.int .i64 0, .int .i64 0, .slice none 0 0, .int .i64 0, .int .i64 0, .int .i64 0, .slice none 0 0, .slice none 0 0, .int .i64 0, .int .i64 0, .int .i64 0, .int .i64 0] w1 := (Box.new w #[.int .i64 0, .int .i64 0, .slice none 0 0, .int .i64 0, .int .i64 0, .int .i64 0, .slice none 0 0, .slice none 0 0, .int .i64 0, .int .i64 0, .int .i64 0, .int .i64 0] 38).below hb
  have z0 := ZB.2 0 (.int .i64 0) rfl
  have fz0 : w1.frozen? ⟨w.heap.size, 0, none⟩ = false := (hb.frozen (p := ⟨w.heap.size, 0, none⟩) (by simp; try omega)).trans (by simp [go_sem])
  have z1 := ZB.2 1 (.int .i64 0) rfl
  have fz1 : w1.frozen? ⟨w.heap.size, 1, none⟩ = false := (hb.frozen (p := ⟨w.heap.size, 1, none⟩) (by simp; try omega)).trans (by simp [go_sem])
  have z2 := ZB.2 2 (.slice none 0 0) rfl
  have fz2 : w1.frozen? ⟨w.heap.size, 2, none⟩ = false := (hb.frozen (p := ⟨w.heap.size, 2, none⟩) (by simp; try omega)).trans (by simp [go_sem])
  have z3 := ZB.2 3 (.int .i64 0) rfl
  have fz3 : w1.frozen? ⟨w.heap.size, 3, none⟩ = false := (hb.frozen (p := ⟨w.heap.size, 3, none⟩) (by simp; try omega)).trans (by simp [go_sem])
  have z4 := ZB.2 4 (.int .i64 0) rfl
  have fz4 : w1.frozen? ⟨w.heap.size, 4, none⟩ = false := (hb.frozen (p := ⟨w.heap.size, 4, none⟩) (by simp; try omega)).trans (by simp [go_sem])
  have z5 := ZB.2 5 (.int .i64 0) rfl
  have fz5 : w1.frozen? ⟨w.heap.size, 5, none⟩ = false := (hb.frozen (p := ⟨w.heap.size, 5, none⟩) (by simp; try omega)).trans (by simp [go_sem])
  have z6 := ZB.2 6 (.slice none 0 0) rfl
  have fz6 : w1.frozen? ⟨w.heap.size, 6, none⟩ = false := (hb.frozen (p := ⟨w.heap.size, 6, none⟩) (by simp; try omega)).trans (by simp [go_sem])
  have z7 := ZB.2 7 (.slice none 0 0) rfl
  have fz7 : w1.frozen? ⟨w.heap.size, 7, none⟩ = false := (hb.frozen (p := ⟨w.heap.size, 7, none⟩) (by simp; try omega)).trans (by simp [go_sem])
  have z8 := ZB.2 8 (.int .i64 0) rfl
  have fz8 : w1.frozen? ⟨w.heap.size, 8, none⟩ = false := (hb.frozen (p := ⟨w.heap.size, 8, none⟩) (by simp; try omega)).trans (by simp [go_sem])
  have z9 := ZB.2 9 (.int .i64 0) rfl
  have fz9 : w1.frozen? ⟨w.heap.size, 9, none⟩ = false := (hb.frozen (p := ⟨w.heap.size, 9, none⟩) (by simp; try omega)).trans (by simp [go_sem])
  have z10 := ZB.2 10 (.int .i64 0) rfl
  have fz10 : w1.frozen? ⟨w.heap.size, 10, none⟩ = false := (hb.frozen (p := ⟨w.heap.size, 10, none⟩) (by simp; try omega)).trans (by simp [go_sem])
  have z11 := ZB.2 11 (.int .i64 0) rfl
  have fz11 : w1.frozen? ⟨w.heap.size, 11, none⟩ = false := (hb.frozen (p := ⟨w.heap.size, 11, none⟩) (by simp; try omega)).trans (by simp [go_sem])
  have HB : Hid (Below w.heap.size w w1) := Lib.hid (((Below.refl _ _).alloc (Nat.le_refl _) _).trans (hb.mono (by simp)))
  clear hb
  go_wp2_with (
    with_reducible refine bodyPost_ret (v := .agg #[.int .i64 3, .int .i64 0, .slice none 0 0, .int .i64 0, .int .i64 0, .int .i64 0, .slice none 0 0, .slice none 0 0, .int .i64 p, .int .i64 q, .int .i64 1, .int .i64 0]) ?hres rfl ?hpost
    case hres => exact results_box rfl _ _ (w.heap.size) [.int .i64 3, .int .i64 0, .slice none 0 0, .int .i64 0, .int .i64 0, .int .i64 0, .slice none 0 0, .slice none 0 0, .int .i64 p, .int .i64 q, .int .i64 1, .int .i64 0] _ rfl ((((((((((((ZB.put 0 _).put 1 _).put 2 _).put 3 _).put 4 _).put 5 _).put 6 _).put 7 _).put 8 _).put 9 _).put 10 _).put 11 _) Try.underlying38 rfl (by kernel_rfl)
    case hpost => exact GivesX.ret ((((((((((((HB.out.setCell (Nat.le_refl _) _).setCell (Nat.le_refl _) _).setCell (Nat.le_refl _) _).setCell (Nat.le_refl _) _).setCell (Nat.le_refl _) _).setCell (Nat.le_refl _) _).setCell (Nat.le_refl _) _).setCell (Nat.le_refl _) _).setCell (Nat.le_refl _) _).setCell (Nat.le_refl _) _).setCell (Nat.le_refl _) _).setCell (Nat.le_refl _) _))
theorem specNewProx (p q : Int) : Calls Try.prog 72 #[.int .i64 p, .int .i64 q] w (GivesX (.agg #[.int .i64 3, .int .i64 0, .slice none 0 0, .int .i64 0, .int .i64 0, .int .i64 0, .slice none 0 0, .slice none 0 0, .int .i64 p, .int .i64 q, .int .i64 1, .int .i64 0]) w) := by
  go_enter Try.func72, Try.ntmps72
  go_wp2_with (
    with_reducible refine bodyPost_ret (v := .agg #[.int .i64 3, .int .i64 0, .slice none 0 0, .int .i64 0, .int .i64 0, .int .i64 0, .slice none 0 0, .slice none 0 0, .int .i64 p, .int .i64 q, .int .i64 1, .int .i64 0]) ?hres rfl ?hpost
    case hres => simp [results, Try.results72, go_sem]
    case hpost => exact GivesX.ret (by go_grown))
end
end Go.Proofs.Ytmeacgpebpfpbaa
end
section
namespace Go.Proofs.Ytmeacgpebpfpbaa
open Go.RowKit
set_option linter.unusedVariables false
set_option linter.unusedSimpArgs false
theorem flatValue {d : Dat} (h : Has tyValue d) : d.flat = true := by
  obtain ⟨k, n, rfl⟩ := val_form h
  rfl
def ResBox (W w : World) : Prop := Box W.heap.size [.int .i64 0, .int .i64 0, .slice none 0 0, .int .i64 0, .int .i64 0, .int .i64 0, .slice none 0 0, .slice none 0 0, .int .i64 0, .int .i64 0, .int .i64 0, .int .i64 0] w ∧ ∀ j, w.frozen? ⟨W.heap.size, j, none⟩ = false
theorem ResBox.new (w : World) : ResBox w ((w.alloc (.cells #[.int .i64 0, .int .i64 0, .slice none 0 0, .int .i64 0, .int .i64 0, .int .i64 0, .slice none 0 0, .slice none 0 0, .int .i64 0, .int .i64 0, .int .i64 0, .int .i64 0] 38)).alloc (.cells #[] 31)) :=
  ⟨(Box.new w #[.int .i64 0, .int .i64 0, .slice none 0 0, .int .i64 0, .int .i64 0, .int .i64 0, .slice none 0 0, .slice none 0 0, .int .i64 0, .int .i64 0, .int .i64 0, .int .i64 0] 38).alloc _, fun j => by simp [go_sem]⟩
theorem ResBox.below {W w w' : World} (h : ResBox W w) (hb : Below w.heap.size w w') : ResBox W w' := ⟨h.1.below hb, fun j => (hb.frozen (p := ⟨W.heap.size, j, none⟩) h.1.1).trans (h.2 j)⟩
theorem ResBox.touch {W w w' : World} {q : Nat} (h : ResBox W w) (ht : Touch (fun b => ∃ a, (some (⟨q, 0, none⟩ : Addr)) = some a ∧ b = a.block) w w') (hq : q = W.heap.size + 1 := by rfl) (hs : W.heap.size + 1 ≤ w.heap.size := by simp) : ResBox W w' := by
  have hb : Below (W.heap.size + 1) w w' := ht.below (fun b ⟨a, e, hb⟩ => by obtain rfl := Option.some.inj e; rw [hb]; exact Nat.le_of_eq hq.symm) hs
  exact ⟨⟨Nat.lt_of_lt_of_le h.1.1 ht.size, fun i v hv => (hb.cell (p := ⟨W.heap.size, i, none⟩) (by show W.heap.size < _; omega)).trans (h.1.2 i v hv)⟩, fun j => (hb.frozen (p := ⟨W.heap.size, j, none⟩) (by show W.heap.size < _; omega)).trans (h.2 j)⟩
theorem GrowObj {w8 : World} {E : TypeId} {k lo m c8 : Nat} {A8 : Option Addr} {L : List Dat} (G : Grow E k lo w8 A8 (0 + m) c8 ([] ++ L) (fun _ => False ∨ False)) : Owns w8 (.l L) [.slice A8 m c8] (rng lo w8.heap.size) := by
  rw [Nat.zero_add, List.nil_append] at G
  refine G.owns.mono fun b hb => ?_
  rcases hb with ⟨a, rfl, rfl⟩ | hb | hb
  · have := G.own a.block (by simp [Value.ownBlock])
    exact ⟨this.1, this.2.1⟩
  · exact hb.elim
  · exact hb.elim
def GivesObj (sc : Int) (L : List Dat) (n : Nat) (w : World) (e : Ending) (w' : World) : Prop := ∃ A8 c8, e = .returned (.agg #[.int .i64 1, .int .i64 sc, .slice A8 n c8, .int .i64 0, .int .i64 0, .int .i64 0, .slice none 0 0, .slice none 0 0, .int .i64 0, .int .i64 0, .int .i64 0, .int .i64 0]) ∧ Owns w' (.l L) [.slice A8 n c8] (rng w.heap.size w'.heap.size) ∧ Below w.heap.size w w'
theorem GivesObj.mk_ {sc : Int} {L : List Dat} {n c8 : Nat} {A8 : Option Addr} {w w9 w' : World} {hi : Nat} (h : Owns w9 (.l L) [.slice A8 n c8] (rng (w.heap.size + 1) hi)) (hh : hi ≤ w9.heap.size) (ht : Touch (fun b => b = w.heap.size) w9 w') (hb : Below w.heap.size w w') : GivesObj sc L n w (.returned (.agg #[.int .i64 1, .int .i64 sc, .slice A8 n c8, .int .i64 0, .int .i64 0, .int .i64 0, .slice none 0 0, .slice none 0 0, .int .i64 0, .int .i64 0, .int .i64 0, .int .i64 0])) w' :=
  ⟨A8, c8, rfl, (h.touch ht (fun b hb hS => by have := hb.1; omega)).mono (fun b hb => ⟨by have := hb.1; omega, by have := hb.2; have := ht.size; omega⟩), hb⟩
set_option maxRecDepth 100000 in
set_option maxHeartbeats 4000000 in
theorem implNewObj (sc : Int) (L : List Dat) (A : Option Addr) (n c : Nat) (w : World) (h : Lies w (.l L) [.slice A n c]) (ht : ∀ x ∈ L, Has tyValue x) (hn : n ≤ 1099511627776) : Calls Try.prog 56 #[.int .i64 sc, .slice A n c] w (GivesObj sc L n w) := by
  obtain ⟨i0, hi, hz0, hz1, hz2⟩ := info_parts infoValue
  have B0 : Hid (Below w.heap.size w ((w.alloc (.cells #[.int .i64 0, .int .i64 0, .slice none 0 0, .int .i64 0, .int .i64 0, .int .i64 0, .slice none 0 0, .slice none 0 0, .int .i64 0, .int .i64 0, .int .i64 0, .int .i64 0] 38)).alloc (.cells #[] 31))) := Lib.hid (by go_grown)
  have R0 := Lib.hid (ResBox.new w)
  have G0 := Lib.hid (Grow.lit9 31 2 (w.alloc (.cells #[.int .i64 0, .int .i64 0, .slice none 0 0, .int .i64 0, .int .i64 0, .int .i64 0, .slice none 0 0, .slice none 0 0, .int .i64 0, .int .i64 0, .int .i64 0, .int .i64 0] 38)))
  simp only [World.size_alloc] at G0
  have HL := Lib.hid h
  have HT := Lib.hid ht
  clear h ht
  go_enter Try.func56, Try.ntmps56
  go_wp2_with (first | (refine wpList_append_dat _ rfl _ _ 35 rfl 2 (by omega) 31 i0 _ 16 Try.underlying35 hi hz0 hz1 rfl hz2 (w.heap.size + 1) _ 0 0 [] _ rfl G0.out A n c L (fun _ => False) rfl (Src.of_lies (HL.out.below B0.out) (fun x hx => (HT.out x hx).width) (fun x hx => flatValue (HT.out x hx))) (fun b h => h.elim) (fun a e h => h) (by unfold maxLen; omega) (by omega) (by simp) ?_; intro A8 c8 w8 hG hTc hA8; (have HO := Lib.hid (GrowObj hG)); (have HR := Lib.hid (ResBox.touch R0.out hTc)); (have HB := Lib.hid (B0.out.trans (hTc.below (fun b ⟨a, e, hb⟩ => by obtain rfl := Option.some.inj e; subst hb; simp; done) (by simp; omega)))); clear hG hTc hA8) | fail)
  refine (objEnt _ 1 0 sc A8 n c8).mono ?_
  rintro e w9 ⟨rfl, hb9⟩
  have HR9 := Lib.hid (HR.out.below hb9)
  have HO9 := Lib.hid (HO.out.below hb9)
  have HB9 := Lib.hid (HB.out.trans (hb9.mono HB.out.size))
  have hs9 := hb9.size
  clear HO HB HR hb9
  have z0 := HR9.out.1.2 0 (.int .i64 0) rfl
  have fz0 := HR9.out.2 0
  have z1 := HR9.out.1.2 1 (.int .i64 0) rfl
  have fz1 := HR9.out.2 1
  have z2 := HR9.out.1.2 2 (.slice none 0 0) rfl
  have fz2 := HR9.out.2 2
  have z3 := HR9.out.1.2 3 (.int .i64 0) rfl
  have fz3 := HR9.out.2 3
  have z4 := HR9.out.1.2 4 (.int .i64 0) rfl
  have fz4 := HR9.out.2 4
  have z5 := HR9.out.1.2 5 (.int .i64 0) rfl
  have fz5 := HR9.out.2 5
  have z6 := HR9.out.1.2 6 (.slice none 0 0) rfl
  have fz6 := HR9.out.2 6
  have z7 := HR9.out.1.2 7 (.slice none 0 0) rfl
  have fz7 := HR9.out.2 7
  have z8 := HR9.out.1.2 8 (.int .i64 0) rfl
  have fz8 := HR9.out.2 8
  have z9 := HR9.out.1.2 9 (.int .i64 0) rfl
  have fz9 := HR9.out.2 9
  have z10 := HR9.out.1.2 10 (.int .i64 0) rfl
  have fz10 := HR9.out.2 10
  have z11 := HR9.out.1.2 11 (.int .i64 0) rfl
  have fz11 := HR9.out.2 11
  go_wp2_with (
    with_reducible refine bodyPost_ret (v := .agg #[.int .i64 1, .int .i64 sc, .slice A8 n c8, .int .i64 0, .int .i64 0, .int .i64 0, .slice none 0 0, .slice none 0 0, .int .i64 0, .int .i64 0, .int .i64 0, .int .i64 0]) ?hres rfl ?hpost
    case hres => exact results_box rfl _ _ (w.heap.size) [.int .i64 1, .int .i64 sc, .slice A8 n c8, .int .i64 0, .int .i64 0, .int .i64 0, .slice none 0 0, .slice none 0 0, .int .i64 0, .int .i64 0, .int .i64 0, .int .i64 0] _ rfl ((((((((((((HR9.out.1.put 0 _).put 1 _).put 2 _).put 3 _).put 4 _).put 5 _).put 6 _).put 7 _).put 8 _).put 9 _).put 10 _).put 11 _) Try.underlying38 rfl (by kernel_rfl)
    case hpost => exact GivesObj.mk_ HO9.out (by omega) (((((((((((((Touch.refl (fun b => b = w.heap.size) w9).setCell rfl _).setCell rfl _).setCell rfl _).setCell rfl _).setCell rfl _).setCell rfl _).setCell rfl _).setCell rfl _).setCell rfl _).setCell rfl _).setCell rfl _).setCell rfl _) ((((((((((((HB9.out.setCell (Nat.le_refl _) _).setCell (Nat.le_refl _) _).setCell (Nat.le_refl _) _).setCell (Nat.le_refl _) _).setCell (Nat.le_refl _) _).setCell (Nat.le_refl _) _).setCell (Nat.le_refl _) _).setCell (Nat.le_refl _) _).setCell (Nat.le_refl _) _).setCell (Nat.le_refl _) _).setCell (Nat.le_refl _) _).setCell (Nat.le_refl _) _))
set_option maxRecDepth 100000 in
set_option maxHeartbeats 4000000 in
theorem specNewObj (sc : Int) (L : List Dat) (A : Option Addr) (n c : Nat) (w : World) (h : Lies w (.l L) [.slice A n c]) (ht : ∀ x ∈ L, Has tyValue x) (hn : n ≤ 1099511627776) : Calls Try.prog 69 #[.int .i64 sc, .slice A n c] w (GivesObj sc L n w) := by
  obtain ⟨i0, hi, hz0, hz1, hz2⟩ := info_parts infoValue
  have B0 : Hid (Below w.heap.size w ((w.alloc (.cells #[.int .i64 0, .int .i64 0, .slice none 0 0, .int .i64 0, .int .i64 0, .int .i64 0, .slice none 0 0, .slice none 0 0, .int .i64 0, .int .i64 0, .int .i64 0, .int .i64 0] 38)).alloc (.cells #[] 31))) := Lib.hid (by go_grown)
  have R0 := Lib.hid (ResBox.new w)
  have G0 := Lib.hid (Grow.lit9 31 2 (w.alloc (.cells #[.int .i64 0, .int .i64 0, .slice none 0 0, .int .i64 0, .int .i64 0, .int .i64 0, .slice none 0 0, .slice none 0 0, .int .i64 0, .int .i64 0, .int .i64 0, .int .i64 0] 38)))
  simp only [World.size_alloc] at G0
  have HL := Lib.hid h
  have HT := Lib.hid ht
  clear h ht
  go_enter Try.func69, Try.ntmps69
  go_wp2_with (first | (refine wpList_append_dat _ rfl _ _ 35 rfl 2 (by omega) 31 i0 _ 16 Try.underlying35 hi hz0 hz1 rfl hz2 (w.heap.size + 1) _ 0 0 [] _ rfl G0.out A n c L (fun _ => False) rfl (Src.of_lies (HL.out.below B0.out) (fun x hx => (HT.out x hx).width) (fun x hx => flatValue (HT.out x hx))) (fun b h => h.elim) (fun a e h => h) (by unfold maxLen; omega) (by omega) (by simp) ?_; intro A8 c8 w8 hG hTc hA8; (have HO := Lib.hid (GrowObj hG)); (have HR := Lib.hid (ResBox.touch R0.out hTc)); (have HB := Lib.hid (B0.out.trans (hTc.below (fun b ⟨a, e, hb⟩ => by obtain rfl := Option.some.inj e; subst hb; simp; done) (by simp; omega)))); clear hG hTc hA8; have z0 := HR.out.1.2 0 (.int .i64 0) rfl; have fz0 := HR.out.2 0; have z1 := HR.out.1.2 1 (.int .i64 0) rfl; have fz1 := HR.out.2 1; have z2 := HR.out.1.2 2 (.slice none 0 0) rfl; have fz2 := HR.out.2 2; have z3 := HR.out.1.2 3 (.int .i64 0) rfl; have fz3 := HR.out.2 3; have z4 := HR.out.1.2 4 (.int .i64 0) rfl; have fz4 := HR.out.2 4; have z5 := HR.out.1.2 5 (.int .i64 0) rfl; have fz5 := HR.out.2 5; have z6 := HR.out.1.2 6 (.slice none 0 0) rfl; have fz6 := HR.out.2 6; have z7 := HR.out.1.2 7 (.slice none 0 0) rfl; have fz7 := HR.out.2 7; have z8 := HR.out.1.2 8 (.int .i64 0) rfl; have fz8 := HR.out.2 8; have z9 := HR.out.1.2 9 (.int .i64 0) rfl; have fz9 := HR.out.2 9; have z10 := HR.out.1.2 10 (.int .i64 0) rfl; have fz10 := HR.out.2 10; have z11 := HR.out.1.2 11 (.int .i64 0) rfl; have fz11 := HR.out.2 11) | fail)
  refine bodyPost_ret (v := .agg #[.int .i64 1, .int .i64 sc, .slice A8 n c8, .int .i64 0, .int .i64 0, .int .i64 0, .slice none 0 0, .slice none 0 0, .int .i64 0, .int .i64 0, .int .i64 0, .int .i64 0]) ?hres rfl ?hpost
  case hres => exact results_box rfl _ _ (w.heap.size) [.int .i64 1, .int .i64 sc, .slice A8 n c8, .int .i64 0, .int .i64 0, .int .i64 0, .slice none 0 0, .slice none 0 0, .int .i64 0, .int .i64 0, .int .i64 0, .int .i64 0] _ rfl ((((((((((((HR.out.1.put 0 _).put 1 _).put 2 _).put 3 _).put 4 _).put 5 _).put 6 _).put 7 _).put 8 _).put 9 _).put 10 _).put 11 _) Try.underlying38 rfl (by kernel_rfl)
  case hpost => exact GivesObj.mk_ HO.out (Nat.le_refl _) (((((((((((((Touch.refl (fun b => b = w.heap.size) w8).setCell rfl _).setCell rfl _).setCell rfl _).setCell rfl _).setCell rfl _).setCell rfl _).setCell rfl _).setCell rfl _).setCell rfl _).setCell rfl _).setCell rfl _).setCell rfl _) ((((((((((((HB.out.setCell (Nat.le_refl _) _).setCell (Nat.le_refl _) _).setCell (Nat.le_refl _) _).setCell (Nat.le_refl _) _).setCell (Nat.le_refl _) _).setCell (Nat.le_refl _) _).setCell (Nat.le_refl _) _).setCell (Nat.le_refl _) _).setCell (Nat.le_refl _) _).setCell (Nat.le_refl _) _).setCell (Nat.le_refl _) _).setCell (Nat.le_refl _) _)
end Go.Proofs.Ytmeacgpebpfpbaa
end
