/- Chapter 9: new entities, both sides; a shape's entity. -/
import Derived.Test.YtfgijebgnkikpaaEntV
import Derived.Test.YtfgijebgnkikpaaMean
import Derived.Test.YtfgijebgnkikpaaImplV
import Derived.LoopTactic
import Derived.Lib.Hide
import Derived.Deep.QuietTactic
import Derived.BigQuiet
import Derived.Deep.RegionWith
import Derived.Handy
namespace Go.Proofs.Ytfgijebgnkikpaa
open Go.RowKit
set_option linter.unusedVariables false
set_option linter.unusedSimpArgs false
section
variable (w : World)
theorem objEnt (k s sc : Int) (A : Option Addr) (n c : Nat) : Calls Try.prog 52 #[.agg #[.int .i64 k, .int .i64 s, .int .i64 sc, .slice A n c]] w (GivesX (.agg #[.int .i64 k, .int .i64 sc, .slice A n c, .int .i64 0, .int .i64 0, .int .i64 0, .slice none 0 0, .slice none 0 0, .int .i64 0, .int .i64 0, .int .i64 0, .int .i64 s]) w) := by
  go_enter Try.func52, Try.ntmps52
  go_wp2_with (
    with_reducible refine bodyPost_ret (v := .agg #[.int .i64 k, .int .i64 sc, .slice A n c, .int .i64 0, .int .i64 0, .int .i64 0, .slice none 0 0, .slice none 0 0, .int .i64 0, .int .i64 0, .int .i64 0, .int .i64 s]) ?hres rfl ?hpost
    case hres => simp [results, Try.results52, go_sem]
    case hpost => exact GivesX.ret (by go_grown))
theorem promEnt (k s p q ct st vk vn : Int) (A B : Option Addr) (n c m d : Nat) : Calls Try.prog 62 #[.agg #[.int .i64 k, .int .i64 s, .int .i64 p, .int .i64 q, .int .i64 ct, .int .i64 st, .int .i64 vk, .int .i64 vn, .slice A n c, .slice B m d]] w (GivesX (.agg #[.int .i64 k, .int .i64 0, .slice none 0 0, .int .i64 st, .int .i64 vk, .int .i64 vn, .slice A n c, .slice B m d, .int .i64 p, .int .i64 q, .int .i64 ct, .int .i64 s]) w) := by
  go_enter Try.func62, Try.ntmps62
  go_wp2_with (
    with_reducible refine bodyPost_ret (v := .agg #[.int .i64 k, .int .i64 0, .slice none 0 0, .int .i64 st, .int .i64 vk, .int .i64 vn, .slice A n c, .slice B m d, .int .i64 p, .int .i64 q, .int .i64 ct, .int .i64 s]) ?hres rfl ?hpost
    case hres => simp [results, Try.results62, go_sem]
    case hpost => exact GivesX.ret (by go_grown))
theorem proxEnt (k s p q ct : Int) : Calls Try.prog 70 #[.agg #[.int .i64 k, .int .i64 s, .int .i64 p, .int .i64 q, .int .i64 ct]] w (GivesX (.agg #[.int .i64 k, .int .i64 0, .slice none 0 0, .int .i64 0, .int .i64 0, .int .i64 0, .slice none 0 0, .slice none 0 0, .int .i64 p, .int .i64 q, .int .i64 ct, .int .i64 s]) w) := by
  go_enter Try.func70, Try.ntmps70
  go_wp2_with (
    with_reducible refine bodyPost_ret (v := .agg #[.int .i64 k, .int .i64 0, .slice none 0 0, .int .i64 0, .int .i64 0, .int .i64 0, .slice none 0 0, .slice none 0 0, .int .i64 p, .int .i64 q, .int .i64 ct, .int .i64 s]) ?hres rfl ?hpost
    case hres => simp [results, Try.results70, go_sem]
    case hpost => exact GivesX.ret (by go_grown))
theorem implNewProm  : Calls Try.prog 22 #[] w (GivesX (.agg #[.int .i64 2, .int .i64 0, .slice none 0 0, .int .i64 1, .int .i64 0, .int .i64 0, .slice none 0 0, .slice none 0 0, .int .i64 0, .int .i64 0, .int .i64 0, .int .i64 0]) w) := by
  go_enter Try.func22, Try.ntmps22
  go_wp2_with fail
  refine (promEnt _ 2 0 0 0 0 1 0 0 none none 0 0 0 0).mono ?_
  rintro e w1 ⟨rfl, hb⟩
  have ZB : Box (w.heap.size) [.int .i64 0, .int .i64 0, .slice none 0 0, .int .i64 0, .int .i64 0, .int .i64 0, .slice none 0 0, .slice none 0 0, .int .i64 0, .int .i64 0, .int .i64 0, .int .i64 0] w1 := (Box.new w #[.int .i64 0, .int .i64 0, .slice none 0 0, .int .i64 0, .int .i64 0, .int .i64 0, .slice none 0 0, .slice none 0 0, .int .i64 0, .int .i64 0, .int .i64 0, .int .i64 0] 30).below hb
  have z0 := ZB.2 0 (.int .i64 0) rfl
  have fz0 : w1.frozen? ⟨w.heap.size, 0, none⟩ = false := (hb.frozen (p := ⟨w.heap.size, 0, none⟩) (by simp; try omega)).trans (by simp [go_sem])
  have z1 := ZB.2 1 (.int .i64 0) rfl
  have fz1 : w1.frozen? ⟨w.heap.size, 1, none⟩ = false := (hb.frozen (p := ⟨w.heap.size, 1, none⟩) (by simp; try omega)).trans (by simp [go_sem])
  have z2 := ZB.2 2 (.slice none 0 0) rfl
  have fz2 : w1.frozen? ⟨w.heap.size, 2, none⟩ = false := (hb.frozen (p := ⟨w.heap.size, 2, none⟩) (by simp; try omega)).trans (by simp [go_sem])
  have z3 := ZB.2 3 (.int .i64 0) rfl
  have fz3 : w1.frozen? ⟨w.heap.size, 3, none⟩ = false := (hb.frozen (p := ⟨w.heap.size, 3, none⟩) (by simp; try omega)).trans (by simp [go_sem])
  have z4 := ZB.2 4 (.int .i64 0) rfl
  have fz4 : w1.frozen? ⟨w.heap.size, 4, none⟩ = false := (hb.frozen (p := ⟨w.heap.size, 4, none⟩) (by simp; try omega)).trans (by simp [go_sem])
  have z5 := ZB.2 5 (.int .i64 0) rfl
  have fz5 : w1.frozen? ⟨w.heap.size, 5, none⟩ = false := (hb.frozen (p := ⟨w.heap.size, 5, none⟩) (by simp; try omega)).trans (by simp [go_sem])
  have z6 := ZB.2 6 (.slice none 0 0) rfl
  have fz6 : w1.frozen? ⟨w.heap.size, 6, none⟩ = false := (hb.frozen (p := ⟨w.heap.size, 6, none⟩) (by simp; try omega)).trans (by simp [go_sem])
  have z7 := ZB.2 7 (.slice none 0 0) rfl
  have fz7 : w1.frozen? ⟨w.heap.size, 7, none⟩ = false := (hb.frozen (p := ⟨w.heap.size, 7, none⟩) (by simp; try omega)).trans (by simp [go_sem])
  have z8 := ZB.2 8 (.int .i64 0) rfl
  have fz8 : w1.frozen? ⟨w.heap.size, 8, none⟩ = false := (hb.frozen (p := ⟨w.heap.size, 8, none⟩) (by simp; try omega)).trans (by simp [go_sem])
  have z9 := ZB.2 9 (.int .i64 0) rfl
  have fz9 : w1.frozen? ⟨w.heap.size, 9, none⟩ = false := (hb.frozen (p := ⟨w.heap.size, 9, none⟩) (by simp; try omega)).trans (by simp [go_sem])
  have z10 := ZB.2 10 (.int .i64 0) rfl
  have fz10 : w1.frozen? ⟨w.heap.size, 10, none⟩ = false := (hb.frozen (p := ⟨w.heap.size, 10, none⟩) (by simp; try omega)).trans (by simp [go_sem])
  have z11 := ZB.2 11 (.int .i64 0) rfl
  have fz11 : w1.frozen? ⟨w.heap.size, 11, none⟩ = false := (hb.frozen (p := ⟨w.heap.size, 11, none⟩) (by simp; try omega)).trans (by simp [go_sem])
  have HB : Hid (Below w.heap.size w w1) := Lib.hid (((Below.refl _ _).alloc (Nat.le_refl _) _).trans (hb.mono (by simp)))
  clear hb
  go_wp2_with (
    with_reducible refine bodyPost_ret (v := .agg #[.int .i64 2, .int .i64 0, .slice none 0 0, .int .i64 1, .int .i64 0, .int .i64 0, .slice none 0 0, .slice none 0 0, .int .i64 0, .int .i64 0, .int .i64 0, .int .i64 0]) ?hres rfl ?hpost
    case hres => exact results_box rfl _ _ (w.heap.size) [.int .i64 2, .int .i64 0, .slice none 0 0, .int .i64 1, .int .i64 0, .int .i64 0, .slice none 0 0, .slice none 0 0, .int .i64 0, .int .i64 0, .int .i64 0, .int .i64 0] _ rfl ((((((((((((ZB.put 0 _).put 1 _).put 2 _).put 3 _).put 4 _).put 5 _).put 6 _).put 7 _).put 8 _).put 9 _).put 10 _).put 11 _) Try.underlying30 rfl (by kernel_rfl)
    case hpost => exact GivesX.ret ((((((((((((HB.out.setCell (Nat.le_refl _) _).setCell (Nat.le_refl _) _).setCell (Nat.le_refl _) _).setCell (Nat.le_refl _) _).setCell (Nat.le_refl _) _).setCell (Nat.le_refl _) _).setCell (Nat.le_refl _) _).setCell (Nat.le_refl _) _).setCell (Nat.le_refl _) _).setCell (Nat.le_refl _) _).setCell (Nat.le_refl _) _).setCell (Nat.le_refl _) _))
theorem implNewProx (p q : Int) : Calls Try.prog 35 #[.int .i64 p, .int .i64 q] w (GivesX (.agg #[.int .i64 3, .int .i64 0, .slice none 0 0, .int .i64 0, .int .i64 0, .int .i64 0, .slice none 0 0, .slice none 0 0, .int .i64 p, .int .i64 q, .int .i64 1, .int .i64 0]) w) := by
  go_enter Try.func35, Try.ntmps35
  go_wp2_with fail
  refine (proxEnt _ 3 0 p q 1).mono ?_
  rintro e w1 ⟨rfl, hb⟩
  have ZB : Box (w.heap.size) [.int .i64 0, .int .i64 0, .slice none 0 0, .int .i64 0, .int .i64 0, .int .i64 0, .slice none 0 0, .slice none 0 0, .int .i64 0, .int .i64 0, .int .i64 0, .int .i64 0] w1 := (Box.new w #[.int .i64 0, .int .i64 0, .slice none 0 0, .int .i64 0, .int .i64 0, .int .i64 0, .slice none 0 0, .slice none 0 0, .int .i64 0, .int .i64 0, .int .i64 0, .int .i64 0] 30).below hb
  have z0 := ZB.2 0 (.int .i64 0) rfl
  have fz0 : w1.frozen? ⟨w.heap.size, 0, none⟩ = false := (hb.frozen (p := ⟨w.heap.size, 0, none⟩) (by simp; try omega)).trans (by simp [go_sem])
  have z1 := ZB.2 1 (.int .i64 0) rfl
  have fz1 : w1.frozen? ⟨w.heap.size, 1, none⟩ = false := (hb.frozen (p := ⟨w.heap.size, 1, none⟩) (by simp; try omega)).trans (by simp [go_sem])
  have z2 := ZB.2 2 (.slice none 0 0) rfl
  have fz2 : w1.frozen? ⟨w.heap.size, 2, none⟩ = false := (hb.frozen (p := ⟨w.heap.size, 2, none⟩) (by simp; try omega)).trans (by simp [go_sem])
  have z3 := ZB.2 3 (.int .i64 0) rfl
  have fz3 : w1.frozen? ⟨w.heap.size, 3, none⟩ = false := (hb.frozen (p := ⟨w.heap.size, 3, none⟩) (by simp; try omega)).trans (by simp [go_sem])
  have z4 := ZB.2 4 (.int .i64 0) rfl
  have fz4 : w1.frozen? ⟨w.heap.size, 4, none⟩ = false := (hb.frozen (p := ⟨w.heap.size, 4, none⟩) (by simp; try omega)).trans (by simp [go_sem])
  have z5 := ZB.2 5 (.int .i64 0) rfl
  have fz5 : w1.frozen? ⟨w.heap.size, 5, none⟩ = false := (hb.frozen (p := ⟨w.heap.size, 5, none⟩) (by simp; try omega)).trans (by simp [go_sem])
  have z6 := ZB.2 6 (.slice none 0 0) rfl
  have fz6 : w1.frozen? ⟨w.heap.size, 6, none⟩ = false := (hb.frozen (p := ⟨w.heap.size, 6, none⟩) (by simp; try omega)).trans (by simp [go_sem])
  have z7 := ZB.2 7 (.slice none 0 0) rfl
  have fz7 : w1.frozen? ⟨w.heap.size, 7, none⟩ = false := (hb.frozen (p := ⟨w.heap.size, 7, none⟩) (by simp; try omega)).trans (by simp [go_sem])
  have z8 := ZB.2 8 (.int .i64 0) rfl
  have fz8 : w1.frozen? ⟨w.heap.size, 8, none⟩ = false := (hb.frozen (p := ⟨w.heap.size, 8, none⟩) (by simp; try omega)).trans (by simp [go_sem])
  have z9 := ZB.2 9 (.int .i64 0) rfl
  have fz9 : w1.frozen? ⟨w.heap.size, 9, none⟩ = false := (hb.frozen (p := ⟨w.heap.size, 9, none⟩) (by simp; try omega)).trans (by simp [go_sem])
  have z10 := ZB.2 10 (.int .i64 0) rfl
  have fz10 : w1.frozen? ⟨w.heap.size, 10, none⟩ = false := (hb.frozen (p := ⟨w.heap.size, 10, none⟩) (by simp; try omega)).trans (by simp [go_sem])
  have z11 := ZB.2 11 (.int .i64 0) rfl
  have fz11 : w1.frozen? ⟨w.heap.size, 11, none⟩ = false := (hb.frozen (p := ⟨w.heap.size, 11, none⟩) (by simp; try omega)).trans (by simp [go_sem])
  have HB : Hid (Below w.heap.size w w1) := Lib.hid (((Below.refl _ _).alloc (Nat.le_refl _) _).trans (hb.mono (by simp)))
  clear hb
  go_wp2_with (
    with_reducible refine bodyPost_ret (v := .agg #[.int .i64 3, .int .i64 0, .slice none 0 0, .int .i64 0, .int .i64 0, .int .i64 0, .slice none 0 0, .slice none 0 0, .int .i64 p, .int .i64 q, .int .i64 1, .int .i64 0]) ?hres rfl ?hpost
    case hres => exact results_box rfl _ _ (w.heap.size) [.int .i64 3, .int .i64 0, .slice none 0 0, .int .i64 0, .int .i64 0, .int .i64 0, .slice none 0 0, .slice none 0 0, .int .i64 p, .int .i64 q, .int .i64 1, .int .i64 0] _ rfl ((((((((((((ZB.put 0 _).put 1 _).put 2 _).put 3 _).put 4 _).put 5 _).put 6 _).put 7 _).put 8 _).put 9 _).put 10 _).put 11 _) Try.underlying30 rfl (by kernel_rfl)
    case hpost => exact GivesX.ret ((((((((((((HB.out.setCell (Nat.le_refl _) _).setCell (Nat.le_refl _) _).setCell (Nat.le_refl _) _).setCell (Nat.le_refl _) _).setCell (Nat.le_refl _) _).setCell (Nat.le_refl _) _).setCell (Nat.le_refl _) _).setCell (Nat.le_refl _) _).setCell (Nat.le_refl _) _).setCell (Nat.le_refl _) _).setCell (Nat.le_refl _) _).setCell (Nat.le_refl _) _))
theorem specNewProm  : Calls Try.prog 33 #[] w (GivesX (.agg #[.int .i64 2, .int .i64 0, .slice none 0 0, .int .i64 1, .int .i64 0, .int .i64 0, .slice none 0 0, .slice none 0 0, .int .i64 0, .int .i64 0, .int .i64 0, .int .i64 0]) w) := by
  go_enter Try.func33, Try.ntmps33
  go_wp2_with (
    with_reducible refine bodyPost_ret (v := .agg #[.int .i64 2, .int .i64 0, .slice none 0 0, .int .i64 1, .int .i64 0, .int .i64 0, .slice none 0 0, .slice none 0 0, .int .i64 0, .int .i64 0, .int .i64 0, .int .i64 0]) ?hres rfl ?hpost
    case hres => simp [results, Try.results33, go_sem]
    case hpost => exact GivesX.ret (by go_grown))
theorem specNewProx (p q : Int) : Calls Try.prog 34 #[.int .i64 p, .int .i64 q] w (GivesX (.agg #[.int .i64 3, .int .i64 0, .slice none 0 0, .int .i64 0, .int .i64 0, .int .i64 0, .slice none 0 0, .slice none 0 0, .int .i64 p, .int .i64 q, .int .i64 1, .int .i64 0]) w) := by
  go_enter Try.func34, Try.ntmps34
  go_wp2_with (
    with_reducible refine bodyPost_ret (v := .agg #[.int .i64 3, .int .i64 0, .slice none 0 0, .int .i64 0, .int .i64 0, .int .i64 0, .slice none 0 0, .slice none 0 0, .int .i64 p, .int .i64 q, .int .i64 1, .int .i64 0]) ?hres rfl ?hpost
    case hres => simp [results, Try.results34, go_sem]
    case hpost => exact GivesX.ret (by go_grown))
end
end Go.Proofs.Ytfgijebgnkikpaa
