/- Chapter 9: an entity's shape. -/
import Derived.Test.YtfgijebgnkikpaaNewE
import Derived.Test.YtfgijebgnkikpaaPendE
import Derived.Test.YtfgijebgnkikpaaLawE0
import Derived.Deep.RegionHeld3
import Derived.LoopTactic
import Derived.Lib.Hide
import Derived.Deep.QuietTactic
import Derived.BigQuiet
import Derived.Deep.RegionWith
import Derived.Handy
namespace Go.Proofs.Ytfgijebgnkikpaa
open Go.RowKit
set_option linter.unusedVariables false
set_option linter.unusedSimpArgs false
theorem hasSent (k s : Int) (b : Bool) (w : World) (h : decide (0 ≤ s ∧ s ≤ 999999) = b) : Calls Try.prog 113 #[.agg #[.int .i64 k, .int .i64 s]] w (GivesBool b w) := by
  have HB : Hid (Below w.heap.size w (w.alloc (.cells #[.int .i64 k, .int .i64 s] 77))) := Lib.hid (by go_grown)
  have HV := Lib.hid h
  clear h
  go_enter Try.func113, Try.ntmps113
  go_wp2_with ((with_reducible refine (implInB _ _ _ _).mono ?_); rintro e w1 ⟨rfl, rfl⟩; rw [HV.out])
  go_ret
  exact GivesBool.ret HB.out
set_option maxRecDepth 100000 in
set_option maxHeartbeats 4000000 in
theorem shapeObj (f1 : Int) (L2 : List Dat) (A2 : Option Addr) (n2 c2 : Nat) (f3 : Int) (f4_0 : Int) (f4_1 : Int) (L5 : List Dat) (A5 : Option Addr) (n5 c5 : Nat) (L6 : List Dat) (A6 : Option Addr) (n6 c6 : Nat) (f7 : Int) (f8 : Int) (f9 : Int) (f10 : Int) (w : World) : Calls Try.prog 54 #[.agg #[.int .i64 1, .int .i64 f1, .slice A2 n2 c2, .int .i64 f3, .int .i64 f4_0, .int .i64 f4_1, .slice A5 n5 c5, .slice A6 n6 c6, .int .i64 f7, .int .i64 f8, .int .i64 f9, .int .i64 f10]] w (GivesX (.tuple #[.iface 79 (.agg #[.int .i64 1, .int .i64 f10, .int .i64 f1, .slice A2 n2 c2]), .bool true]) w) := by
  have HB : Hid (Below w.heap.size w (w.alloc (.cells #[.int .i64 1, .int .i64 f1, .slice A2 n2 c2, .int .i64 f3, .int .i64 f4_0, .int .i64 f4_1, .slice A5 n5 c5, .slice A6 n6 c6, .int .i64 f7, .int .i64 f8, .int .i64 f9, .int .i64 f10] 30))) := Lib.hid (by go_grown)
  have X := Lib.hid (Box.new w #[.int .i64 1, .int .i64 f1, .slice A2 n2 c2, .int .i64 f3, .int .i64 f4_0, .int .i64 f4_1, .slice A5 n5 c5, .slice A6 n6 c6, .int .i64 f7, .int .i64 f8, .int .i64 f9, .int .i64 f10] 30)
  go_enter Try.func54, Try.ntmps54
  go_wp2_with fail
  go_region_held3 (fun w' => w'.cell? ⟨w.heap.size, 0, none⟩ = some (.int .i64 1) ∧ w'.cell? ⟨w.heap.size, 1, none⟩ = some (.int .i64 f1) ∧ w'.cell? ⟨w.heap.size, 2, none⟩ = some (.slice A2 n2 c2) ∧ w'.cell? ⟨w.heap.size, 3, none⟩ = some (.int .i64 f3) ∧ w'.cell? ⟨w.heap.size, 4, none⟩ = some (.int .i64 f4_0) ∧ w'.cell? ⟨w.heap.size, 5, none⟩ = some (.int .i64 f4_1) ∧ w'.cell? ⟨w.heap.size, 6, none⟩ = some (.slice A5 n5 c5) ∧ w'.cell? ⟨w.heap.size, 7, none⟩ = some (.slice A6 n6 c6) ∧ w'.cell? ⟨w.heap.size, 8, none⟩ = some (.int .i64 f7) ∧ w'.cell? ⟨w.heap.size, 9, none⟩ = some (.int .i64 f8) ∧ w'.cell? ⟨w.heap.size, 10, none⟩ = some (.int .i64 f9) ∧ w'.cell? ⟨w.heap.size, 11, none⟩ = some (.int .i64 f10))
    (first | with_reducible exact X.out.c12 | go_keep)
    (first | fail)
  all_goals (
    go_wp2
    refine bodyPost_ret (v := .tuple #[.iface 79 (.agg #[.int .i64 1, .int .i64 f10, .int .i64 f1, .slice A2 n2 c2]), .bool true]) (by simp [results, Try.results54, go_sem]) rfl ?_
    exact GivesX.ret (by go_grown))
set_option maxRecDepth 100000 in
set_option maxHeartbeats 4000000 in
theorem shapeProm (f1 : Int) (L2 : List Dat) (A2 : Option Addr) (n2 c2 : Nat) (f3 : Int) (f4_0 : Int) (f4_1 : Int) (L5 : List Dat) (A5 : Option Addr) (n5 c5 : Nat) (L6 : List Dat) (A6 : Option Addr) (n6 c6 : Nat) (f7 : Int) (f8 : Int) (f9 : Int) (f10 : Int) (w : World) : Calls Try.prog 54 #[.agg #[.int .i64 2, .int .i64 f1, .slice A2 n2 c2, .int .i64 f3, .int .i64 f4_0, .int .i64 f4_1, .slice A5 n5 c5, .slice A6 n6 c6, .int .i64 f7, .int .i64 f8, .int .i64 f9, .int .i64 f10]] w (GivesX (.tuple #[.iface 96 (.agg #[.int .i64 2, .int .i64 f10, .int .i64 f7, .int .i64 f8, .int .i64 f9, .int .i64 f3, .int .i64 f4_0, .int .i64 f4_1, .slice A5 n5 c5, .slice A6 n6 c6]), .bool true]) w) := by
  have HB : Hid (Below w.heap.size w (w.alloc (.cells #[.int .i64 2, .int .i64 f1, .slice A2 n2 c2, .int .i64 f3, .int .i64 f4_0, .int .i64 f4_1, .slice A5 n5 c5, .slice A6 n6 c6, .int .i64 f7, .int .i64 f8, .int .i64 f9, .int .i64 f10] 30))) := Lib.hid (by go_grown)
  have X := Lib.hid (Box.new w #[.int .i64 2, .int .i64 f1, .slice A2 n2 c2, .int .i64 f3, .int .i64 f4_0, .int .i64 f4_1, .slice A5 n5 c5, .slice A6 n6 c6, .int .i64 f7, .int .i64 f8, .int .i64 f9, .int .i64 f10] 30)
  go_enter Try.func54, Try.ntmps54
  go_wp2_with fail
  go_region_held3 (fun w' => w'.cell? ⟨w.heap.size, 0, none⟩ = some (.int .i64 2) ∧ w'.cell? ⟨w.heap.size, 1, none⟩ = some (.int .i64 f1) ∧ w'.cell? ⟨w.heap.size, 2, none⟩ = some (.slice A2 n2 c2) ∧ w'.cell? ⟨w.heap.size, 3, none⟩ = some (.int .i64 f3) ∧ w'.cell? ⟨w.heap.size, 4, none⟩ = some (.int .i64 f4_0) ∧ w'.cell? ⟨w.heap.size, 5, none⟩ = some (.int .i64 f4_1) ∧ w'.cell? ⟨w.heap.size, 6, none⟩ = some (.slice A5 n5 c5) ∧ w'.cell? ⟨w.heap.size, 7, none⟩ = some (.slice A6 n6 c6) ∧ w'.cell? ⟨w.heap.size, 8, none⟩ = some (.int .i64 f7) ∧ w'.cell? ⟨w.heap.size, 9, none⟩ = some (.int .i64 f8) ∧ w'.cell? ⟨w.heap.size, 10, none⟩ = some (.int .i64 f9) ∧ w'.cell? ⟨w.heap.size, 11, none⟩ = some (.int .i64 f10))
    (first | with_reducible exact X.out.c12 | go_keep)
    (first | fail)
  all_goals (
    go_wp2
    refine bodyPost_ret (v := .tuple #[.iface 96 (.agg #[.int .i64 2, .int .i64 f10, .int .i64 f7, .int .i64 f8, .int .i64 f9, .int .i64 f3, .int .i64 f4_0, .int .i64 f4_1, .slice A5 n5 c5, .slice A6 n6 c6]), .bool true]) (by simp [results, Try.results54, go_sem]) rfl ?_
    exact GivesX.ret (by go_grown))
set_option maxRecDepth 100000 in
set_option maxHeartbeats 4000000 in
theorem shapeProx (f1 : Int) (L2 : List Dat) (A2 : Option Addr) (n2 c2 : Nat) (f3 : Int) (f4_0 : Int) (f4_1 : Int) (L5 : List Dat) (A5 : Option Addr) (n5 c5 : Nat) (L6 : List Dat) (A6 : Option Addr) (n6 c6 : Nat) (f7 : Int) (f8 : Int) (f9 : Int) (f10 : Int) (w : World) : Calls Try.prog 54 #[.agg #[.int .i64 3, .int .i64 f1, .slice A2 n2 c2, .int .i64 f3, .int .i64 f4_0, .int .i64 f4_1, .slice A5 n5 c5, .slice A6 n6 c6, .int .i64 f7, .int .i64 f8, .int .i64 f9, .int .i64 f10]] w (GivesX (.tuple #[.iface 101 (.agg #[.int .i64 3, .int .i64 f10, .int .i64 f7, .int .i64 f8, .int .i64 f9]), .bool true]) w) := by
  have HB : Hid (Below w.heap.size w (w.alloc (.cells #[.int .i64 3, .int .i64 f1, .slice A2 n2 c2, .int .i64 f3, .int .i64 f4_0, .int .i64 f4_1, .slice A5 n5 c5, .slice A6 n6 c6, .int .i64 f7, .int .i64 f8, .int .i64 f9, .int .i64 f10] 30))) := Lib.hid (by go_grown)
  have X := Lib.hid (Box.new w #[.int .i64 3, .int .i64 f1, .slice A2 n2 c2, .int .i64 f3, .int .i64 f4_0, .int .i64 f4_1, .slice A5 n5 c5, .slice A6 n6 c6, .int .i64 f7, .int .i64 f8, .int .i64 f9, .int .i64 f10] 30)
  go_enter Try.func54, Try.ntmps54
  go_wp2_with fail
  go_region_held3 (fun w' => w'.cell? ⟨w.heap.size, 0, none⟩ = some (.int .i64 3) ∧ w'.cell? ⟨w.heap.size, 1, none⟩ = some (.int .i64 f1) ∧ w'.cell? ⟨w.heap.size, 2, none⟩ = some (.slice A2 n2 c2) ∧ w'.cell? ⟨w.heap.size, 3, none⟩ = some (.int .i64 f3) ∧ w'.cell? ⟨w.heap.size, 4, none⟩ = some (.int .i64 f4_0) ∧ w'.cell? ⟨w.heap.size, 5, none⟩ = some (.int .i64 f4_1) ∧ w'.cell? ⟨w.heap.size, 6, none⟩ = some (.slice A5 n5 c5) ∧ w'.cell? ⟨w.heap.size, 7, none⟩ = some (.slice A6 n6 c6) ∧ w'.cell? ⟨w.heap.size, 8, none⟩ = some (.int .i64 f7) ∧ w'.cell? ⟨w.heap.size, 9, none⟩ = some (.int .i64 f8) ∧ w'.cell? ⟨w.heap.size, 10, none⟩ = some (.int .i64 f9) ∧ w'.cell? ⟨w.heap.size, 11, none⟩ = some (.int .i64 f10))
    (first | with_reducible exact X.out.c12 | go_keep)
    (first | fail)
  all_goals (
    go_wp2
    refine bodyPost_ret (v := .tuple #[.iface 101 (.agg #[.int .i64 3, .int .i64 f10, .int .i64 f7, .int .i64 f8, .int .i64 f9]), .bool true]) (by simp [results, Try.results54, go_sem]) rfl ?_
    exact GivesX.ret (by go_grown))
set_option maxRecDepth 100000 in
set_option maxHeartbeats 4000000 in
theorem shapeNone (f0 : Int) (f1 : Int) (L2 : List Dat) (A2 : Option Addr) (n2 c2 : Nat) (f3 : Int) (f4_0 : Int) (f4_1 : Int) (L5 : List Dat) (A5 : Option Addr) (n5 c5 : Nat) (L6 : List Dat) (A6 : Option Addr) (n6 c6 : Nat) (f7 : Int) (f8 : Int) (f9 : Int) (f10 : Int) (w : World) (h1 : ¬ f0 = 1) (h2 : ¬ f0 = 2) (h3 : ¬ f0 = 3) : Calls Try.prog 54 #[.agg #[.int .i64 f0, .int .i64 f1, .slice A2 n2 c2, .int .i64 f3, .int .i64 f4_0, .int .i64 f4_1, .slice A5 n5 c5, .slice A6 n6 c6, .int .i64 f7, .int .i64 f8, .int .i64 f9, .int .i64 f10]] w (GivesX (.tuple #[.nilIface, .bool false]) w) := by
  have nb1 : (f0 == 1) = false := by simpa using h1
  have nb2 : (f0 == 2) = false := by simpa using h2
  have nb3 : (f0 == 3) = false := by simpa using h3
  have HB : Hid (Below w.heap.size w (w.alloc (.cells #[.int .i64 f0, .int .i64 f1, .slice A2 n2 c2, .int .i64 f3, .int .i64 f4_0, .int .i64 f4_1, .slice A5 n5 c5, .slice A6 n6 c6, .int .i64 f7, .int .i64 f8, .int .i64 f9, .int .i64 f10] 30))) := Lib.hid (by go_grown)
  have X := Lib.hid (Box.new w #[.int .i64 f0, .int .i64 f1, .slice A2 n2 c2, .int .i64 f3, .int .i64 f4_0, .int .i64 f4_1, .slice A5 n5 c5, .slice A6 n6 c6, .int .i64 f7, .int .i64 f8, .int .i64 f9, .int .i64 f10] 30)
  go_enter Try.func54, Try.ntmps54
  go_wp2_with fail
  go_region_held3 (fun w' => w'.cell? ⟨w.heap.size, 0, none⟩ = some (.int .i64 f0) ∧ w'.cell? ⟨w.heap.size, 1, none⟩ = some (.int .i64 f1) ∧ w'.cell? ⟨w.heap.size, 2, none⟩ = some (.slice A2 n2 c2) ∧ w'.cell? ⟨w.heap.size, 3, none⟩ = some (.int .i64 f3) ∧ w'.cell? ⟨w.heap.size, 4, none⟩ = some (.int .i64 f4_0) ∧ w'.cell? ⟨w.heap.size, 5, none⟩ = some (.int .i64 f4_1) ∧ w'.cell? ⟨w.heap.size, 6, none⟩ = some (.slice A5 n5 c5) ∧ w'.cell? ⟨w.heap.size, 7, none⟩ = some (.slice A6 n6 c6) ∧ w'.cell? ⟨w.heap.size, 8, none⟩ = some (.int .i64 f7) ∧ w'.cell? ⟨w.heap.size, 9, none⟩ = some (.int .i64 f8) ∧ w'.cell? ⟨w.heap.size, 10, none⟩ = some (.int .i64 f9) ∧ w'.cell? ⟨w.heap.size, 11, none⟩ = some (.int .i64 f10))
    (first | with_reducible exact X.out.c12 | go_keep)
    (first | fail)
  all_goals (
    go_wp2
    refine bodyPost_ret (v := .tuple #[.nilIface, .bool false]) (by simp [results, Try.results54, go_sem]) rfl ?_
    exact GivesX.ret (by go_grown))
end Go.Proofs.Ytfgijebgnkikpaa
