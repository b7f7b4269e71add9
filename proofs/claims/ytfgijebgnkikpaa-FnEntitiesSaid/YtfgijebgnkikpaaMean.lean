/- The program's meaningOf and the numbers' methods: each as its answer. -/
import Derived.Test.YtfgijebgnkikpaaSpecV
import Derived.Deep.RegionHeld3
namespace Go.Proofs.Ytfgijebgnkikpaa
open Go.RowKit
/-- A value comes back; what was there stands. -/
def GivesX (v : Value) (w : World) (e : Ending) (w' : World) : Prop := e = .returned v ∧ Below w.heap.size w w'
theorem GivesX.ret {v : Value} {w w' : World} (hb : Below w.heap.size w w') : GivesX v w (.returned v) w' := ⟨rfl, hb⟩
theorem cell_lowV {B : Nat} {w w' : World} (h : Below B w w') {b o : Nat} (hb : b < B) {v : Value} (hc : w.cell? ⟨b, o, none⟩ = some v) : w'.cell? ⟨b, o, none⟩ = some v := (h.cell (p := ⟨b, o, none⟩) hb).trans hc
theorem implBroV (w : World) : Calls Try.prog 119 #[] w (GivesV ⟨2, 0⟩ w) := by
  go_enter Try.func119, Try.ntmps119
  go_wp2
  go_returns
  exact GivesV.ret rfl rfl (by go_grown)
theorem mean_int (n : Int) (w : World) : Calls Try.prog 117 #[.agg #[.int .i64 0, .int .i64 n]] w (GivesX (.iface 90 (.int .i64 n)) w) := by
  go_enter Try.func117, Try.ntmps117
  go_wp2
  go_ret
  exact GivesX.ret (by go_grown)
theorem mean_ref (n : Int) (w : World) : Calls Try.prog 117 #[.agg #[.int .i64 1, .int .i64 n]] w (GivesX (.iface 154 (.int .i64 n)) w) := by
  go_enter Try.func117, Try.ntmps117
  go_wp2
  go_ret
  exact GivesX.ret (by go_grown)
set_option maxHeartbeats 1000000 in
theorem mean_bro (w : World) : Calls Try.prog 117 #[.agg #[.int .i64 2, .int .i64 0]] w (GivesX (.iface 156 (.agg #[])) w) := by
  have B0 : Hid (∀ o, Below w.heap.size w (w.alloc o)) := Lib.hid fun o => (Below.refl _ _).alloc (Nat.le_refl _) o
  have K0 : Hid ((w.alloc (.cells #[.int .i64 2, .int .i64 0] 26)).cell? ⟨w.heap.size, 0, none⟩ = some (.int .i64 2)) := Lib.hid (by simp [go_sem])
  have K1 : Hid ((w.alloc (.cells #[.int .i64 2, .int .i64 0] 26)).cell? ⟨w.heap.size, 1, none⟩ = some (.int .i64 0)) := Lib.hid (by simp [go_sem])
  go_enter Try.func117, Try.ntmps117
  go_wp2_with fail
  go_region_held3 (fun w' => w'.cell? ⟨w.heap.size, 0, none⟩ = some (.int .i64 2) ∧ w'.cell? ⟨w.heap.size, 1, none⟩ = some (.int .i64 0)) (first | go_keep | exact ⟨K0.out, K1.out⟩ | exact ⟨k2.out, k3.out⟩)
    ((go_at_call 119; refine (implBroV _).mono ?_; rintro e w7 ⟨rfl, hb7⟩
      have B7 : Hid (Below (w.heap.size + 1) (w.alloc (.cells #[.int .i64 2, .int .i64 0] 26)) w7) := Lib.hid ((Below.refl (w.heap.size + 1) (w.alloc (.cells #[.int .i64 2, .int .i64 0] 26))).drew.trans (hb7.mono (by simp)))
      have k2 := Lib.hid (cell_lowV B7.out (by omega) K0.out)
      have k3 := Lib.hid (cell_lowV B7.out (by omega) K1.out)
      clear hb7))
  all_goals (
    go_wp2_with fail
    go_ret
    exact GivesX.ret ((B0.out _).trans (B7.out.mono (by omega))))
set_option maxHeartbeats 1000000 in
theorem mean_two (n : Int) (w : World) (h : (n == 0) = false) : Calls Try.prog 117 #[.agg #[.int .i64 2, .int .i64 n]] w (GivesX (.iface 157 (.agg #[.int .i64 2, .int .i64 n])) w) := by
  have B0 : Hid (∀ o, Below w.heap.size w (w.alloc o)) := Lib.hid fun o => (Below.refl _ _).alloc (Nat.le_refl _) o
  have K0 : Hid ((w.alloc (.cells #[.int .i64 2, .int .i64 n] 26)).cell? ⟨w.heap.size, 0, none⟩ = some (.int .i64 2)) := Lib.hid (by simp [go_sem])
  have K1 : Hid ((w.alloc (.cells #[.int .i64 2, .int .i64 n] 26)).cell? ⟨w.heap.size, 1, none⟩ = some (.int .i64 n)) := Lib.hid (by simp [go_sem])
  go_enter Try.func117, Try.ntmps117
  go_wp2_with fail
  go_region_held3 (fun w' => w'.cell? ⟨w.heap.size, 0, none⟩ = some (.int .i64 2) ∧ w'.cell? ⟨w.heap.size, 1, none⟩ = some (.int .i64 n)) (first | go_keep | exact ⟨K0.out, K1.out⟩ | exact ⟨k2.out, k3.out⟩)
    ((go_at_call 119; refine (implBroV _).mono ?_; rintro e w7 ⟨rfl, hb7⟩
      have B7 : Hid (Below (w.heap.size + 1) (w.alloc (.cells #[.int .i64 2, .int .i64 n] 26)) w7) := Lib.hid ((Below.refl (w.heap.size + 1) (w.alloc (.cells #[.int .i64 2, .int .i64 n] 26))).drew.trans (hb7.mono (by simp)))
      have k2 := Lib.hid (cell_lowV B7.out (by omega) K0.out)
      have k3 := Lib.hid (cell_lowV B7.out (by omega) K1.out)
      clear hb7))
  all_goals (
    go_wp2_with fail
    go_ret
    exact GivesX.ret ((B0.out _).trans (B7.out.mono (by omega))))
set_option maxHeartbeats 1000000 in
theorem mean_unk (k n : Int) (w : World) (h0 : (k == 0) = false) (h1 : (k == 1) = false) (h2 : (k == 2) = false) : Calls Try.prog 117 #[.agg #[.int .i64 k, .int .i64 n]] w (GivesX (.iface 157 (.agg #[.int .i64 k, .int .i64 n])) w) := by
  have B0 : Hid (∀ o, Below w.heap.size w (w.alloc o)) := Lib.hid fun o => (Below.refl _ _).alloc (Nat.le_refl _) o
  have K0 : Hid ((w.alloc (.cells #[.int .i64 k, .int .i64 n] 26)).cell? ⟨w.heap.size, 0, none⟩ = some (.int .i64 k)) := Lib.hid (by simp [go_sem])
  have K1 : Hid ((w.alloc (.cells #[.int .i64 k, .int .i64 n] 26)).cell? ⟨w.heap.size, 1, none⟩ = some (.int .i64 n)) := Lib.hid (by simp [go_sem])
  go_enter Try.func117, Try.ntmps117
  go_wp2_with fail
  go_region_held3 (fun w' => w'.cell? ⟨w.heap.size, 0, none⟩ = some (.int .i64 k) ∧ w'.cell? ⟨w.heap.size, 1, none⟩ = some (.int .i64 n)) (first | go_keep | exact ⟨K0.out, K1.out⟩ | exact ⟨k2.out, k3.out⟩)
    ((go_at_call 119; refine (implBroV _).mono ?_; rintro e w7 ⟨rfl, hb7⟩
      have B7 : Hid (Below (w.heap.size + 1) (w.alloc (.cells #[.int .i64 k, .int .i64 n] 26)) w7) := Lib.hid ((Below.refl (w.heap.size + 1) (w.alloc (.cells #[.int .i64 k, .int .i64 n] 26))).drew.trans (hb7.mono (by simp)))
      have k2 := Lib.hid (cell_lowV B7.out (by omega) K0.out)
      have k3 := Lib.hid (cell_lowV B7.out (by omega) K1.out)
      clear hb7))
  all_goals (
    go_wp2_with fail
    go_ret
    exact GivesX.ret ((B0.out _).trans (B7.out.mono (by omega))))

end Go.Proofs.Ytfgijebgnkikpaa
