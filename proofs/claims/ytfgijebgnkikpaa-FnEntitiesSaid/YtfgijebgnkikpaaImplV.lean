/- The program's IsValue, IntValue, RefValue, IsNumber, addition of meanings: each as its answer. -/
import Derived.Test.YtfgijebgnkikpaaMean
namespace Go.Proofs.Ytfgijebgnkikpaa
open Go.RowKit
theorem inRng_t (n : Int) (w : World) (h1 : 0 ≤ n) (h2 : n ≤ 999999) : Calls Try.prog 118 #[.int .i64 n] w fun e w' => e = .returned (.bool true) ∧ w = w' := by
  go_enter Try.func118, Try.ntmps118
  go_wp2
  go_ret
  exact ⟨rfl, rfl⟩
theorem inRng_f (n : Int) (w : World) (h : ¬ (0 ≤ n ∧ n ≤ 999999)) : Calls Try.prog 118 #[.int .i64 n] w fun e w' => e = .returned (.bool false) ∧ w = w' := by
  by_cases h1 : 0 ≤ n
  · have h2 : ¬ n ≤ 999999 := fun h2 => h ⟨h1, h2⟩
    clear h
    go_enter Try.func118, Try.ntmps118
    go_wp2
    go_ret
    exact ⟨rfl, rfl⟩
  · clear h
    go_enter Try.func118, Try.ntmps118
    go_wp2
    go_ret
    exact ⟨rfl, rfl⟩
theorem wrapNum (n : Int) (w : World) : Calls Try.prog 60 #[.int .i64 n] w fun e w' => e = .returned (.int .i64 (n % 1000000)) ∧ w = w' := by
  go_enter Try.func60, Try.ntmps60
  go_wp2_with ((with_reducible refine (implModA n 1000000 _ (by omega) (by omega)).mono ?_); rintro e w' ⟨rfl, rfl⟩)
  go_ret
  exact ⟨rfl, rfl⟩
theorem numVal (n : Int) (w : World) : Calls Try.prog 61 #[.int .i64 n] w (GivesV ⟨0, n⟩ w) := by
  go_enter Try.func61, Try.ntmps61
  go_wp2
  go_returns
  exact GivesV.ret rfl rfl (by go_grown)
theorem broVal (w : World) : Calls Try.prog 120 #[.agg #[]] w (GivesV ⟨2, 0⟩ w) := by
  go_enter Try.func120, Try.ntmps120
  go_wp2
  go_returns
  exact GivesV.ret rfl rfl (by go_grown)
theorem implIntV (n : Int) (w : World) : Calls Try.prog 21 #[.int .i64 n] w (GivesV (intV n) w) := by
  go_enter Try.func21, Try.ntmps21
  go_wp2_with fail
  refine (wrapNum n _).mono ?_
  rintro e w' ⟨rfl, rfl⟩
  go_wp2
  go_returns
  exact GivesV.ret rfl rfl (by go_grown)
end Go.Proofs.Ytfgijebgnkikpaa
