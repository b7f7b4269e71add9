/- The program's addMeanings. -/
import Derived.Test.YtiojckpopgpacaaAsk
namespace Go.Proofs.Ytiojckpopgpacaa
open Go.RowKit
theorem addM_oo (T T' : Nat) (x x' : Value) (w : World) (h : T ≠ 60) (h' : T' ≠ 60) :
    Calls Try.prog 39 #[.iface T x, .iface T' x'] w fun e w' => e = .returned (.iface 63 (.agg #[])) ∧ w = w' := by
  have a1 := ask_num_no T h x
  have a2 := ask_num_no T' h' x'
  clear h h'
  go_enter Try.func39, Try.ntmps39
  go_wp2
  go_ret
  exact ⟨rfl, rfl⟩
theorem addM_no (T' : Nat) (n : Int) (x' : Value) (w : World) (h' : T' ≠ 60) :
    Calls Try.prog 39 #[.iface 60 (.int .i64 n), .iface T' x'] w fun e w' => e = .returned (.iface 63 (.agg #[])) ∧ w = w' := by
  have a1 := ask_num (.int .i64 n)
  have a2 := ask_num_no T' h' x'
  clear h'
  go_enter Try.func39, Try.ntmps39
  go_wp2
  go_ret
  exact ⟨rfl, rfl⟩
theorem addM_on (T : Nat) (n : Int) (x : Value) (w : World) (h : T ≠ 60) :
    Calls Try.prog 39 #[.iface T x, .iface 60 (.int .i64 n)] w fun e w' => e = .returned (.iface 63 (.agg #[])) ∧ w = w' := by
  have a1 := ask_num (.int .i64 n)
  have a2 := ask_num_no T h x
  clear h
  go_enter Try.func39, Try.ntmps39
  go_wp2
  go_ret
  exact ⟨rfl, rfl⟩
theorem addM_nn (n m : Int) (w : World) (h1 : 0 ≤ n) (h2 : n ≤ 999999) (h3 : 0 ≤ m) (h4 : m ≤ 999999) :
    Calls Try.prog 39 #[.iface 60 (.int .i64 n), .iface 60 (.int .i64 m)] w fun e w' => e = .returned (.iface 60 (.int .i64 ((n + m) % 1000000))) ∧ w = w' := by
  have a1 := ask_num (.int .i64 n)
  have a2 := ask_num (.int .i64 m)
  go_enter Try.func39, Try.ntmps39
  go_wp2_with (first
    | ((with_reducible refine (inRng_t n _ h1 h2).mono ?_); rintro e w' ⟨rfl, rfl⟩)
    | ((with_reducible refine (inRng_t m _ h3 h4).mono ?_); rintro e w' ⟨rfl, rfl⟩)
    | ((with_reducible refine (wrapNum (n + m) _).mono ?_); rintro e w' ⟨rfl, rfl⟩))
  go_ret
  exact ⟨rfl, rfl⟩
theorem addM_fn (n m : Int) (w : World) (h1 : ¬ (0 ≤ n ∧ n ≤ 999999)) :
    Calls Try.prog 39 #[.iface 60 (.int .i64 n), .iface 60 (.int .i64 m)] w fun e w' => e = .returned (.iface 63 (.agg #[])) ∧ w = w' := by
  have H := Lib.hid h1
  clear h1
  have a1 := ask_num (.int .i64 n)
  have a2 := ask_num (.int .i64 m)
  go_enter Try.func39, Try.ntmps39
  go_wp2_with ((with_reducible refine (inRng_f n _ H.out).mono ?_); rintro e w' ⟨rfl, rfl⟩)
  go_ret
  exact ⟨rfl, rfl⟩
theorem addM_nf (n m : Int) (w : World) (h1 : 0 ≤ n) (h2 : n ≤ 999999) (h3 : ¬ (0 ≤ m ∧ m ≤ 999999)) :
    Calls Try.prog 39 #[.iface 60 (.int .i64 n), .iface 60 (.int .i64 m)] w fun e w' => e = .returned (.iface 63 (.agg #[])) ∧ w = w' := by
  have H := Lib.hid h3
  clear h3
  have a1 := ask_num (.int .i64 n)
  have a2 := ask_num (.int .i64 m)
  go_enter Try.func39, Try.ntmps39
  go_wp2_with (first
    | ((with_reducible refine (inRng_t n _ h1 h2).mono ?_); rintro e w' ⟨rfl, rfl⟩)
    | ((with_reducible refine (inRng_f m _ H.out).mono ?_); rintro e w' ⟨rfl, rfl⟩))
  go_ret
  exact ⟨rfl, rfl⟩
end Go.Proofs.Ytiojckpopgpacaa
