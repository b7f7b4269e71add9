/- Both sides' Mod at a modulus in range. -/
import Derived.Test.YtmeacgpebpfpbaaBase
import Derived.Test.YtmeacgpebpfpbaaProg
import Derived.LoopTactic
import Derived.Lib.Hide
namespace Go.Proofs.Ytmeacgpebpfpbaa
open Go.RowKit
theorem ret_iA {k : IntKind} {a b : Int} (h : a = b) : Ending.returned (.int k a) = .returned (.int k b) := by rw [h]
theorem tmod_upA {p q : Int} (hq : 1 ≤ q) (h : p.tmod q < 0) : p.tmod q + q = p % q := by
  have e := Int.tmod_eq_emod (a := p) (b := q)
  have l := Int.emod_nonneg p (by omega : q ≠ 0)
  have u := Int.emod_lt_of_pos p (by omega : 0 < q)
  split at e <;> omega
theorem tmod_atA {p q : Int} (hq : 1 ≤ q) (h : ¬ p.tmod q < 0) : p.tmod q = p % q := by
  have e := Int.tmod_eq_emod (a := p) (b := q)
  have l := Int.emod_nonneg p (by omega : q ≠ 0)
  have u := Int.emod_lt_of_pos p (by omega : 0 < q)
  split at e <;> omega
theorem tmod_modA {p q : Int} (hq : 1 ≤ q) : p.tmod q % q = p % q := by
  have e := Int.tmod_eq_emod (a := p) (b := q)
  rw [e]
  split
  · simp
  · have h : p % q - ↑q.natAbs = p % q + q * (-1) := by omega
    rw [h, Int.add_mul_emod_self_left]; simp
/-- Both sides' Mod at a modulus in range. -/
theorem specModA (p q : Int) (w : World) (h1 : 1 ≤ q) (h2 : q ≤ 1000000000000) : Calls Try.prog 159 #[.int .i64 p, .int .i64 q] w fun e w' => e = .returned (.int .i64 (p % q)) ∧ w = w' := by
  have hb1 := Int.lt_tmod_of_pos p (by omega : 0 < q)
  have hb2 := Int.tmod_lt_of_pos p (by omega : 0 < q)
  by_cases hp : 0 ≤ p
  · have hb3 := Int.emod_nonneg p (by omega : q ≠ 0)
    have hb4 := Int.emod_lt_of_pos p (by omega : 0 < q)
    go_enter Try.func159, Try.ntmps159
    go_wp2
    go_ret
    exact ⟨ret_iA (by simp), rfl⟩
  · go_enter Try.func159, Try.ntmps159
    go_wp2
    go_ret
    exact ⟨ret_iA (tmod_modA h1), rfl⟩
end Go.Proofs.Ytmeacgpebpfpbaa
