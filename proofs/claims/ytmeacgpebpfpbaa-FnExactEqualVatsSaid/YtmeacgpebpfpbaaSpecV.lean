/- The reference's chapter 4: each as its answer. -/
import Derived.Test.YtmeacgpebpfpbaaVal
import Derived.Test.YtmeacgpebpfpbaaMods
import Derived.Handy
namespace Go.Proofs.Ytmeacgpebpfpbaa
open Go.RowKit
def isVal (v : V) (e : Int) : Bool := decide ((v.kind = 0 ∧ 0 ≤ v.n ∧ v.n ≤ 999999) ∨ (v.kind = 1 ∧ 0 ≤ v.n ∧ v.n < e) ∨ (v.kind = 2 ∧ v.n = 0))
theorem isVal_yes {v : V} {e : Int} (h : (v.kind = 0 ∧ 0 ≤ v.n ∧ v.n ≤ 999999) ∨ (v.kind = 1 ∧ 0 ≤ v.n ∧ v.n < e) ∨ (v.kind = 2 ∧ v.n = 0)) : isVal v e = true := decide_eq_true h
theorem isVal_no {v : V} {e : Int} (h : ¬ ((v.kind = 0 ∧ 0 ≤ v.n ∧ v.n ≤ 999999) ∨ (v.kind = 1 ∧ 0 ≤ v.n ∧ v.n < e) ∨ (v.kind = 2 ∧ v.n = 0))) : isVal v e = false := decide_eq_false h
def intV (n : Int) : V := ⟨0, n % 1000000⟩
def addV (a b : V) : V := if a.kind = 0 ∧ b.kind = 0 ∧ (0 ≤ a.n ∧ a.n ≤ 999999) ∧ (0 ≤ b.n ∧ b.n ≤ 999999) then intV (a.n + b.n) else ⟨2, 0⟩
theorem addV_yes {a b : V} (h : a.kind = 0 ∧ b.kind = 0 ∧ (0 ≤ a.n ∧ a.n ≤ 999999) ∧ (0 ≤ b.n ∧ b.n ≤ 999999)) : addV a b = intV (a.n + b.n) := if_pos h
theorem addV_no {a b : V} (h : ¬ (a.kind = 0 ∧ b.kind = 0 ∧ (0 ≤ a.n ∧ a.n ≤ 999999) ∧ (0 ≤ b.n ∧ b.n ≤ 999999))) : addV a b = ⟨2, 0⟩ := if_neg h
def isNum (v : V) (n : Int) : Bool := decide (v.kind = 0 ∧ v.n = n)
theorem isNum_zero (m n : Int) : isNum ⟨0, m⟩ n = (m == n) := by simp [isNum]; rfl
theorem isNum_no {k m n : Int} (h : ¬ k = 0) : isNum ⟨k, m⟩ n = false := by simp [isNum, h]
theorem isVal_two (n e : Int) : isVal ⟨2, n⟩ e = (n == 0) := by simp [isVal]; rfl
def areVals (L : List V) (e : Int) : Bool := L.all fun v => isVal v e
theorem isVal_int (n e : Int) (h0 : 0 ≤ n) (h1 : n ≤ 999999) : isVal ⟨0, n⟩ e = true := isVal_yes (Or.inl ⟨rfl, h0, h1⟩)
theorem isVal_intn (n e : Int) (h : ¬ (0 ≤ n ∧ n ≤ 999999)) : isVal ⟨0, n⟩ e = false := isVal_no fun hc => by
  rcases hc with ⟨-, hc⟩ | ⟨hc, -⟩ | ⟨hc, -⟩
  · exact h hc
  · cases hc
  · cases hc
theorem isVal_ref (n e : Int) (h0 : 0 ≤ n) (h1 : n < e) : isVal ⟨1, n⟩ e = true := isVal_yes (Or.inr (Or.inl ⟨rfl, h0, h1⟩))
theorem isVal_refn (n e : Int) (h : ¬ (0 ≤ n ∧ n < e)) : isVal ⟨1, n⟩ e = false := isVal_no fun hc => by
  rcases hc with ⟨hc, -⟩ | ⟨-, hc⟩ | ⟨hc, -⟩
  · cases hc
  · exact h hc
  · cases hc
theorem isVal_other (k n e : Int) (h0 : ¬ k = 0) (h1 : ¬ k = 1) (h2 : ¬ k = 2) : isVal ⟨k, n⟩ e = false := isVal_no fun hc => by
  rcases hc with ⟨hc, -⟩ | ⟨hc, -⟩ | ⟨hc, -⟩
  · exact h0 hc
  · exact h1 hc
  · exact h2 hc
theorem specIntV (n : Int) (w : World) : Calls Try.prog 109 #[.int .i64 n] w (GivesV (intV n) w) := by
  go_enter Try.func109, Try.ntmps109
  go_wp2_with ((with_reducible refine (specModA n 1000000 _ (by omega) (by omega)).mono ?_); rintro e w' ⟨rfl, rfl⟩)
  go_returns
  exact GivesV.ret rfl rfl ((Below.refl _ _).alloc (Nat.le_refl _) _)
theorem l1In_t (n a b : Int) (w : World) (h1 : a ≤ n) (h2 : n ≤ b) : Calls Try.prog 50 #[.int .i64 n, .int .i64 a, .int .i64 b] w fun e w' => e = .returned (.bool true) ∧ w = w' := by
  go_enter Try.func50, Try.ntmps50
  go_wp2
  go_ret
  exact ⟨rfl, rfl⟩
theorem specRefV (n : Int) (w : World) : Calls Try.prog 45 #[.int .i64 n] w (GivesV ⟨1, n⟩ w) := by
  go_enter Try.func45, Try.ntmps45
  go_wp2
  go_returns
  exact GivesV.ret rfl rfl ((Below.refl _ _).alloc (Nat.le_refl _) _)
theorem specBroV (w : World) : Calls Try.prog 51 #[] w (GivesV ⟨2, 0⟩ w) := by
  go_enter Try.func51, Try.ntmps51
  go_wp2
  go_returns
  exact GivesV.ret rfl rfl ((Below.refl _ _).alloc (Nat.le_refl _) _)
end Go.Proofs.Ytmeacgpebpfpbaa
