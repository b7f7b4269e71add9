/- Chapter 9: what is pending, the slots, both sides. -/
import Derived.Test.YtmeacgpebpfpbaaEntV
import Derived.Test.YtmeacgpebpfpbaaImplV
import Derived.LoopTactic
import Derived.Lib.Hide
import Derived.Deep.QuietTactic
import Derived.BigQuiet
import Derived.Deep.RegionWith
import Derived.Handy
namespace Go.Proofs.Ytmeacgpebpfpbaa
open Go.RowKit
set_option linter.unusedVariables false
set_option linter.unusedSimpArgs false
/-- What is pending. -/
def pend (k st : Int) : Bool := decide (k = 2 ∧ (st = 1 ∨ st = 3 ∨ st = 4))
theorem pend_yes {k st : Int} (h : k = 2 ∧ (st = 1 ∨ st = 3 ∨ st = 4)) : pend k st = true := decide_eq_true h
theorem pend_no {k st : Int} (h : ¬ (k = 2 ∧ (st = 1 ∨ st = 3 ∨ st = 4))) : pend k st = false := decide_eq_false h
theorem specInB (n a b : Int) (w : World) : Calls Try.prog 50 #[.int .i64 n, .int .i64 a, .int .i64 b] w fun e w' => e = .returned (.bool (decide (a ≤ n ∧ n ≤ b))) ∧ w' = w := by
  by_cases h1 : a ≤ n
  · by_cases h2 : n ≤ b
    · have hd : decide (a ≤ n ∧ n ≤ b) = true := decide_eq_true ⟨h1, h2⟩
      rw [hd]
      go_enter Try.func50, Try.ntmps50
      go_wp2
      go_ret
      exact ⟨rfl, rfl⟩
    · have hd : decide (a ≤ n ∧ n ≤ b) = false := decide_eq_false (fun h => h2 h.2)
      rw [hd]
      go_enter Try.func50, Try.ntmps50
      go_wp2
      go_ret
      exact ⟨rfl, rfl⟩
  · have hd : decide (a ≤ n ∧ n ≤ b) = false := decide_eq_false (fun h => h1 h.1)
    rw [hd]
    go_enter Try.func50, Try.ntmps50
    go_wp2
    go_ret
    exact ⟨rfl, rfl⟩
theorem implInB (n a b : Int) (w : World) : Calls Try.prog 160 #[.int .i64 n, .int .i64 a, .int .i64 b] w fun e w' => e = .returned (.bool (decide (a ≤ n ∧ n ≤ b))) ∧ w' = w := by
  by_cases h1 : a ≤ n
  · by_cases h2 : n ≤ b
    · have hd : decide (a ≤ n ∧ n ≤ b) = true := decide_eq_true ⟨h1, h2⟩
      rw [hd]
      go_enter Try.func160, Try.ntmps160
      go_wp2
      go_ret
      exact ⟨rfl, rfl⟩
    · have hd : decide (a ≤ n ∧ n ≤ b) = false := decide_eq_false (fun h => h2 h.2)
      rw [hd]
      go_enter Try.func160, Try.ntmps160
      go_wp2
      go_ret
      exact ⟨rfl, rfl⟩
  · have hd : decide (a ≤ n ∧ n ≤ b) = false := decide_eq_false (fun h => h1 h.1)
    rw [hd]
    go_enter Try.func160, Try.ntmps160
    go_wp2
    go_ret
    exact ⟨rfl, rfl⟩
/-- The slot at an index; beyond them the number 0. -/
def slotV (L : List Dat) (i : Int) : V := if 0 ≤ i then (match L[i.toNat]? with | some d => vOf d | none => ⟨0, 0⟩) else ⟨0, 0⟩
theorem slotV_no {L : List Dat} {n : Nat} {i : Int} (hn : L.length = n) (h : ¬ (0 ≤ i ∧ i ≤ (n : Int) - 1)) : slotV L i = ⟨0, 0⟩ := by
  unfold slotV
  by_cases h0 : 0 ≤ i
  · rw [if_pos h0, List.getElem?_eq_none (by omega)]
  · rw [if_neg h0]
theorem slotV_at {L : List Dat} {k : Nat} {a b : Int} (h : L[k]? = some (.r [.i a, .i b])) : slotV L (k : Int) = ⟨a, b⟩ := by
  unfold slotV
  rw [if_pos (by omega), Int.toNat_natCast, h]
  rfl
end Go.Proofs.Ytmeacgpebpfpbaa
