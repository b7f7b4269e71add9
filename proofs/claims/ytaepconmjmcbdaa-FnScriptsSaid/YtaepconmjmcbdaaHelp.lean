/- The laws' own helpers: big, at, sameBytes, sameInts. -/
import Derived.Test.YtaepconmjmcbdaaKit
import Derived.Test.YtaepconmjmcbdaaProg
import Derived.LoopTactic
import Derived.Lib.Hide
import Derived.Deep.QuietTactic
import Derived.BigQuiet
import Derived.Test.YtaepconmjmcbdaaSlI
import Derived.Test.YtaepconmjmcbdaaOpen
namespace Go.Proofs.Ytaepconmjmcbdaa
open Go.RowKit
theorem big_no (A : Option Addr) (n c : Nat) (w : World) (h : n ≤ 1048576) : Calls Try.prog 11 #[.slice A n c] w fun e w' => e = .returned (.bool false) ∧ w = w' := by
  go_enter Try.func11, Try.ntmps11
  go_wp2
  go_ret
  exact ⟨by simp; omega, rfl⟩
theorem big_yes (A : Option Addr) (n c : Nat) (w : World) (h : ¬ n ≤ 1048576) : Calls Try.prog 11 #[.slice A n c] w fun e w' => e = .returned (.bool true) ∧ w = w' := by
  go_enter Try.func11, Try.ntmps11
  go_wp2
  go_ret
  exact ⟨by simp; omega, rfl⟩
/-- A byte of the input, or a substitute. -/
def Byte1 (w : World) (e : Ending) (w' : World) : Prop := ∃ x : Int, 0 ≤ x ∧ x ≤ 255 ∧ e = .returned (.int .i64 x) ∧ w = w'
theorem Byte1.ret {x : Int} {w : World} (h0 : 0 ≤ x) (h1 : x ≤ 255) : Byte1 w (.returned (.int .i64 x)) w := ⟨x, h0, h1, rfl, rfl⟩
end Go.Proofs.Ytaepconmjmcbdaa
