/- The laws' own helpers: big, at, sameBytes, sameInts. -/
import Derived.Test.YtamnalkoacpcoaaKit
import Derived.Test.YtamnalkoacpcoaaProg
import Derived.LoopTactic
import Derived.Lib.Hide
import Derived.Deep.QuietTactic
import Derived.BigQuiet
import Derived.Test.YtamnalkoacpcoaaSlI
import Derived.Test.YtamnalkoacpcoaaOpen
namespace Go.Proofs.Ytamnalkoacpcoaa
open Go.RowKit
set_option maxHeartbeats 1000000 in
/-- Two slices that read alike. -/
theorem sameI (A A' : Option Addr) (n n' c c' : Nat) (zs zs' : List Int) (w : World) (h : Rz .i64 w A n zs) (h' : Rz .i64 w A' n' zs') (he : zs = zs') (hn : n ≤ 1099511627776) :
    Calls Try.prog 18 #[.slice A n c, .slice A' n' c'] w (GivesBool true w) := by
  obtain rfl : n = n' := by rw [← h.1, ← h'.1, he]
  subst he
  have H := Lib.hid h
  have H' := Lib.hid h'
  clear h h'
  go_enter Try.func18, Try.ntmps18
  go_wp2
  go_loopw [5] (fun iv wr => ∃ i : Nat, i ≤ n ∧ iv = .int .i64 i ∧ Below w.heap.size w wr) (fun iv _ => n - (intOf iv).toNat)
  case atStart => exact ⟨0, Nat.zero_le _, rfl, Below.refl _ _⟩
  case round =>
    obtain ⟨i, hin, rfl, hb⟩ := hrel
    by_cases hlt : i < n
    · obtain ⟨b, off, z, rfl, hbw, hzi, hcell⟩ := (H.out.below hb).at_ hlt
      obtain ⟨b', off', z', rfl, hbw', hzi', hcell'⟩ := (H'.out.below hb).at_ hlt
      obtain rfl : z = z' := by rw [hzi] at hzi'; exact Option.some.inj hzi'
      have hB := Lib.hid hb
      clear hzi hzi' hb
      go_wp2
      go_quiet (fail)
      go_wp2
      go_roundw
      case rel => exact ⟨i + 1, by omega, by go_num, below_drewN hB.out _⟩
      case measure => simp [intOf]; omega
    · have hB := Lib.hid hb
      clear hb
      go_wp2
      go_ret
      exact GivesBool.ret hB.out
theorem big_no (A : Option Addr) (n c : Nat) (w : World) (h : n ≤ 1048576) : Calls Try.prog 10 #[.slice A n c] w fun e w' => e = .returned (.bool false) ∧ w = w' := by
  go_enter Try.func10, Try.ntmps10
  go_wp2
  go_ret
  exact ⟨by simp; omega, rfl⟩
theorem big_yes (A : Option Addr) (n c : Nat) (w : World) (h : ¬ n ≤ 1048576) : Calls Try.prog 10 #[.slice A n c] w fun e w' => e = .returned (.bool true) ∧ w = w' := by
  go_enter Try.func10, Try.ntmps10
  go_wp2
  go_ret
  exact ⟨by simp; omega, rfl⟩
/-- A byte of the input, or a substitute. -/
def Byte1 (w : World) (e : Ending) (w' : World) : Prop := ∃ x : Int, 0 ≤ x ∧ x ≤ 255 ∧ e = .returned (.int .i64 x) ∧ w = w'
theorem Byte1.ret {x : Int} {w : World} (h0 : 0 ≤ x) (h1 : x ≤ 255) : Byte1 w (.returned (.int .i64 x)) w := ⟨x, h0, h1, rfl, rfl⟩
end Go.Proofs.Ytamnalkoacpcoaa
