/- Chapter 11's data, by program. -/
import Derived.Test.YtmeacgpebpfpbaaTyM1
import Derived.LoopTactic
import Derived.Lib.Hide
import Derived.Deep.QuietTactic
import Derived.BigQuiet
import Derived.Deep.RegionWith
import Derived.Handy
namespace Go.Proofs.Ytmeacgpebpfpbaa
open Go.RowKit
set_option linter.unusedVariables false
set_option linter.unusedSimpArgs false
theorem noneWire {L : List Dat} (ht : ∀ x ∈ L, Has tyWire x) : bulkAll L = 0 := bulk_none (t := tyWire) rfl ht
set_option maxRecDepth 100000 in
set_option maxHeartbeats 4000000 in
theorem szWireS (L : List Dat) (A : Option Addr) (n c : Nat) (left : Int) (w : World) (h0 : 0 ≤ left) (h1 : left ≤ 1099511627776) (h : Lies w (.l L) [.slice A n c]) (ht : ∀ x ∈ L, Has tyWire x) (hn : n ≤ 9223372036854775807) : Calls Try.prog 183 #[.slice A n c, .int .i64 left] w (GivesInt (leftD (Dat.l L) left) w) := by
  have hc : (Dat.l L).bulk = n := by rw [Dat.bulk, noneWire ht, h.count]; rfl
  have HC := Lib.hid hc
  clear h ht hc
  by_cases g0 : left - n < 0
  · go_enter Try.func183, Try.ntmps183
    go_wp2
    go_ret
    exact GivesInt.ret (leftD_no (by have := HC.out; omega)) (Below.refl _ _)
  · go_enter Try.func183, Try.ntmps183
    go_wp2
    go_ret
    exact GivesInt.ret (leftD_ok (by have := HC.out; omega) (by have := HC.out; omega)) (Below.refl _ _)
set_option maxHeartbeats 4000000 in
theorem szMessage (f0 : Int) (f1 : Int) (f2 : Int) (f3 : Int) (f4 : ByteArray) (L5 : List Dat) (A5 : Option Addr) (n5 c5 : Nat) (f6_0 : Int) (f6_1 : Int) (f7 : Int) (f8_0 : Int) (f8_1 : Int) (f8_2 : Int) (left : Int) (w : World) (h0 : 0 ≤ left) (h1 : left ≤ 1099511627776) (hf4 : f4.size ≤ 9223372036854775807) (hl5 : Lies w (.l L5) [.slice A5 n5 c5]) (ht5 : ∀ x ∈ L5, Has tyWire x) (hm5 : n5 ≤ 9223372036854775807) : Calls Try.prog 171 #[.agg #[.int .i64 f0, .int .i64 f1, .int .i64 f2, .int .i64 f3, .string f4, .slice A5 n5 c5, .int .i64 f6_0, .int .i64 f6_1, .int .i64 f7, .int .i64 f8_0, .int .i64 f8_1, .int .i64 f8_2], .int .i64 left] w (GivesInt (leftD (.r [.i f0, .i f1, .i f2, .i f3, .s f4, .l L5, .r [.i f6_0, .i f6_1], .i f7, .r [.i f8_0, .i f8_1, .i f8_2]]) left) w) := by
  have HL5 := Lib.hid hl5
  have HT5 := Lib.hid ht5
  clear hl5 ht5
  have X := Lib.hid ((Held.start w).push #[.int .i64 f0, .int .i64 f1, .int .i64 f2, .int .i64 f3, .string f4, .slice A5 n5 c5, .int .i64 f6_0, .int .i64 f6_1, .int .i64 f7, .int .i64 f8_0, .int .i64 f8_1, .int .i64 f8_2] 195)
  go_enter Try.func171, Try.ntmps171
  by_cases g4 : left - f4.size < 0
  · go_wp2_with fail
    go_ret
    exact GivesInt.ret (leftD_no (by simp only [Dat.bulk, bulkAll] at *; omega)) X.out.1
  · skip
    go_wp2_with fail
    refine (szWireS L5 A5 n5 c5 (left - f4.size) _ (by omega) (by omega) (HL5.out.below (X.out.1)) HT5.out hm5).mono ?_
    rintro e w1 ⟨rfl, hb⟩
    replace X := Lib.hid (X.out.below hb)
    clear hb
    by_cases g5 : left - f4.size - (Dat.l L5).bulk < 0
    · rw [show leftD (Dat.l L5) (left - f4.size) = -1 from if_pos g5]
      have hneg : Hid (left - (.r [.i f0, .i f1, .i f2, .i f3, .s f4, .l L5, .r [.i f6_0, .i f6_1], .i f7, .r [.i f8_0, .i f8_1, .i f8_2]] : Dat).bulk < 0) := Lib.hid (by simp only [Dat.bulk, bulkAll] at *; omega)
      go_wp2_with fail
      go_ret
      exact GivesInt.ret (leftD_no hneg.out) X.out.1
    · rw [show leftD (Dat.l L5) (left - f4.size) = left - f4.size - (Dat.l L5).bulk from if_neg g5]
      obtain ⟨r5, hr5⟩ : ∃ r, r = left - f4.size - (Dat.l L5).bulk := ⟨_, rfl⟩
      rw [← hr5]
      have hp5 : 0 ≤ r5 := by omega
      have hu5 : r5 ≤ 1099511627776 := by omega
      have HR5 := Lib.hid hr5
      clear hr5 g5
      have hend : Hid (r5 = leftD (.r [.i f0, .i f1, .i f2, .i f3, .s f4, .l L5, .r [.i f6_0, .i f6_1], .i f7, .r [.i f8_0, .i f8_1, .i f8_2]]) left) := Lib.hid (leftD_ok (by have q0 := HR5.out; simp only [Dat.bulk, bulkAll] at *; omega) (by have q0 := HR5.out; simp only [Dat.bulk, bulkAll] at *; omega))
      go_wp2_with fail
      go_ret
      exact GivesInt.ret hend.out X.out.1
end Go.Proofs.Ytmeacgpebpfpbaa
