/- Chapter 11's data, by program. -/
import Derived.Test.YtmeacgpebpfpbaaTyM1
import Derived.LoopTactic
import Derived.Lib.Hide
import Derived.Deep.QuietTactic
import Derived.BigQuiet
import Derived.Deep.RegionWith
import Derived.Handy
namespace Go.Proofs.Ytmeacgpebpfpbaa
open Go.RowKit
set_option linter.unusedVariables false
set_option linter.unusedSimpArgs false
def GivesMessage (f0 : Int) (f1 : Int) (f2 : Int) (f3 : Int) (f4 : ByteArray) (L5 : List Dat) (n5 : Nat) (f6_0 : Int) (f6_1 : Int) (f7 : Int) (f8_0 : Int) (f8_1 : Int) (f8_2 : Int) (w : World) (e : Ending) (w' : World) : Prop := ∃ (B5 : Option Addr) (k5 : Nat), e = .returned (.agg #[.int .i64 f0, .int .i64 f1, .int .i64 f2, .int .i64 f3, .string f4, .slice B5 n5 k5, .int .i64 f6_0, .int .i64 f6_1, .int .i64 f7, .int .i64 f8_0, .int .i64 f8_1, .int .i64 f8_2]) ∧ Owns w' (.l L5) [.slice B5 n5 k5] (rng w.heap.size w'.heap.size) ∧ Below w.heap.size w w'
set_option maxHeartbeats 4000000 in
theorem toMessage (f0 : Int) (f1 : Int) (f2 : Int) (f3 : Int) (f4 : ByteArray) (L5 : List Dat) (A5 : Option Addr) (n5 c5 : Nat) (f6_0 : Int) (f6_1 : Int) (f7 : Int) (f8_0 : Int) (f8_1 : Int) (f8_2 : Int) (w : World) (hl5 : Lies w (.l L5) [.slice A5 n5 c5]) (ht5 : ∀ x ∈ L5, Has tyWire x) (hq5 : (Dat.l L5).bulk ≤ 1099511627776) : Calls Try.prog 175 #[.agg #[.int .i64 f0, .int .i64 f1, .int .i64 f2, .int .i64 f3, .string f4, .slice A5 n5 c5, .int .i64 f6_0, .int .i64 f6_1, .int .i64 f7, .int .i64 f8_0, .int .i64 f8_1, .int .i64 f8_2]] w (GivesMessage f0 f1 f2 f3 f4 L5 n5 f6_0 f6_1 f7 f8_0 f8_1 f8_2 w) := by
  have HL5 := Lib.hid hl5
  have HT5 := Lib.hid ht5
  clear hl5 ht5
  go_enter Try.func175, Try.ntmps175
  go_wp2_with fail
  refine (toWireS L5 A5 n5 c5 _ (HL5.out.below (by go_grown)) HT5.out hq5).mono ?_
  rintro e w1 ⟨B5, m5, k5, rfl, hO, hb⟩
  obtain rfl : n5 = m5 := by rw [← hO.lies.count, ← HL5.out.count]
  have y1_0 : w1.cell? ⟨w.heap.size + 1 + 1, 0, none⟩ = some (.int .i64 f0) := (hb.cell (p := ⟨w.heap.size + 1 + 1, 0, none⟩) (by simp; try omega)).trans (by simp [go_sem])
  have y1_1 : w1.cell? ⟨w.heap.size + 1 + 1, 1, none⟩ = some (.int .i64 f1) := (hb.cell (p := ⟨w.heap.size + 1 + 1, 1, none⟩) (by simp; try omega)).trans (by simp [go_sem])
  have y1_2 : w1.cell? ⟨w.heap.size + 1 + 1, 2, none⟩ = some (.int .i64 f2) := (hb.cell (p := ⟨w.heap.size + 1 + 1, 2, none⟩) (by simp; try omega)).trans (by simp [go_sem])
  have y1_3 : w1.cell? ⟨w.heap.size + 1 + 1, 3, none⟩ = some (.int .i64 f3) := (hb.cell (p := ⟨w.heap.size + 1 + 1, 3, none⟩) (by simp; try omega)).trans (by simp [go_sem])
  have y1_4 : w1.cell? ⟨w.heap.size + 1 + 1, 4, none⟩ = some (.string f4) := (hb.cell (p := ⟨w.heap.size + 1 + 1, 4, none⟩) (by simp; try omega)).trans (by simp [go_sem])
  have y1_5 : w1.cell? ⟨w.heap.size + 1 + 1, 5, none⟩ = some (.slice none 0 0) := (hb.cell (p := ⟨w.heap.size + 1 + 1, 5, none⟩) (by simp; try omega)).trans (by simp [go_sem])
  have y1_6 : w1.cell? ⟨w.heap.size + 1 + 1, 6, none⟩ = some (.int .i64 0) := (hb.cell (p := ⟨w.heap.size + 1 + 1, 6, none⟩) (by simp; try omega)).trans (by simp [go_sem])
  have y1_7 : w1.cell? ⟨w.heap.size + 1 + 1, 7, none⟩ = some (.int .i64 0) := (hb.cell (p := ⟨w.heap.size + 1 + 1, 7, none⟩) (by simp; try omega)).trans (by simp [go_sem])
  have y1_8 : w1.cell? ⟨w.heap.size + 1 + 1, 8, none⟩ = some (.int .i64 0) := (hb.cell (p := ⟨w.heap.size + 1 + 1, 8, none⟩) (by simp; try omega)).trans (by simp [go_sem])
  have y1_9 : w1.cell? ⟨w.heap.size + 1 + 1, 9, none⟩ = some (.int .i64 0) := (hb.cell (p := ⟨w.heap.size + 1 + 1, 9, none⟩) (by simp; try omega)).trans (by simp [go_sem])
  have y1_10 : w1.cell? ⟨w.heap.size + 1 + 1, 10, none⟩ = some (.int .i64 0) := (hb.cell (p := ⟨w.heap.size + 1 + 1, 10, none⟩) (by simp; try omega)).trans (by simp [go_sem])
  have y1_11 : w1.cell? ⟨w.heap.size + 1 + 1, 11, none⟩ = some (.int .i64 0) := (hb.cell (p := ⟨w.heap.size + 1 + 1, 11, none⟩) (by simp; try omega)).trans (by simp [go_sem])
  have z1_0 : w1.cell? ⟨w.heap.size + 1, 0, none⟩ = some (.int .i64 0) := (hb.cell (p := ⟨w.heap.size + 1, 0, none⟩) (by simp; try omega)).trans (by simp [go_sem])
  have z1_1 : w1.cell? ⟨w.heap.size + 1, 1, none⟩ = some (.int .i64 0) := (hb.cell (p := ⟨w.heap.size + 1, 1, none⟩) (by simp; try omega)).trans (by simp [go_sem])
  have z1_2 : w1.cell? ⟨w.heap.size + 1, 2, none⟩ = some (.int .i64 0) := (hb.cell (p := ⟨w.heap.size + 1, 2, none⟩) (by simp; try omega)).trans (by simp [go_sem])
  have z1_3 : w1.cell? ⟨w.heap.size + 1, 3, none⟩ = some (.int .i64 0) := (hb.cell (p := ⟨w.heap.size + 1, 3, none⟩) (by simp; try omega)).trans (by simp [go_sem])
  have z1_4 : w1.cell? ⟨w.heap.size + 1, 4, none⟩ = some (.string ⟨#[]⟩) := (hb.cell (p := ⟨w.heap.size + 1, 4, none⟩) (by simp; try omega)).trans (by simp [go_sem])
  have z1_5 : w1.cell? ⟨w.heap.size + 1, 5, none⟩ = some (.slice none 0 0) := (hb.cell (p := ⟨w.heap.size + 1, 5, none⟩) (by simp; try omega)).trans (by simp [go_sem])
  have z1_6 : w1.cell? ⟨w.heap.size + 1, 6, none⟩ = some (.int .i64 0) := (hb.cell (p := ⟨w.heap.size + 1, 6, none⟩) (by simp; try omega)).trans (by simp [go_sem])
  have z1_7 : w1.cell? ⟨w.heap.size + 1, 7, none⟩ = some (.int .i64 0) := (hb.cell (p := ⟨w.heap.size + 1, 7, none⟩) (by simp; try omega)).trans (by simp [go_sem])
  have z1_8 : w1.cell? ⟨w.heap.size + 1, 8, none⟩ = some (.int .i64 0) := (hb.cell (p := ⟨w.heap.size + 1, 8, none⟩) (by simp; try omega)).trans (by simp [go_sem])
  have z1_9 : w1.cell? ⟨w.heap.size + 1, 9, none⟩ = some (.int .i64 0) := (hb.cell (p := ⟨w.heap.size + 1, 9, none⟩) (by simp; try omega)).trans (by simp [go_sem])
  have z1_10 : w1.cell? ⟨w.heap.size + 1, 10, none⟩ = some (.int .i64 0) := (hb.cell (p := ⟨w.heap.size + 1, 10, none⟩) (by simp; try omega)).trans (by simp [go_sem])
  have z1_11 : w1.cell? ⟨w.heap.size + 1, 11, none⟩ = some (.int .i64 0) := (hb.cell (p := ⟨w.heap.size + 1, 11, none⟩) (by simp; try omega)).trans (by simp [go_sem])
  have x1_0 : w1.cell? ⟨w.heap.size, 0, none⟩ = some (.int .i64 f0) := (hb.cell (p := ⟨w.heap.size, 0, none⟩) (by simp; try omega)).trans (by simp [go_sem])
  have x1_1 : w1.cell? ⟨w.heap.size, 1, none⟩ = some (.int .i64 f1) := (hb.cell (p := ⟨w.heap.size, 1, none⟩) (by simp; try omega)).trans (by simp [go_sem])
  have x1_2 : w1.cell? ⟨w.heap.size, 2, none⟩ = some (.int .i64 f2) := (hb.cell (p := ⟨w.heap.size, 2, none⟩) (by simp; try omega)).trans (by simp [go_sem])
  have x1_3 : w1.cell? ⟨w.heap.size, 3, none⟩ = some (.int .i64 f3) := (hb.cell (p := ⟨w.heap.size, 3, none⟩) (by simp; try omega)).trans (by simp [go_sem])
  have x1_4 : w1.cell? ⟨w.heap.size, 4, none⟩ = some (.string f4) := (hb.cell (p := ⟨w.heap.size, 4, none⟩) (by simp; try omega)).trans (by simp [go_sem])
  have x1_5 : w1.cell? ⟨w.heap.size, 5, none⟩ = some (.slice A5 n5 c5) := (hb.cell (p := ⟨w.heap.size, 5, none⟩) (by simp; try omega)).trans (by simp [go_sem])
  have x1_6 : w1.cell? ⟨w.heap.size, 6, none⟩ = some (.int .i64 f6_0) := (hb.cell (p := ⟨w.heap.size, 6, none⟩) (by simp; try omega)).trans (by simp [go_sem])
  have x1_7 : w1.cell? ⟨w.heap.size, 7, none⟩ = some (.int .i64 f6_1) := (hb.cell (p := ⟨w.heap.size, 7, none⟩) (by simp; try omega)).trans (by simp [go_sem])
  have x1_8 : w1.cell? ⟨w.heap.size, 8, none⟩ = some (.int .i64 f7) := (hb.cell (p := ⟨w.heap.size, 8, none⟩) (by simp; try omega)).trans (by simp [go_sem])
  have x1_9 : w1.cell? ⟨w.heap.size, 9, none⟩ = some (.int .i64 f8_0) := (hb.cell (p := ⟨w.heap.size, 9, none⟩) (by simp; try omega)).trans (by simp [go_sem])
  have x1_10 : w1.cell? ⟨w.heap.size, 10, none⟩ = some (.int .i64 f8_1) := (hb.cell (p := ⟨w.heap.size, 10, none⟩) (by simp; try omega)).trans (by simp [go_sem])
  have x1_11 : w1.cell? ⟨w.heap.size, 11, none⟩ = some (.int .i64 f8_2) := (hb.cell (p := ⟨w.heap.size, 11, none⟩) (by simp; try omega)).trans (by simp [go_sem])
  have fy1_0 : w1.frozen? ⟨w.heap.size + 1 + 1, 0, none⟩ = false := (hb.frozen (p := ⟨w.heap.size + 1 + 1, 0, none⟩) (by simp; try omega)).trans (by simp [go_sem])
  have fy1_1 : w1.frozen? ⟨w.heap.size + 1 + 1, 1, none⟩ = false := (hb.frozen (p := ⟨w.heap.size + 1 + 1, 1, none⟩) (by simp; try omega)).trans (by simp [go_sem])
  have fy1_2 : w1.frozen? ⟨w.heap.size + 1 + 1, 2, none⟩ = false := (hb.frozen (p := ⟨w.heap.size + 1 + 1, 2, none⟩) (by simp; try omega)).trans (by simp [go_sem])
  have fy1_3 : w1.frozen? ⟨w.heap.size + 1 + 1, 3, none⟩ = false := (hb.frozen (p := ⟨w.heap.size + 1 + 1, 3, none⟩) (by simp; try omega)).trans (by simp [go_sem])
  have fy1_4 : w1.frozen? ⟨w.heap.size + 1 + 1, 4, none⟩ = false := (hb.frozen (p := ⟨w.heap.size + 1 + 1, 4, none⟩) (by simp; try omega)).trans (by simp [go_sem])
  have fy1_5 : w1.frozen? ⟨w.heap.size + 1 + 1, 5, none⟩ = false := (hb.frozen (p := ⟨w.heap.size + 1 + 1, 5, none⟩) (by simp; try omega)).trans (by simp [go_sem])
  have fy1_6 : w1.frozen? ⟨w.heap.size + 1 + 1, 6, none⟩ = false := (hb.frozen (p := ⟨w.heap.size + 1 + 1, 6, none⟩) (by simp; try omega)).trans (by simp [go_sem])
  have fy1_7 : w1.frozen? ⟨w.heap.size + 1 + 1, 7, none⟩ = false := (hb.frozen (p := ⟨w.heap.size + 1 + 1, 7, none⟩) (by simp; try omega)).trans (by simp [go_sem])
  have fy1_8 : w1.frozen? ⟨w.heap.size + 1 + 1, 8, none⟩ = false := (hb.frozen (p := ⟨w.heap.size + 1 + 1, 8, none⟩) (by simp; try omega)).trans (by simp [go_sem])
  have fy1_9 : w1.frozen? ⟨w.heap.size + 1 + 1, 9, none⟩ = false := (hb.frozen (p := ⟨w.heap.size + 1 + 1, 9, none⟩) (by simp; try omega)).trans (by simp [go_sem])
  have fy1_10 : w1.frozen? ⟨w.heap.size + 1 + 1, 10, none⟩ = false := (hb.frozen (p := ⟨w.heap.size + 1 + 1, 10, none⟩) (by simp; try omega)).trans (by simp [go_sem])
  have fy1_11 : w1.frozen? ⟨w.heap.size + 1 + 1, 11, none⟩ = false := (hb.frozen (p := ⟨w.heap.size + 1 + 1, 11, none⟩) (by simp; try omega)).trans (by simp [go_sem])
  have fz1_0 : w1.frozen? ⟨w.heap.size + 1, 0, none⟩ = false := (hb.frozen (p := ⟨w.heap.size + 1, 0, none⟩) (by simp; try omega)).trans (by simp [go_sem])
  have fz1_1 : w1.frozen? ⟨w.heap.size + 1, 1, none⟩ = false := (hb.frozen (p := ⟨w.heap.size + 1, 1, none⟩) (by simp; try omega)).trans (by simp [go_sem])
  have fz1_2 : w1.frozen? ⟨w.heap.size + 1, 2, none⟩ = false := (hb.frozen (p := ⟨w.heap.size + 1, 2, none⟩) (by simp; try omega)).trans (by simp [go_sem])
  have fz1_3 : w1.frozen? ⟨w.heap.size + 1, 3, none⟩ = false := (hb.frozen (p := ⟨w.heap.size + 1, 3, none⟩) (by simp; try omega)).trans (by simp [go_sem])
  have fz1_4 : w1.frozen? ⟨w.heap.size + 1, 4, none⟩ = false := (hb.frozen (p := ⟨w.heap.size + 1, 4, none⟩) (by simp; try omega)).trans (by simp [go_sem])
  have fz1_5 : w1.frozen? ⟨w.heap.size + 1, 5, none⟩ = false := (hb.frozen (p := ⟨w.heap.size + 1, 5, none⟩) (by simp; try omega)).trans (by simp [go_sem])
  have fz1_6 : w1.frozen? ⟨w.heap.size + 1, 6, none⟩ = false := (hb.frozen (p := ⟨w.heap.size + 1, 6, none⟩) (by simp; try omega)).trans (by simp [go_sem])
  have fz1_7 : w1.frozen? ⟨w.heap.size + 1, 7, none⟩ = false := (hb.frozen (p := ⟨w.heap.size + 1, 7, none⟩) (by simp; try omega)).trans (by simp [go_sem])
  have fz1_8 : w1.frozen? ⟨w.heap.size + 1, 8, none⟩ = false := (hb.frozen (p := ⟨w.heap.size + 1, 8, none⟩) (by simp; try omega)).trans (by simp [go_sem])
  have fz1_9 : w1.frozen? ⟨w.heap.size + 1, 9, none⟩ = false := (hb.frozen (p := ⟨w.heap.size + 1, 9, none⟩) (by simp; try omega)).trans (by simp [go_sem])
  have fz1_10 : w1.frozen? ⟨w.heap.size + 1, 10, none⟩ = false := (hb.frozen (p := ⟨w.heap.size + 1, 10, none⟩) (by simp; try omega)).trans (by simp [go_sem])
  have fz1_11 : w1.frozen? ⟨w.heap.size + 1, 11, none⟩ = false := (hb.frozen (p := ⟨w.heap.size + 1, 11, none⟩) (by simp; try omega)).trans (by simp [go_sem])
  have HB' : Hid (Below w.heap.size w w1) := Lib.hid (by
    refine Below.trans ?_ (hb.mono ?_)
    · skip
      go_grown
    · simp; try omega)
  have HB := HB'
  clear HB'
  have hs1 := hb.size
  simp at hs1
  have HO5 : Hid (Owns w1 (.l L5) [.slice B5 n5 k5] (rng (w.heap.size + 1 + 1 + 1) w1.heap.size)) := Lib.hid (hO.mono (fun b hb1 => ⟨by have h2 := hb1.1; simp at h2; omega, hb1.2⟩))
  clear hO
  clear hb
  go_wp2_with fail
  refine (toWire f6_0 f6_1 _).mono ?_
  rintro e w2 ⟨rfl, hb⟩
  have y2_0 : w2.cell? ⟨w.heap.size + 1 + 1, 0, none⟩ = some (.int .i64 f0) := (hb.cell (p := ⟨w.heap.size + 1 + 1, 0, none⟩) (by simp; try omega)).trans (by simp [go_sem, x1_0, x1_1, x1_2, x1_3, x1_4, x1_5, x1_6, x1_7, x1_8, x1_9, x1_10, x1_11, y1_0, y1_1, y1_2, y1_3, y1_4, y1_5, y1_6, y1_7, y1_8, y1_9, y1_10, y1_11, z1_0, z1_1, z1_2, z1_3, z1_4, z1_5, z1_6, z1_7, z1_8, z1_9, z1_10, z1_11, fy1_0, fy1_1, fy1_2, fy1_3, fy1_4, fy1_5, fy1_6, fy1_7, fy1_8, fy1_9, fy1_10, fy1_11, fz1_0, fz1_1, fz1_2, fz1_3, fz1_4, fz1_5, fz1_6, fz1_7, fz1_8, fz1_9, fz1_10, fz1_11])
  have y2_1 : w2.cell? ⟨w.heap.size + 1 + 1, 1, none⟩ = some (.int .i64 f1) := (hb.cell (p := ⟨w.heap.size + 1 + 1, 1, none⟩) (by simp; try omega)).trans (by simp [go_sem, x1_0, x1_1, x1_2, x1_3, x1_4, x1_5, x1_6, x1_7, x1_8, x1_9, x1_10, x1_11, y1_0, y1_1, y1_2, y1_3, y1_4, y1_5, y1_6, y1_7, y1_8, y1_9, y1_10, y1_11, z1_0, z1_1, z1_2, z1_3, z1_4, z1_5, z1_6, z1_7, z1_8, z1_9, z1_10, z1_11, fy1_0, fy1_1, fy1_2, fy1_3, fy1_4, fy1_5, fy1_6, fy1_7, fy1_8, fy1_9, fy1_10, fy1_11, fz1_0, fz1_1, fz1_2, fz1_3, fz1_4, fz1_5, fz1_6, fz1_7, fz1_8, fz1_9, fz1_10, fz1_11])
  have y2_2 : w2.cell? ⟨w.heap.size + 1 + 1, 2, none⟩ = some (.int .i64 f2) := (hb.cell (p := ⟨w.heap.size + 1 + 1, 2, none⟩) (by simp; try omega)).trans (by simp [go_sem, x1_0, x1_1, x1_2, x1_3, x1_4, x1_5, x1_6, x1_7, x1_8, x1_9, x1_10, x1_11, y1_0, y1_1, y1_2, y1_3, y1_4, y1_5, y1_6, y1_7, y1_8, y1_9, y1_10, y1_11, z1_0, z1_1, z1_2, z1_3, z1_4, z1_5, z1_6, z1_7, z1_8, z1_9, z1_10, z1_11, fy1_0, fy1_1, fy1_2, fy1_3, fy1_4, fy1_5, fy1_6, fy1_7, fy1_8, fy1_9, fy1_10, fy1_11, fz1_0, fz1_1, fz1_2, fz1_3, fz1_4, fz1_5, fz1_6, fz1_7, fz1_8, fz1_9, fz1_10, fz1_11])
  have y2_3 : w2.cell? ⟨w.heap.size + 1 + 1, 3, none⟩ = some (.int .i64 f3) := (hb.cell (p := ⟨w.heap.size + 1 + 1, 3, none⟩) (by simp; try omega)).trans (by simp [go_sem, x1_0, x1_1, x1_2, x1_3, x1_4, x1_5, x1_6, x1_7, x1_8, x1_9, x1_10, x1_11, y1_0, y1_1, y1_2, y1_3, y1_4, y1_5, y1_6, y1_7, y1_8, y1_9, y1_10, y1_11, z1_0, z1_1, z1_2, z1_3, z1_4, z1_5, z1_6, z1_7, z1_8, z1_9, z1_10, z1_11, fy1_0, fy1_1, fy1_2, fy1_3, fy1_4, fy1_5, fy1_6, fy1_7, fy1_8, fy1_9, fy1_10, fy1_11, fz1_0, fz1_1, fz1_2, fz1_3, fz1_4, fz1_5, fz1_6, fz1_7, fz1_8, fz1_9, fz1_10, fz1_11])
  have y2_4 : w2.cell? ⟨w.heap.size + 1 + 1, 4, none⟩ = some (.string f4) := (hb.cell (p := ⟨w.heap.size + 1 + 1, 4, none⟩) (by simp; try omega)).trans (by simp [go_sem, x1_0, x1_1, x1_2, x1_3, x1_4, x1_5, x1_6, x1_7, x1_8, x1_9, x1_10, x1_11, y1_0, y1_1, y1_2, y1_3, y1_4, y1_5, y1_6, y1_7, y1_8, y1_9, y1_10, y1_11, z1_0, z1_1, z1_2, z1_3, z1_4, z1_5, z1_6, z1_7, z1_8, z1_9, z1_10, z1_11, fy1_0, fy1_1, fy1_2, fy1_3, fy1_4, fy1_5, fy1_6, fy1_7, fy1_8, fy1_9, fy1_10, fy1_11, fz1_0, fz1_1, fz1_2, fz1_3, fz1_4, fz1_5, fz1_6, fz1_7, fz1_8, fz1_9, fz1_10, fz1_11])
  have y2_5 : w2.cell? ⟨w.heap.size + 1 + 1, 5, none⟩ = some (.slice B5 n5 k5) := (hb.cell (p := ⟨w.heap.size + 1 + 1, 5, none⟩) (by simp; try omega)).trans (by simp [go_sem, x1_0, x1_1, x1_2, x1_3, x1_4, x1_5, x1_6, x1_7, x1_8, x1_9, x1_10, x1_11, y1_0, y1_1, y1_2, y1_3, y1_4, y1_5, y1_6, y1_7, y1_8, y1_9, y1_10, y1_11, z1_0, z1_1, z1_2, z1_3, z1_4, z1_5, z1_6, z1_7, z1_8, z1_9, z1_10, z1_11, fy1_0, fy1_1, fy1_2, fy1_3, fy1_4, fy1_5, fy1_6, fy1_7, fy1_8, fy1_9, fy1_10, fy1_11, fz1_0, fz1_1, fz1_2, fz1_3, fz1_4, fz1_5, fz1_6, fz1_7, fz1_8, fz1_9, fz1_10, fz1_11])
  have y2_6 : w2.cell? ⟨w.heap.size + 1 + 1, 6, none⟩ = some (.int .i64 0) := (hb.cell (p := ⟨w.heap.size + 1 + 1, 6, none⟩) (by simp; try omega)).trans (by simp [go_sem, x1_0, x1_1, x1_2, x1_3, x1_4, x1_5, x1_6, x1_7, x1_8, x1_9, x1_10, x1_11, y1_0, y1_1, y1_2, y1_3, y1_4, y1_5, y1_6, y1_7, y1_8, y1_9, y1_10, y1_11, z1_0, z1_1, z1_2, z1_3, z1_4, z1_5, z1_6, z1_7, z1_8, z1_9, z1_10, z1_11, fy1_0, fy1_1, fy1_2, fy1_3, fy1_4, fy1_5, fy1_6, fy1_7, fy1_8, fy1_9, fy1_10, fy1_11, fz1_0, fz1_1, fz1_2, fz1_3, fz1_4, fz1_5, fz1_6, fz1_7, fz1_8, fz1_9, fz1_10, fz1_11])
  have y2_7 : w2.cell? ⟨w.heap.size + 1 + 1, 7, none⟩ = some (.int .i64 0) := (hb.cell (p := ⟨w.heap.size + 1 + 1, 7, none⟩) (by simp; try omega)).trans (by simp [go_sem, x1_0, x1_1, x1_2, x1_3, x1_4, x1_5, x1_6, x1_7, x1_8, x1_9, x1_10, x1_11, y1_0, y1_1, y1_2, y1_3, y1_4, y1_5, y1_6, y1_7, y1_8, y1_9, y1_10, y1_11, z1_0, z1_1, z1_2, z1_3, z1_4, z1_5, z1_6, z1_7, z1_8, z1_9, z1_10, z1_11, fy1_0, fy1_1, fy1_2, fy1_3, fy1_4, fy1_5, fy1_6, fy1_7, fy1_8, fy1_9, fy1_10, fy1_11, fz1_0, fz1_1, fz1_2, fz1_3, fz1_4, fz1_5, fz1_6, fz1_7, fz1_8, fz1_9, fz1_10, fz1_11])
  have y2_8 : w2.cell? ⟨w.heap.size + 1 + 1, 8, none⟩ = some (.int .i64 0) := (hb.cell (p := ⟨w.heap.size + 1 + 1, 8, none⟩) (by simp; try omega)).trans (by simp [go_sem, x1_0, x1_1, x1_2, x1_3, x1_4, x1_5, x1_6, x1_7, x1_8, x1_9, x1_10, x1_11, y1_0, y1_1, y1_2, y1_3, y1_4, y1_5, y1_6, y1_7, y1_8, y1_9, y1_10, y1_11, z1_0, z1_1, z1_2, z1_3, z1_4, z1_5, z1_6, z1_7, z1_8, z1_9, z1_10, z1_11, fy1_0, fy1_1, fy1_2, fy1_3, fy1_4, fy1_5, fy1_6, fy1_7, fy1_8, fy1_9, fy1_10, fy1_11, fz1_0, fz1_1, fz1_2, fz1_3, fz1_4, fz1_5, fz1_6, fz1_7, fz1_8, fz1_9, fz1_10, fz1_11])
  have y2_9 : w2.cell? ⟨w.heap.size + 1 + 1, 9, none⟩ = some (.int .i64 0) := (hb.cell (p := ⟨w.heap.size + 1 + 1, 9, none⟩) (by simp; try omega)).trans (by simp [go_sem, x1_0, x1_1, x1_2, x1_3, x1_4, x1_5, x1_6, x1_7, x1_8, x1_9, x1_10, x1_11, y1_0, y1_1, y1_2, y1_3, y1_4, y1_5, y1_6, y1_7, y1_8, y1_9, y1_10, y1_11, z1_0, z1_1, z1_2, z1_3, z1_4, z1_5, z1_6, z1_7, z1_8, z1_9, z1_10, z1_11, fy1_0, fy1_1, fy1_2, fy1_3, fy1_4, fy1_5, fy1_6, fy1_7, fy1_8, fy1_9, fy1_10, fy1_11, fz1_0, fz1_1, fz1_2, fz1_3, fz1_4, fz1_5, fz1_6, fz1_7, fz1_8, fz1_9, fz1_10, fz1_11])
  have y2_10 : w2.cell? ⟨w.heap.size + 1 + 1, 10, none⟩ = some (.int .i64 0) := (hb.cell (p := ⟨w.heap.size + 1 + 1, 10, none⟩) (by simp; try omega)).trans (by simp [go_sem, x1_0, x1_1, x1_2, x1_3, x1_4, x1_5, x1_6, x1_7, x1_8, x1_9, x1_10, x1_11, y1_0, y1_1, y1_2, y1_3, y1_4, y1_5, y1_6, y1_7, y1_8, y1_9, y1_10, y1_11, z1_0, z1_1, z1_2, z1_3, z1_4, z1_5, z1_6, z1_7, z1_8, z1_9, z1_10, z1_11, fy1_0, fy1_1, fy1_2, fy1_3, fy1_4, fy1_5, fy1_6, fy1_7, fy1_8, fy1_9, fy1_10, fy1_11, fz1_0, fz1_1, fz1_2, fz1_3, fz1_4, fz1_5, fz1_6, fz1_7, fz1_8, fz1_9, fz1_10, fz1_11])
  have y2_11 : w2.cell? ⟨w.heap.size + 1 + 1, 11, none⟩ = some (.int .i64 0) := (hb.cell (p := ⟨w.heap.size + 1 + 1, 11, none⟩) (by simp; try omega)).trans (by simp [go_sem, x1_0, x1_1, x1_2, x1_3, x1_4, x1_5, x1_6, x1_7, x1_8, x1_9, x1_10, x1_11, y1_0, y1_1, y1_2, y1_3, y1_4, y1_5, y1_6, y1_7, y1_8, y1_9, y1_10, y1_11, z1_0, z1_1, z1_2, z1_3, z1_4, z1_5, z1_6, z1_7, z1_8, z1_9, z1_10, z1_11, fy1_0, fy1_1, fy1_2, fy1_3, fy1_4, fy1_5, fy1_6, fy1_7, fy1_8, fy1_9, fy1_10, fy1_11, fz1_0, fz1_1, fz1_2, fz1_3, fz1_4, fz1_5, fz1_6, fz1_7, fz1_8, fz1_9, fz1_10, fz1_11])
  have z2_0 : w2.cell? ⟨w.heap.size + 1, 0, none⟩ = some (.int .i64 0) := (hb.cell (p := ⟨w.heap.size + 1, 0, none⟩) (by simp; try omega)).trans (by simp [go_sem, z1_0])
  have z2_1 : w2.cell? ⟨w.heap.size + 1, 1, none⟩ = some (.int .i64 0) := (hb.cell (p := ⟨w.heap.size + 1, 1, none⟩) (by simp; try omega)).trans (by simp [go_sem, z1_1])
  have z2_2 : w2.cell? ⟨w.heap.size + 1, 2, none⟩ = some (.int .i64 0) := (hb.cell (p := ⟨w.heap.size + 1, 2, none⟩) (by simp; try omega)).trans (by simp [go_sem, z1_2])
  have z2_3 : w2.cell? ⟨w.heap.size + 1, 3, none⟩ = some (.int .i64 0) := (hb.cell (p := ⟨w.heap.size + 1, 3, none⟩) (by simp; try omega)).trans (by simp [go_sem, z1_3])
  have z2_4 : w2.cell? ⟨w.heap.size + 1, 4, none⟩ = some (.string ⟨#[]⟩) := (hb.cell (p := ⟨w.heap.size + 1, 4, none⟩) (by simp; try omega)).trans (by simp [go_sem, z1_4])
  have z2_5 : w2.cell? ⟨w.heap.size + 1, 5, none⟩ = some (.slice none 0 0) := (hb.cell (p := ⟨w.heap.size + 1, 5, none⟩) (by simp; try omega)).trans (by simp [go_sem, z1_5])
  have z2_6 : w2.cell? ⟨w.heap.size + 1, 6, none⟩ = some (.int .i64 0) := (hb.cell (p := ⟨w.heap.size + 1, 6, none⟩) (by simp; try omega)).trans (by simp [go_sem, z1_6])
  have z2_7 : w2.cell? ⟨w.heap.size + 1, 7, none⟩ = some (.int .i64 0) := (hb.cell (p := ⟨w.heap.size + 1, 7, none⟩) (by simp; try omega)).trans (by simp [go_sem, z1_7])
  have z2_8 : w2.cell? ⟨w.heap.size + 1, 8, none⟩ = some (.int .i64 0) := (hb.cell (p := ⟨w.heap.size + 1, 8, none⟩) (by simp; try omega)).trans (by simp [go_sem, z1_8])
  have z2_9 : w2.cell? ⟨w.heap.size + 1, 9, none⟩ = some (.int .i64 0) := (hb.cell (p := ⟨w.heap.size + 1, 9, none⟩) (by simp; try omega)).trans (by simp [go_sem, z1_9])
  have z2_10 : w2.cell? ⟨w.heap.size + 1, 10, none⟩ = some (.int .i64 0) := (hb.cell (p := ⟨w.heap.size + 1, 10, none⟩) (by simp; try omega)).trans (by simp [go_sem, z1_10])
  have z2_11 : w2.cell? ⟨w.heap.size + 1, 11, none⟩ = some (.int .i64 0) := (hb.cell (p := ⟨w.heap.size + 1, 11, none⟩) (by simp; try omega)).trans (by simp [go_sem, z1_11])
  have x2_0 : w2.cell? ⟨w.heap.size, 0, none⟩ = some (.int .i64 f0) := (hb.cell (p := ⟨w.heap.size, 0, none⟩) (by simp; try omega)).trans (by simp [go_sem, x1_0])
  have x2_1 : w2.cell? ⟨w.heap.size, 1, none⟩ = some (.int .i64 f1) := (hb.cell (p := ⟨w.heap.size, 1, none⟩) (by simp; try omega)).trans (by simp [go_sem, x1_1])
  have x2_2 : w2.cell? ⟨w.heap.size, 2, none⟩ = some (.int .i64 f2) := (hb.cell (p := ⟨w.heap.size, 2, none⟩) (by simp; try omega)).trans (by simp [go_sem, x1_2])
  have x2_3 : w2.cell? ⟨w.heap.size, 3, none⟩ = some (.int .i64 f3) := (hb.cell (p := ⟨w.heap.size, 3, none⟩) (by simp; try omega)).trans (by simp [go_sem, x1_3])
  have x2_4 : w2.cell? ⟨w.heap.size, 4, none⟩ = some (.string f4) := (hb.cell (p := ⟨w.heap.size, 4, none⟩) (by simp; try omega)).trans (by simp [go_sem, x1_4])
  have x2_5 : w2.cell? ⟨w.heap.size, 5, none⟩ = some (.slice A5 n5 c5) := (hb.cell (p := ⟨w.heap.size, 5, none⟩) (by simp; try omega)).trans (by simp [go_sem, x1_5])
  have x2_6 : w2.cell? ⟨w.heap.size, 6, none⟩ = some (.int .i64 f6_0) := (hb.cell (p := ⟨w.heap.size, 6, none⟩) (by simp; try omega)).trans (by simp [go_sem, x1_6])
  have x2_7 : w2.cell? ⟨w.heap.size, 7, none⟩ = some (.int .i64 f6_1) := (hb.cell (p := ⟨w.heap.size, 7, none⟩) (by simp; try omega)).trans (by simp [go_sem, x1_7])
  have x2_8 : w2.cell? ⟨w.heap.size, 8, none⟩ = some (.int .i64 f7) := (hb.cell (p := ⟨w.heap.size, 8, none⟩) (by simp; try omega)).trans (by simp [go_sem, x1_8])
  have x2_9 : w2.cell? ⟨w.heap.size, 9, none⟩ = some (.int .i64 f8_0) := (hb.cell (p := ⟨w.heap.size, 9, none⟩) (by simp; try omega)).trans (by simp [go_sem, x1_9])
  have x2_10 : w2.cell? ⟨w.heap.size, 10, none⟩ = some (.int .i64 f8_1) := (hb.cell (p := ⟨w.heap.size, 10, none⟩) (by simp; try omega)).trans (by simp [go_sem, x1_10])
  have x2_11 : w2.cell? ⟨w.heap.size, 11, none⟩ = some (.int .i64 f8_2) := (hb.cell (p := ⟨w.heap.size, 11, none⟩) (by simp; try omega)).trans (by simp [go_sem, x1_11])
  have fy2_0 : w2.frozen? ⟨w.heap.size + 1 + 1, 0, none⟩ = false := (hb.frozen (p := ⟨w.heap.size + 1 + 1, 0, none⟩) (by simp; try omega)).trans (by simp [go_sem, fy1_0])
  have fy2_1 : w2.frozen? ⟨w.heap.size + 1 + 1, 1, none⟩ = false := (hb.frozen (p := ⟨w.heap.size + 1 + 1, 1, none⟩) (by simp; try omega)).trans (by simp [go_sem, fy1_1])
  have fy2_2 : w2.frozen? ⟨w.heap.size + 1 + 1, 2, none⟩ = false := (hb.frozen (p := ⟨w.heap.size + 1 + 1, 2, none⟩) (by simp; try omega)).trans (by simp [go_sem, fy1_2])
  have fy2_3 : w2.frozen? ⟨w.heap.size + 1 + 1, 3, none⟩ = false := (hb.frozen (p := ⟨w.heap.size + 1 + 1, 3, none⟩) (by simp; try omega)).trans (by simp [go_sem, fy1_3])
  have fy2_4 : w2.frozen? ⟨w.heap.size + 1 + 1, 4, none⟩ = false := (hb.frozen (p := ⟨w.heap.size + 1 + 1, 4, none⟩) (by simp; try omega)).trans (by simp [go_sem, fy1_4])
  have fy2_5 : w2.frozen? ⟨w.heap.size + 1 + 1, 5, none⟩ = false := (hb.frozen (p := ⟨w.heap.size + 1 + 1, 5, none⟩) (by simp; try omega)).trans (by simp [go_sem, fy1_5])
  have fy2_6 : w2.frozen? ⟨w.heap.size + 1 + 1, 6, none⟩ = false := (hb.frozen (p := ⟨w.heap.size + 1 + 1, 6, none⟩) (by simp; try omega)).trans (by simp [go_sem, fy1_6])
  have fy2_7 : w2.frozen? ⟨w.heap.size + 1 + 1, 7, none⟩ = false := (hb.frozen (p := ⟨w.heap.size + 1 + 1, 7, none⟩) (by simp; try omega)).trans (by simp [go_sem, fy1_7])
  have fy2_8 : w2.frozen? ⟨w.heap.size + 1 + 1, 8, none⟩ = false := (hb.frozen (p := ⟨w.heap.size + 1 + 1, 8, none⟩) (by simp; try omega)).trans (by simp [go_sem, fy1_8])
  have fy2_9 : w2.frozen? ⟨w.heap.size + 1 + 1, 9, none⟩ = false := (hb.frozen (p := ⟨w.heap.size + 1 + 1, 9, none⟩) (by simp; try omega)).trans (by simp [go_sem, fy1_9])
  have fy2_10 : w2.frozen? ⟨w.heap.size + 1 + 1, 10, none⟩ = false := (hb.frozen (p := ⟨w.heap.size + 1 + 1, 10, none⟩) (by simp; try omega)).trans (by simp [go_sem, fy1_10])
  have fy2_11 : w2.frozen? ⟨w.heap.size + 1 + 1, 11, none⟩ = false := (hb.frozen (p := ⟨w.heap.size + 1 + 1, 11, none⟩) (by simp; try omega)).trans (by simp [go_sem, fy1_11])
  have fz2_0 : w2.frozen? ⟨w.heap.size + 1, 0, none⟩ = false := (hb.frozen (p := ⟨w.heap.size + 1, 0, none⟩) (by simp; try omega)).trans (by simp [go_sem, fz1_0])
  have fz2_1 : w2.frozen? ⟨w.heap.size + 1, 1, none⟩ = false := (hb.frozen (p := ⟨w.heap.size + 1, 1, none⟩) (by simp; try omega)).trans (by simp [go_sem, fz1_1])
  have fz2_2 : w2.frozen? ⟨w.heap.size + 1, 2, none⟩ = false := (hb.frozen (p := ⟨w.heap.size + 1, 2, none⟩) (by simp; try omega)).trans (by simp [go_sem, fz1_2])
  have fz2_3 : w2.frozen? ⟨w.heap.size + 1, 3, none⟩ = false := (hb.frozen (p := ⟨w.heap.size + 1, 3, none⟩) (by simp; try omega)).trans (by simp [go_sem, fz1_3])
  have fz2_4 : w2.frozen? ⟨w.heap.size + 1, 4, none⟩ = false := (hb.frozen (p := ⟨w.heap.size + 1, 4, none⟩) (by simp; try omega)).trans (by simp [go_sem, fz1_4])
  have fz2_5 : w2.frozen? ⟨w.heap.size + 1, 5, none⟩ = false := (hb.frozen (p := ⟨w.heap.size + 1, 5, none⟩) (by simp; try omega)).trans (by simp [go_sem, fz1_5])
  have fz2_6 : w2.frozen? ⟨w.heap.size + 1, 6, none⟩ = false := (hb.frozen (p := ⟨w.heap.size + 1, 6, none⟩) (by simp; try omega)).trans (by simp [go_sem, fz1_6])
  have fz2_7 : w2.frozen? ⟨w.heap.size + 1, 7, none⟩ = false := (hb.frozen (p := ⟨w.heap.size + 1, 7, none⟩) (by simp; try omega)).trans (by simp [go_sem, fz1_7])
  have fz2_8 : w2.frozen? ⟨w.heap.size + 1, 8, none⟩ = false := (hb.frozen (p := ⟨w.heap.size + 1, 8, none⟩) (by simp; try omega)).trans (by simp [go_sem, fz1_8])
  have fz2_9 : w2.frozen? ⟨w.heap.size + 1, 9, none⟩ = false := (hb.frozen (p := ⟨w.heap.size + 1, 9, none⟩) (by simp; try omega)).trans (by simp [go_sem, fz1_9])
  have fz2_10 : w2.frozen? ⟨w.heap.size + 1, 10, none⟩ = false := (hb.frozen (p := ⟨w.heap.size + 1, 10, none⟩) (by simp; try omega)).trans (by simp [go_sem, fz1_10])
  have fz2_11 : w2.frozen? ⟨w.heap.size + 1, 11, none⟩ = false := (hb.frozen (p := ⟨w.heap.size + 1, 11, none⟩) (by simp; try omega)).trans (by simp [go_sem, fz1_11])
  clear x1_0 x1_1 x1_2 x1_3 x1_4 x1_5 x1_6 x1_7 x1_8 x1_9 x1_10 x1_11 y1_0 y1_1 y1_2 y1_3 y1_4 y1_5 y1_6 y1_7 y1_8 y1_9 y1_10 y1_11 z1_0 z1_1 z1_2 z1_3 z1_4 z1_5 z1_6 z1_7 z1_8 z1_9 z1_10 z1_11 fy1_0 fy1_1 fy1_2 fy1_3 fy1_4 fy1_5 fy1_6 fy1_7 fy1_8 fy1_9 fy1_10 fy1_11 fz1_0 fz1_1 fz1_2 fz1_3 fz1_4 fz1_5 fz1_6 fz1_7 fz1_8 fz1_9 fz1_10 fz1_11
  have HB' : Hid (Below w.heap.size w w2) := Lib.hid (by
    refine Below.trans ?_ (hb.mono ?_)
    · have hbw := HB.out
      go_grown
    · simp; try omega)
  clear HB
  have HB := HB'
  clear HB'
  have hs2 := hb.size
  simp at hs2
  replace HO5 := Lib.hid ((HO5.out.same (fun b hb1 _ => by
    have hb2 : (w.heap.size + 1 + 1 + 1) ≤ b ∧ b < w1.heap.size := hb1
    have n1 : b ≠ w.heap.size + 1 := by omega
    have n2 : b ≠ w.heap.size + 1 + 1 := by omega
    repeat (first | rw [far_block n1] | rw [far_block n2]))).below hb)
  clear hb
  go_wp2_with fail
  refine (toTag f8_0 f8_1 f8_2 _).mono ?_
  rintro e w3 ⟨rfl, hb⟩
  have y3_0 : w3.cell? ⟨w.heap.size + 1 + 1, 0, none⟩ = some (.int .i64 f0) := (hb.cell (p := ⟨w.heap.size + 1 + 1, 0, none⟩) (by simp; try omega)).trans (by simp [go_sem, x2_0, x2_1, x2_2, x2_3, x2_4, x2_5, x2_6, x2_7, x2_8, x2_9, x2_10, x2_11, y2_0, y2_1, y2_2, y2_3, y2_4, y2_5, y2_6, y2_7, y2_8, y2_9, y2_10, y2_11, z2_0, z2_1, z2_2, z2_3, z2_4, z2_5, z2_6, z2_7, z2_8, z2_9, z2_10, z2_11, fy2_0, fy2_1, fy2_2, fy2_3, fy2_4, fy2_5, fy2_6, fy2_7, fy2_8, fy2_9, fy2_10, fy2_11, fz2_0, fz2_1, fz2_2, fz2_3, fz2_4, fz2_5, fz2_6, fz2_7, fz2_8, fz2_9, fz2_10, fz2_11])
  have y3_1 : w3.cell? ⟨w.heap.size + 1 + 1, 1, none⟩ = some (.int .i64 f1) := (hb.cell (p := ⟨w.heap.size + 1 + 1, 1, none⟩) (by simp; try omega)).trans (by simp [go_sem, x2_0, x2_1, x2_2, x2_3, x2_4, x2_5, x2_6, x2_7, x2_8, x2_9, x2_10, x2_11, y2_0, y2_1, y2_2, y2_3, y2_4, y2_5, y2_6, y2_7, y2_8, y2_9, y2_10, y2_11, z2_0, z2_1, z2_2, z2_3, z2_4, z2_5, z2_6, z2_7, z2_8, z2_9, z2_10, z2_11, fy2_0, fy2_1, fy2_2, fy2_3, fy2_4, fy2_5, fy2_6, fy2_7, fy2_8, fy2_9, fy2_10, fy2_11, fz2_0, fz2_1, fz2_2, fz2_3, fz2_4, fz2_5, fz2_6, fz2_7, fz2_8, fz2_9, fz2_10, fz2_11])
  have y3_2 : w3.cell? ⟨w.heap.size + 1 + 1, 2, none⟩ = some (.int .i64 f2) := (hb.cell (p := ⟨w.heap.size + 1 + 1, 2, none⟩) (by simp; try omega)).trans (by simp [go_sem, x2_0, x2_1, x2_2, x2_3, x2_4, x2_5, x2_6, x2_7, x2_8, x2_9, x2_10, x2_11, y2_0, y2_1, y2_2, y2_3, y2_4, y2_5, y2_6, y2_7, y2_8, y2_9, y2_10, y2_11, z2_0, z2_1, z2_2, z2_3, z2_4, z2_5, z2_6, z2_7, z2_8, z2_9, z2_10, z2_11, fy2_0, fy2_1, fy2_2, fy2_3, fy2_4, fy2_5, fy2_6, fy2_7, fy2_8, fy2_9, fy2_10, fy2_11, fz2_0, fz2_1, fz2_2, fz2_3, fz2_4, fz2_5, fz2_6, fz2_7, fz2_8, fz2_9, fz2_10, fz2_11])
  have y3_3 : w3.cell? ⟨w.heap.size + 1 + 1, 3, none⟩ = some (.int .i64 f3) := (hb.cell (p := ⟨w.heap.size + 1 + 1, 3, none⟩) (by simp; try omega)).trans (by simp [go_sem, x2_0, x2_1, x2_2, x2_3, x2_4, x2_5, x2_6, x2_7, x2_8, x2_9, x2_10, x2_11, y2_0, y2_1, y2_2, y2_3, y2_4, y2_5, y2_6, y2_7, y2_8, y2_9, y2_10, y2_11, z2_0, z2_1, z2_2, z2_3, z2_4, z2_5, z2_6, z2_7, z2_8, z2_9, z2_10, z2_11, fy2_0, fy2_1, fy2_2, fy2_3, fy2_4, fy2_5, fy2_6, fy2_7, fy2_8, fy2_9, fy2_10, fy2_11, fz2_0, fz2_1, fz2_2, fz2_3, fz2_4, fz2_5, fz2_6, fz2_7, fz2_8, fz2_9, fz2_10, fz2_11])
  have y3_4 : w3.cell? ⟨w.heap.size + 1 + 1, 4, none⟩ = some (.string f4) := (hb.cell (p := ⟨w.heap.size + 1 + 1, 4, none⟩) (by simp; try omega)).trans (by simp [go_sem, x2_0, x2_1, x2_2, x2_3, x2_4, x2_5, x2_6, x2_7, x2_8, x2_9, x2_10, x2_11, y2_0, y2_1, y2_2, y2_3, y2_4, y2_5, y2_6, y2_7, y2_8, y2_9, y2_10, y2_11, z2_0, z2_1, z2_2, z2_3, z2_4, z2_5, z2_6, z2_7, z2_8, z2_9, z2_10, z2_11, fy2_0, fy2_1, fy2_2, fy2_3, fy2_4, fy2_5, fy2_6, fy2_7, fy2_8, fy2_9, fy2_10, fy2_11, fz2_0, fz2_1, fz2_2, fz2_3, fz2_4, fz2_5, fz2_6, fz2_7, fz2_8, fz2_9, fz2_10, fz2_11])
  have y3_5 : w3.cell? ⟨w.heap.size + 1 + 1, 5, none⟩ = some (.slice B5 n5 k5) := (hb.cell (p := ⟨w.heap.size + 1 + 1, 5, none⟩) (by simp; try omega)).trans (by simp [go_sem, x2_0, x2_1, x2_2, x2_3, x2_4, x2_5, x2_6, x2_7, x2_8, x2_9, x2_10, x2_11, y2_0, y2_1, y2_2, y2_3, y2_4, y2_5, y2_6, y2_7, y2_8, y2_9, y2_10, y2_11, z2_0, z2_1, z2_2, z2_3, z2_4, z2_5, z2_6, z2_7, z2_8, z2_9, z2_10, z2_11, fy2_0, fy2_1, fy2_2, fy2_3, fy2_4, fy2_5, fy2_6, fy2_7, fy2_8, fy2_9, fy2_10, fy2_11, fz2_0, fz2_1, fz2_2, fz2_3, fz2_4, fz2_5, fz2_6, fz2_7, fz2_8, fz2_9, fz2_10, fz2_11])
  have y3_6 : w3.cell? ⟨w.heap.size + 1 + 1, 6, none⟩ = some (.int .i64 f6_0) := (hb.cell (p := ⟨w.heap.size + 1 + 1, 6, none⟩) (by simp; try omega)).trans (by simp [go_sem, x2_0, x2_1, x2_2, x2_3, x2_4, x2_5, x2_6, x2_7, x2_8, x2_9, x2_10, x2_11, y2_0, y2_1, y2_2, y2_3, y2_4, y2_5, y2_6, y2_7, y2_8, y2_9, y2_10, y2_11, z2_0, z2_1, z2_2, z2_3, z2_4, z2_5, z2_6, z2_7, z2_8, z2_9, z2_10, z2_11, fy2_0, fy2_1, fy2_2, fy2_3, fy2_4, fy2_5, fy2_6, fy2_7, fy2_8, fy2_9, fy2_10, fy2_11, fz2_0, fz2_1, fz2_2, fz2_3, fz2_4, fz2_5, fz2_6, fz2_7, fz2_8, fz2_9, fz2_10, fz2_11])
  have y3_7 : w3.cell? ⟨w.heap.size + 1 + 1, 7, none⟩ = some (.int .i64 f6_1) := (hb.cell (p := ⟨w.heap.size + 1 + 1, 7, none⟩) (by simp; try omega)).trans (by simp [go_sem, x2_0, x2_1, x2_2, x2_3, x2_4, x2_5, x2_6, x2_7, x2_8, x2_9, x2_10, x2_11, y2_0, y2_1, y2_2, y2_3, y2_4, y2_5, y2_6, y2_7, y2_8, y2_9, y2_10, y2_11, z2_0, z2_1, z2_2, z2_3, z2_4, z2_5, z2_6, z2_7, z2_8, z2_9, z2_10, z2_11, fy2_0, fy2_1, fy2_2, fy2_3, fy2_4, fy2_5, fy2_6, fy2_7, fy2_8, fy2_9, fy2_10, fy2_11, fz2_0, fz2_1, fz2_2, fz2_3, fz2_4, fz2_5, fz2_6, fz2_7, fz2_8, fz2_9, fz2_10, fz2_11])
  have y3_8 : w3.cell? ⟨w.heap.size + 1 + 1, 8, none⟩ = some (.int .i64 f7) := (hb.cell (p := ⟨w.heap.size + 1 + 1, 8, none⟩) (by simp; try omega)).trans (by simp [go_sem, x2_0, x2_1, x2_2, x2_3, x2_4, x2_5, x2_6, x2_7, x2_8, x2_9, x2_10, x2_11, y2_0, y2_1, y2_2, y2_3, y2_4, y2_5, y2_6, y2_7, y2_8, y2_9, y2_10, y2_11, z2_0, z2_1, z2_2, z2_3, z2_4, z2_5, z2_6, z2_7, z2_8, z2_9, z2_10, z2_11, fy2_0, fy2_1, fy2_2, fy2_3, fy2_4, fy2_5, fy2_6, fy2_7, fy2_8, fy2_9, fy2_10, fy2_11, fz2_0, fz2_1, fz2_2, fz2_3, fz2_4, fz2_5, fz2_6, fz2_7, fz2_8, fz2_9, fz2_10, fz2_11])
  have y3_9 : w3.cell? ⟨w.heap.size + 1 + 1, 9, none⟩ = some (.int .i64 0) := (hb.cell (p := ⟨w.heap.size + 1 + 1, 9, none⟩) (by simp; try omega)).trans (by simp [go_sem, x2_0, x2_1, x2_2, x2_3, x2_4, x2_5, x2_6, x2_7, x2_8, x2_9, x2_10, x2_11, y2_0, y2_1, y2_2, y2_3, y2_4, y2_5, y2_6, y2_7, y2_8, y2_9, y2_10, y2_11, z2_0, z2_1, z2_2, z2_3, z2_4, z2_5, z2_6, z2_7, z2_8, z2_9, z2_10, z2_11, fy2_0, fy2_1, fy2_2, fy2_3, fy2_4, fy2_5, fy2_6, fy2_7, fy2_8, fy2_9, fy2_10, fy2_11, fz2_0, fz2_1, fz2_2, fz2_3, fz2_4, fz2_5, fz2_6, fz2_7, fz2_8, fz2_9, fz2_10, fz2_11])
  have y3_10 : w3.cell? ⟨w.heap.size + 1 + 1, 10, none⟩ = some (.int .i64 0) := (hb.cell (p := ⟨w.heap.size + 1 + 1, 10, none⟩) (by simp; try omega)).trans (by simp [go_sem, x2_0, x2_1, x2_2, x2_3, x2_4, x2_5, x2_6, x2_7, x2_8, x2_9, x2_10, x2_11, y2_0, y2_1, y2_2, y2_3, y2_4, y2_5, y2_6, y2_7, y2_8, y2_9, y2_10, y2_11, z2_0, z2_1, z2_2, z2_3, z2_4, z2_5, z2_6, z2_7, z2_8, z2_9, z2_10, z2_11, fy2_0, fy2_1, fy2_2, fy2_3, fy2_4, fy2_5, fy2_6, fy2_7, fy2_8, fy2_9, fy2_10, fy2_11, fz2_0, fz2_1, fz2_2, fz2_3, fz2_4, fz2_5, fz2_6, fz2_7, fz2_8, fz2_9, fz2_10, fz2_11])
  have y3_11 : w3.cell? ⟨w.heap.size + 1 + 1, 11, none⟩ = some (.int .i64 0) := (hb.cell (p := ⟨w.heap.size + 1 + 1, 11, none⟩) (by simp; try omega)).trans (by simp [go_sem, x2_0, x2_1, x2_2, x2_3, x2_4, x2_5, x2_6, x2_7, x2_8, x2_9, x2_10, x2_11, y2_0, y2_1, y2_2, y2_3, y2_4, y2_5, y2_6, y2_7, y2_8, y2_9, y2_10, y2_11, z2_0, z2_1, z2_2, z2_3, z2_4, z2_5, z2_6, z2_7, z2_8, z2_9, z2_10, z2_11, fy2_0, fy2_1, fy2_2, fy2_3, fy2_4, fy2_5, fy2_6, fy2_7, fy2_8, fy2_9, fy2_10, fy2_11, fz2_0, fz2_1, fz2_2, fz2_3, fz2_4, fz2_5, fz2_6, fz2_7, fz2_8, fz2_9, fz2_10, fz2_11])
  have z3_0 : w3.cell? ⟨w.heap.size + 1, 0, none⟩ = some (.int .i64 0) := (hb.cell (p := ⟨w.heap.size + 1, 0, none⟩) (by simp; try omega)).trans (by simp [go_sem, z2_0])
  have z3_1 : w3.cell? ⟨w.heap.size + 1, 1, none⟩ = some (.int .i64 0) := (hb.cell (p := ⟨w.heap.size + 1, 1, none⟩) (by simp; try omega)).trans (by simp [go_sem, z2_1])
  have z3_2 : w3.cell? ⟨w.heap.size + 1, 2, none⟩ = some (.int .i64 0) := (hb.cell (p := ⟨w.heap.size + 1, 2, none⟩) (by simp; try omega)).trans (by simp [go_sem, z2_2])
  have z3_3 : w3.cell? ⟨w.heap.size + 1, 3, none⟩ = some (.int .i64 0) := (hb.cell (p := ⟨w.heap.size + 1, 3, none⟩) (by simp; try omega)).trans (by simp [go_sem, z2_3])
  have z3_4 : w3.cell? ⟨w.heap.size + 1, 4, none⟩ = some (.string ⟨#[]⟩) := (hb.cell (p := ⟨w.heap.size + 1, 4, none⟩) (by simp; try omega)).trans (by simp [go_sem, z2_4])
  have z3_5 : w3.cell? ⟨w.heap.size + 1, 5, none⟩ = some (.slice none 0 0) := (hb.cell (p := ⟨w.heap.size + 1, 5, none⟩) (by simp; try omega)).trans (by simp [go_sem, z2_5])
  have z3_6 : w3.cell? ⟨w.heap.size + 1, 6, none⟩ = some (.int .i64 0) := (hb.cell (p := ⟨w.heap.size + 1, 6, none⟩) (by simp; try omega)).trans (by simp [go_sem, z2_6])
  have z3_7 : w3.cell? ⟨w.heap.size + 1, 7, none⟩ = some (.int .i64 0) := (hb.cell (p := ⟨w.heap.size + 1, 7, none⟩) (by simp; try omega)).trans (by simp [go_sem, z2_7])
  have z3_8 : w3.cell? ⟨w.heap.size + 1, 8, none⟩ = some (.int .i64 0) := (hb.cell (p := ⟨w.heap.size + 1, 8, none⟩) (by simp; try omega)).trans (by simp [go_sem, z2_8])
  have z3_9 : w3.cell? ⟨w.heap.size + 1, 9, none⟩ = some (.int .i64 0) := (hb.cell (p := ⟨w.heap.size + 1, 9, none⟩) (by simp; try omega)).trans (by simp [go_sem, z2_9])
  have z3_10 : w3.cell? ⟨w.heap.size + 1, 10, none⟩ = some (.int .i64 0) := (hb.cell (p := ⟨w.heap.size + 1, 10, none⟩) (by simp; try omega)).trans (by simp [go_sem, z2_10])
  have z3_11 : w3.cell? ⟨w.heap.size + 1, 11, none⟩ = some (.int .i64 0) := (hb.cell (p := ⟨w.heap.size + 1, 11, none⟩) (by simp; try omega)).trans (by simp [go_sem, z2_11])
  have x3_0 : w3.cell? ⟨w.heap.size, 0, none⟩ = some (.int .i64 f0) := (hb.cell (p := ⟨w.heap.size, 0, none⟩) (by simp; try omega)).trans (by simp [go_sem, x2_0])
  have x3_1 : w3.cell? ⟨w.heap.size, 1, none⟩ = some (.int .i64 f1) := (hb.cell (p := ⟨w.heap.size, 1, none⟩) (by simp; try omega)).trans (by simp [go_sem, x2_1])
  have x3_2 : w3.cell? ⟨w.heap.size, 2, none⟩ = some (.int .i64 f2) := (hb.cell (p := ⟨w.heap.size, 2, none⟩) (by simp; try omega)).trans (by simp [go_sem, x2_2])
  have x3_3 : w3.cell? ⟨w.heap.size, 3, none⟩ = some (.int .i64 f3) := (hb.cell (p := ⟨w.heap.size, 3, none⟩) (by simp; try omega)).trans (by simp [go_sem, x2_3])
  have x3_4 : w3.cell? ⟨w.heap.size, 4, none⟩ = some (.string f4) := (hb.cell (p := ⟨w.heap.size, 4, none⟩) (by simp; try omega)).trans (by simp [go_sem, x2_4])
  have x3_5 : w3.cell? ⟨w.heap.size, 5, none⟩ = some (.slice A5 n5 c5) := (hb.cell (p := ⟨w.heap.size, 5, none⟩) (by simp; try omega)).trans (by simp [go_sem, x2_5])
  have x3_6 : w3.cell? ⟨w.heap.size, 6, none⟩ = some (.int .i64 f6_0) := (hb.cell (p := ⟨w.heap.size, 6, none⟩) (by simp; try omega)).trans (by simp [go_sem, x2_6])
  have x3_7 : w3.cell? ⟨w.heap.size, 7, none⟩ = some (.int .i64 f6_1) := (hb.cell (p := ⟨w.heap.size, 7, none⟩) (by simp; try omega)).trans (by simp [go_sem, x2_7])
  have x3_8 : w3.cell? ⟨w.heap.size, 8, none⟩ = some (.int .i64 f7) := (hb.cell (p := ⟨w.heap.size, 8, none⟩) (by simp; try omega)).trans (by simp [go_sem, x2_8])
  have x3_9 : w3.cell? ⟨w.heap.size, 9, none⟩ = some (.int .i64 f8_0) := (hb.cell (p := ⟨w.heap.size, 9, none⟩) (by simp; try omega)).trans (by simp [go_sem, x2_9])
  have x3_10 : w3.cell? ⟨w.heap.size, 10, none⟩ = some (.int .i64 f8_1) := (hb.cell (p := ⟨w.heap.size, 10, none⟩) (by simp; try omega)).trans (by simp [go_sem, x2_10])
  have x3_11 : w3.cell? ⟨w.heap.size, 11, none⟩ = some (.int .i64 f8_2) := (hb.cell (p := ⟨w.heap.size, 11, none⟩) (by simp; try omega)).trans (by simp [go_sem, x2_11])
  have fy3_0 : w3.frozen? ⟨w.heap.size + 1 + 1, 0, none⟩ = false := (hb.frozen (p := ⟨w.heap.size + 1 + 1, 0, none⟩) (by simp; try omega)).trans (by simp [go_sem, fy2_0])
  have fy3_1 : w3.frozen? ⟨w.heap.size + 1 + 1, 1, none⟩ = false := (hb.frozen (p := ⟨w.heap.size + 1 + 1, 1, none⟩) (by simp; try omega)).trans (by simp [go_sem, fy2_1])
  have fy3_2 : w3.frozen? ⟨w.heap.size + 1 + 1, 2, none⟩ = false := (hb.frozen (p := ⟨w.heap.size + 1 + 1, 2, none⟩) (by simp; try omega)).trans (by simp [go_sem, fy2_2])
  have fy3_3 : w3.frozen? ⟨w.heap.size + 1 + 1, 3, none⟩ = false := (hb.frozen (p := ⟨w.heap.size + 1 + 1, 3, none⟩) (by simp; try omega)).trans (by simp [go_sem, fy2_3])
  have fy3_4 : w3.frozen? ⟨w.heap.size + 1 + 1, 4, none⟩ = false := (hb.frozen (p := ⟨w.heap.size + 1 + 1, 4, none⟩) (by simp; try omega)).trans (by simp [go_sem, fy2_4])
  have fy3_5 : w3.frozen? ⟨w.heap.size + 1 + 1, 5, none⟩ = false := (hb.frozen (p := ⟨w.heap.size + 1 + 1, 5, none⟩) (by simp; try omega)).trans (by simp [go_sem, fy2_5])
  have fy3_6 : w3.frozen? ⟨w.heap.size + 1 + 1, 6, none⟩ = false := (hb.frozen (p := ⟨w.heap.size + 1 + 1, 6, none⟩) (by simp; try omega)).trans (by simp [go_sem, fy2_6])
  have fy3_7 : w3.frozen? ⟨w.heap.size + 1 + 1, 7, none⟩ = false := (hb.frozen (p := ⟨w.heap.size + 1 + 1, 7, none⟩) (by simp; try omega)).trans (by simp [go_sem, fy2_7])
  have fy3_8 : w3.frozen? ⟨w.heap.size + 1 + 1, 8, none⟩ = false := (hb.frozen (p := ⟨w.heap.size + 1 + 1, 8, none⟩) (by simp; try omega)).trans (by simp [go_sem, fy2_8])
  have fy3_9 : w3.frozen? ⟨w.heap.size + 1 + 1, 9, none⟩ = false := (hb.frozen (p := ⟨w.heap.size + 1 + 1, 9, none⟩) (by simp; try omega)).trans (by simp [go_sem, fy2_9])
  have fy3_10 : w3.frozen? ⟨w.heap.size + 1 + 1, 10, none⟩ = false := (hb.frozen (p := ⟨w.heap.size + 1 + 1, 10, none⟩) (by simp; try omega)).trans (by simp [go_sem, fy2_10])
  have fy3_11 : w3.frozen? ⟨w.heap.size + 1 + 1, 11, none⟩ = false := (hb.frozen (p := ⟨w.heap.size + 1 + 1, 11, none⟩) (by simp; try omega)).trans (by simp [go_sem, fy2_11])
  have fz3_0 : w3.frozen? ⟨w.heap.size + 1, 0, none⟩ = false := (hb.frozen (p := ⟨w.heap.size + 1, 0, none⟩) (by simp; try omega)).trans (by simp [go_sem, fz2_0])
  have fz3_1 : w3.frozen? ⟨w.heap.size + 1, 1, none⟩ = false := (hb.frozen (p := ⟨w.heap.size + 1, 1, none⟩) (by simp; try omega)).trans (by simp [go_sem, fz2_1])
  have fz3_2 : w3.frozen? ⟨w.heap.size + 1, 2, none⟩ = false := (hb.frozen (p := ⟨w.heap.size + 1, 2, none⟩) (by simp; try omega)).trans (by simp [go_sem, fz2_2])
  have fz3_3 : w3.frozen? ⟨w.heap.size + 1, 3, none⟩ = false := (hb.frozen (p := ⟨w.heap.size + 1, 3, none⟩) (by simp; try omega)).trans (by simp [go_sem, fz2_3])
  have fz3_4 : w3.frozen? ⟨w.heap.size + 1, 4, none⟩ = false := (hb.frozen (p := ⟨w.heap.size + 1, 4, none⟩) (by simp; try omega)).trans (by simp [go_sem, fz2_4])
  have fz3_5 : w3.frozen? ⟨w.heap.size + 1, 5, none⟩ = false := (hb.frozen (p := ⟨w.heap.size + 1, 5, none⟩) (by simp; try omega)).trans (by simp [go_sem, fz2_5])
  have fz3_6 : w3.frozen? ⟨w.heap.size + 1, 6, none⟩ = false := (hb.frozen (p := ⟨w.heap.size + 1, 6, none⟩) (by simp; try omega)).trans (by simp [go_sem, fz2_6])
  have fz3_7 : w3.frozen? ⟨w.heap.size + 1, 7, none⟩ = false := (hb.frozen (p := ⟨w.heap.size + 1, 7, none⟩) (by simp; try omega)).trans (by simp [go_sem, fz2_7])
  have fz3_8 : w3.frozen? ⟨w.heap.size + 1, 8, none⟩ = false := (hb.frozen (p := ⟨w.heap.size + 1, 8, none⟩) (by simp; try omega)).trans (by simp [go_sem, fz2_8])
  have fz3_9 : w3.frozen? ⟨w.heap.size + 1, 9, none⟩ = false := (hb.frozen (p := ⟨w.heap.size + 1, 9, none⟩) (by simp; try omega)).trans (by simp [go_sem, fz2_9])
  have fz3_10 : w3.frozen? ⟨w.heap.size + 1, 10, none⟩ = false := (hb.frozen (p := ⟨w.heap.size + 1, 10, none⟩) (by simp; try omega)).trans (by simp [go_sem, fz2_10])
  have fz3_11 : w3.frozen? ⟨w.heap.size + 1, 11, none⟩ = false := (hb.frozen (p := ⟨w.heap.size + 1, 11, none⟩) (by simp; try omega)).trans (by simp [go_sem, fz2_11])
  clear x2_0 x2_1 x2_2 x2_3 x2_4 x2_5 x2_6 x2_7 x2_8 x2_9 x2_10 x2_11 y2_0 y2_1 y2_2 y2_3 y2_4 y2_5 y2_6 y2_7 y2_8 y2_9 y2_10 y2_11 z2_0 z2_1 z2_2 z2_3 z2_4 z2_5 z2_6 z2_7 z2_8 z2_9 z2_10 z2_11 fy2_0 fy2_1 fy2_2 fy2_3 fy2_4 fy2_5 fy2_6 fy2_7 fy2_8 fy2_9 fy2_10 fy2_11 fz2_0 fz2_1 fz2_2 fz2_3 fz2_4 fz2_5 fz2_6 fz2_7 fz2_8 fz2_9 fz2_10 fz2_11
  have HB' : Hid (Below w.heap.size w w3) := Lib.hid (by
    refine Below.trans ?_ (hb.mono ?_)
    · have hbw := HB.out
      go_grown
    · simp; try omega)
  clear HB
  have HB := HB'
  clear HB'
  have hs3 := hb.size
  simp at hs3
  replace HO5 := Lib.hid ((HO5.out.same (fun b hb1 _ => by
    have hb2 : (w.heap.size + 1 + 1 + 1) ≤ b ∧ b < w1.heap.size := hb1
    have n1 : b ≠ w.heap.size + 1 := by omega
    have n2 : b ≠ w.heap.size + 1 + 1 := by omega
    repeat (first | rw [far_block n1] | rw [far_block n2]))).below hb)
  clear hb
  go_wp2_with (
    with_reducible refine bodyPost_ret (v := .agg #[.int .i64 f0, .int .i64 f1, .int .i64 f2, .int .i64 f3, .string f4, .slice B5 n5 k5, .int .i64 f6_0, .int .i64 f6_1, .int .i64 f7, .int .i64 f8_0, .int .i64 f8_1, .int .i64 f8_2]) ?hres rfl ?hpost
    case hres => exact results_box rfl _ _ (w.heap.size + 1) [.int .i64 f0, .int .i64 f1, .int .i64 f2, .int .i64 f3, .string f4, .slice B5 n5 k5, .int .i64 f6_0, .int .i64 f6_1, .int .i64 f7, .int .i64 f8_0, .int .i64 f8_1, .int .i64 f8_2] _ rfl ((((((((((((((((Box.of_cells (b := w.heap.size + 1) (cs := [.int .i64 0, .int .i64 0, .int .i64 0, .int .i64 0, .string ⟨#[]⟩, .slice none 0 0, .int .i64 0, .int .i64 0, .int .i64 0, .int .i64 0, .int .i64 0, .int .i64 0]) (by omega) ⟨z3_0, z3_1, z3_2, z3_3, z3_4, z3_5, z3_6, z3_7, z3_8, z3_9, z3_10, z3_11, trivial⟩).far (by omega) _).far (by omega) _).far (by omega) _).put 0 _).put 1 _).put 2 _).put 3 _).put 4 _).put 5 _).put 6 _).put 7 _).put 8 _).put 9 _).put 10 _).put 11 _) Try.underlying112 rfl (by kernel_rfl)
    case hpost =>
      have lb1 : w.heap.size ≤ w.heap.size + 1 := by omega
      have lb2 : w.heap.size ≤ w.heap.size + 1 + 1 := by omega
      suffices h9 : ∀ w' : World, Touch (fun b => b = w.heap.size + 1 ∨ b = w.heap.size + 1 + 1) w3 w' → Below w.heap.size w w' → GivesMessage f0 f1 f2 f3 f4 L5 n5 f6_0 f6_1 f7 f8_0 f8_1 f8_2 w (.returned (.agg #[.int .i64 f0, .int .i64 f1, .int .i64 f2, .int .i64 f3, .string f4, .slice B5 n5 k5, .int .i64 f6_0, .int .i64 f6_1, .int .i64 f7, .int .i64 f8_0, .int .i64 f8_1, .int .i64 f8_2])) w' from h9 _ ((((((((((((((((Touch.refl (fun b => b = w.heap.size + 1 ∨ b = w.heap.size + 1 + 1) w3).setCell (Or.inr rfl) _).setCell (Or.inr rfl) _).setCell (Or.inr rfl) _).setCell (Or.inl rfl) _).setCell (Or.inl rfl) _).setCell (Or.inl rfl) _).setCell (Or.inl rfl) _).setCell (Or.inl rfl) _).setCell (Or.inl rfl) _).setCell (Or.inl rfl) _).setCell (Or.inl rfl) _).setCell (Or.inl rfl) _).setCell (Or.inl rfl) _).setCell (Or.inl rfl) _).setCell (Or.inl rfl) _) (((((((((((((((HB.out.setCell lb2 _).setCell lb2 _).setCell lb2 _).setCell lb1 _).setCell lb1 _).setCell lb1 _).setCell lb1 _).setCell lb1 _).setCell lb1 _).setCell lb1 _).setCell lb1 _).setCell lb1 _).setCell lb1 _).setCell lb1 _).setCell lb1 _)
      intro w' hT9 hB9
      refine ⟨B5, k5, rfl, ?_, hB9⟩
      · exact (HO5.out.touch hT9 (fun b hb1 hS => by
          have h2 : (w.heap.size + 1 + 1 + 1) ≤ b := hb1.1
          rcases hS with h | h <;> omega)).mono (fun b hb1 => ⟨by have h2 : (w.heap.size + 1 + 1 + 1) ≤ b := hb1.1; omega, Nat.lt_of_lt_of_le hb1.2 (Nat.le_trans (by omega) hT9.size)⟩))
end Go.Proofs.Ytmeacgpebpfpbaa
