/- Chapter 10's data, by program. -/
import Derived.Test.YtmeacgpebpfpbaaTyG1
import Derived.LoopTactic
import Derived.Lib.Hide
import Derived.Deep.QuietTactic
import Derived.BigQuiet
import Derived.Deep.RegionWith
import Derived.Handy
namespace Go.Proofs.Ytmeacgpebpfpbaa
open Go.RowKit
set_option linter.unusedVariables false
set_option linter.unusedSimpArgs false
def GivesLink (f0 : Int) (f1 : Bool) (L2 : List Dat) (n2 : Nat) (f3 : Int) (L4 : List Dat) (n4 : Nat) (f5 : Int) (L6 : List Dat) (n6 : Nat) (w : World) (e : Ending) (w' : World) : Prop := ∃ (B2 : Option Addr) (k2 : Nat), ∃ (B4 : Option Addr) (k4 : Nat), ∃ (B6 : Option Addr) (k6 : Nat), ∃ a1 a2 : Nat, e = .returned (.agg #[.int .i64 f0, .bool f1, .slice B2 n2 k2, .int .i64 f3, .slice B4 n4 k4, .int .i64 f5, .slice B6 n6 k6]) ∧ Owns w' (.l L2) [.slice B2 n2 k2] (rng w.heap.size a1) ∧ Owns w' (.l L4) [.slice B4 n4 k4] (rng a1 a2) ∧ Owns w' (.l L6) [.slice B6 n6 k6] (rng a2 w'.heap.size) ∧ w.heap.size ≤ a1 ∧ a1 ≤ a2 ∧ a2 ≤ w'.heap.size ∧ Below w.heap.size w w'
set_option maxHeartbeats 4000000 in
theorem toLink (f0 : Int) (f1 : Bool) (L2 : List Dat) (A2 : Option Addr) (n2 c2 : Nat) (f3 : Int) (L4 : List Dat) (A4 : Option Addr) (n4 c4 : Nat) (f5 : Int) (L6 : List Dat) (A6 : Option Addr) (n6 c6 : Nat) (w : World) (hl2 : Lies w (.l L2) [.slice A2 n2 c2]) (ht2 : ∀ x ∈ L2, Has tyExport x) (hq2 : (Dat.l L2).bulk ≤ 1099511627776) (hl4 : Lies w (.l L4) [.slice A4 n4 c4]) (ht4 : ∀ x ∈ L4, Has tyQuestion x) (hq4 : (Dat.l L4).bulk ≤ 1099511627776) (hl6 : Lies w (.l L6) [.slice A6 n6 c6]) (ht6 : ∀ x ∈ L6, Has tyQuestion x) (hq6 : (Dat.l L6).bulk ≤ 1099511627776) : Calls Try.prog 151 #[.agg #[.int .i64 f0, .bool f1, .slice A2 n2 c2, .int .i64 f3, .slice A4 n4 c4, .int .i64 f5, .slice A6 n6 c6]] w (GivesLink f0 f1 L2 n2 f3 L4 n4 f5 L6 n6 w) := by
  have HL2 := Lib.hid hl2
  have HT2 := Lib.hid ht2
  clear hl2 ht2
  have HL4 := Lib.hid hl4
  have HT4 := Lib.hid ht4
  clear hl4 ht4
  have HL6 := Lib.hid hl6
  have HT6 := Lib.hid ht6
  clear hl6 ht6
  go_enter Try.func151, Try.ntmps151
  go_wp2_with fail
  refine (toExportS L2 A2 n2 c2 _ (HL2.out.below (by go_grown)) HT2.out hq2).mono ?_
  rintro e w1 ⟨B2, m2, k2, rfl, hO, hb⟩
  obtain rfl : n2 = m2 := by rw [← hO.lies.count, ← HL2.out.count]
  have y1_0 : w1.cell? ⟨w.heap.size + 1 + 1, 0, none⟩ = some (.int .i64 f0) := (hb.cell (p := ⟨w.heap.size + 1 + 1, 0, none⟩) (by simp; try omega)).trans (by simp [go_sem])
  have y1_1 : w1.cell? ⟨w.heap.size + 1 + 1, 1, none⟩ = some (.bool f1) := (hb.cell (p := ⟨w.heap.size + 1 + 1, 1, none⟩) (by simp; try omega)).trans (by simp [go_sem])
  have y1_2 : w1.cell? ⟨w.heap.size + 1 + 1, 2, none⟩ = some (.slice none 0 0) := (hb.cell (p := ⟨w.heap.size + 1 + 1, 2, none⟩) (by simp; try omega)).trans (by simp [go_sem])
  have y1_3 : w1.cell? ⟨w.heap.size + 1 + 1, 3, none⟩ = some (.int .i64 0) := (hb.cell (p := ⟨w.heap.size + 1 + 1, 3, none⟩) (by simp; try omega)).trans (by simp [go_sem])
  have y1_4 : w1.cell? ⟨w.heap.size + 1 + 1, 4, none⟩ = some (.slice none 0 0) := (hb.cell (p := ⟨w.heap.size + 1 + 1, 4, none⟩) (by simp; try omega)).trans (by simp [go_sem])
  have y1_5 : w1.cell? ⟨w.heap.size + 1 + 1, 5, none⟩ = some (.int .i64 0) := (hb.cell (p := ⟨w.heap.size + 1 + 1, 5, none⟩) (by simp; try omega)).trans (by simp [go_sem])
  have y1_6 : w1.cell? ⟨w.heap.size + 1 + 1, 6, none⟩ = some (.slice none 0 0) := (hb.cell (p := ⟨w.heap.size + 1 + 1, 6, none⟩) (by simp; try omega)).trans (by simp [go_sem])
  have z1_0 : w1.cell? ⟨w.heap.size + 1, 0, none⟩ = some (.int .i64 0) := (hb.cell (p := ⟨w.heap.size + 1, 0, none⟩) (by simp; try omega)).trans (by simp [go_sem])
  have z1_1 : w1.cell? ⟨w.heap.size + 1, 1, none⟩ = some (.bool false) := (hb.cell (p := ⟨w.heap.size + 1, 1, none⟩) (by simp; try omega)).trans (by simp [go_sem])
  have z1_2 : w1.cell? ⟨w.heap.size + 1, 2, none⟩ = some (.slice none 0 0) := (hb.cell (p := ⟨w.heap.size + 1, 2, none⟩) (by simp; try omega)).trans (by simp [go_sem])
  have z1_3 : w1.cell? ⟨w.heap.size + 1, 3, none⟩ = some (.int .i64 0) := (hb.cell (p := ⟨w.heap.size + 1, 3, none⟩) (by simp; try omega)).trans (by simp [go_sem])
  have z1_4 : w1.cell? ⟨w.heap.size + 1, 4, none⟩ = some (.slice none 0 0) := (hb.cell (p := ⟨w.heap.size + 1, 4, none⟩) (by simp; try omega)).trans (by simp [go_sem])
  have z1_5 : w1.cell? ⟨w.heap.size + 1, 5, none⟩ = some (.int .i64 0) := (hb.cell (p := ⟨w.heap.size + 1, 5, none⟩) (by simp; try omega)).trans (by simp [go_sem])
  have z1_6 : w1.cell? ⟨w.heap.size + 1, 6, none⟩ = some (.slice none 0 0) := (hb.cell (p := ⟨w.heap.size + 1, 6, none⟩) (by simp; try omega)).trans (by simp [go_sem])
  have x1_0 : w1.cell? ⟨w.heap.size, 0, none⟩ = some (.int .i64 f0) := (hb.cell (p := ⟨w.heap.size, 0, none⟩) (by simp; try omega)).trans (by simp [go_sem])
  have x1_1 : w1.cell? ⟨w.heap.size, 1, none⟩ = some (.bool f1) := (hb.cell (p := ⟨w.heap.size, 1, none⟩) (by simp; try omega)).trans (by simp [go_sem])
  have x1_2 : w1.cell? ⟨w.heap.size, 2, none⟩ = some (.slice A2 n2 c2) := (hb.cell (p := ⟨w.heap.size, 2, none⟩) (by simp; try omega)).trans (by simp [go_sem])
  have x1_3 : w1.cell? ⟨w.heap.size, 3, none⟩ = some (.int .i64 f3) := (hb.cell (p := ⟨w.heap.size, 3, none⟩) (by simp; try omega)).trans (by simp [go_sem])
  have x1_4 : w1.cell? ⟨w.heap.size, 4, none⟩ = some (.slice A4 n4 c4) := (hb.cell (p := ⟨w.heap.size, 4, none⟩) (by simp; try omega)).trans (by simp [go_sem])
  have x1_5 : w1.cell? ⟨w.heap.size, 5, none⟩ = some (.int .i64 f5) := (hb.cell (p := ⟨w.heap.size, 5, none⟩) (by simp; try omega)).trans (by simp [go_sem])
  have x1_6 : w1.cell? ⟨w.heap.size, 6, none⟩ = some (.slice A6 n6 c6) := (hb.cell (p := ⟨w.heap.size, 6, none⟩) (by simp; try omega)).trans (by simp [go_sem])
  have fy1_0 : w1.frozen? ⟨w.heap.size + 1 + 1, 0, none⟩ = false := (hb.frozen (p := ⟨w.heap.size + 1 + 1, 0, none⟩) (by simp; try omega)).trans (by simp [go_sem])
  have fy1_1 : w1.frozen? ⟨w.heap.size + 1 + 1, 1, none⟩ = false := (hb.frozen (p := ⟨w.heap.size + 1 + 1, 1, none⟩) (by simp; try omega)).trans (by simp [go_sem])
  have fy1_2 : w1.frozen? ⟨w.heap.size + 1 + 1, 2, none⟩ = false := (hb.frozen (p := ⟨w.heap.size + 1 + 1, 2, none⟩) (by simp; try omega)).trans (by simp [go_sem])
  have fy1_3 : w1.frozen? ⟨w.heap.size + 1 + 1, 3, none⟩ = false := (hb.frozen (p := ⟨w.heap.size + 1 + 1, 3, none⟩) (by simp; try omega)).trans (by simp [go_sem])
  have fy1_4 : w1.frozen? ⟨w.heap.size + 1 + 1, 4, none⟩ = false := (hb.frozen (p := ⟨w.heap.size + 1 + 1, 4, none⟩) (by simp; try omega)).trans (by simp [go_sem])
  have fy1_5 : w1.frozen? ⟨w.heap.size + 1 + 1, 5, none⟩ = false := (hb.frozen (p := ⟨w.heap.size + 1 + 1, 5, none⟩) (by simp; try omega)).trans (by simp [go_sem])
  have fy1_6 : w1.frozen? ⟨w.heap.size + 1 + 1, 6, none⟩ = false := (hb.frozen (p := ⟨w.heap.size + 1 + 1, 6, none⟩) (by simp; try omega)).trans (by simp [go_sem])
  have fz1_0 : w1.frozen? ⟨w.heap.size + 1, 0, none⟩ = false := (hb.frozen (p := ⟨w.heap.size + 1, 0, none⟩) (by simp; try omega)).trans (by simp [go_sem])
  have fz1_1 : w1.frozen? ⟨w.heap.size + 1, 1, none⟩ = false := (hb.frozen (p := ⟨w.heap.size + 1, 1, none⟩) (by simp; try omega)).trans (by simp [go_sem])
  have fz1_2 : w1.frozen? ⟨w.heap.size + 1, 2, none⟩ = false := (hb.frozen (p := ⟨w.heap.size + 1, 2, none⟩) (by simp; try omega)).trans (by simp [go_sem])
  have fz1_3 : w1.frozen? ⟨w.heap.size + 1, 3, none⟩ = false := (hb.frozen (p := ⟨w.heap.size + 1, 3, none⟩) (by simp; try omega)).trans (by simp [go_sem])
  have fz1_4 : w1.frozen? ⟨w.heap.size + 1, 4, none⟩ = false := (hb.frozen (p := ⟨w.heap.size + 1, 4, none⟩) (by simp; try omega)).trans (by simp [go_sem])
  have fz1_5 : w1.frozen? ⟨w.heap.size + 1, 5, none⟩ = false := (hb.frozen (p := ⟨w.heap.size + 1, 5, none⟩) (by simp; try omega)).trans (by simp [go_sem])
  have fz1_6 : w1.frozen? ⟨w.heap.size + 1, 6, none⟩ = false := (hb.frozen (p := ⟨w.heap.size + 1, 6, none⟩) (by simp; try omega)).trans (by simp [go_sem])
  have HB' : Hid (Below w.heap.size w w1) := Lib.hid (by
    refine Below.trans ?_ (hb.mono ?_)
    · skip
      go_grown
    · simp; try omega)
  have HB := HB'
  clear HB'
  have hs1 := hb.size
  simp at hs1
  have HO2 : Hid (Owns w1 (.l L2) [.slice B2 n2 k2] (rng (w.heap.size + 1 + 1 + 1) w1.heap.size)) := Lib.hid (hO.mono (fun b hb1 => ⟨by have h2 := hb1.1; simp at h2; omega, hb1.2⟩))
  clear hO
  clear hb
  go_wp2_with fail
  refine (toQuestionS L4 A4 n4 c4 _ (HL4.out.below (by have hbw := HB.out; go_grown)) HT4.out hq4).mono ?_
  rintro e w2 ⟨B4, m4, k4, rfl, hO, hb⟩
  obtain rfl : n4 = m4 := by rw [← hO.lies.count, ← HL4.out.count]
  have y2_0 : w2.cell? ⟨w.heap.size + 1 + 1, 0, none⟩ = some (.int .i64 f0) := (hb.cell (p := ⟨w.heap.size + 1 + 1, 0, none⟩) (by simp; try omega)).trans (by simp [go_sem, x1_0, x1_1, x1_2, x1_3, x1_4, x1_5, x1_6, y1_0, y1_1, y1_2, y1_3, y1_4, y1_5, y1_6, z1_0, z1_1, z1_2, z1_3, z1_4, z1_5, z1_6, fy1_0, fy1_1, fy1_2, fy1_3, fy1_4, fy1_5, fy1_6, fz1_0, fz1_1, fz1_2, fz1_3, fz1_4, fz1_5, fz1_6])
  have y2_1 : w2.cell? ⟨w.heap.size + 1 + 1, 1, none⟩ = some (.bool f1) := (hb.cell (p := ⟨w.heap.size + 1 + 1, 1, none⟩) (by simp; try omega)).trans (by simp [go_sem, x1_0, x1_1, x1_2, x1_3, x1_4, x1_5, x1_6, y1_0, y1_1, y1_2, y1_3, y1_4, y1_5, y1_6, z1_0, z1_1, z1_2, z1_3, z1_4, z1_5, z1_6, fy1_0, fy1_1, fy1_2, fy1_3, fy1_4, fy1_5, fy1_6, fz1_0, fz1_1, fz1_2, fz1_3, fz1_4, fz1_5, fz1_6])
  have y2_2 : w2.cell? ⟨w.heap.size + 1 + 1, 2, none⟩ = some (.slice B2 n2 k2) := (hb.cell (p := ⟨w.heap.size + 1 + 1, 2, none⟩) (by simp; try omega)).trans (by simp [go_sem, x1_0, x1_1, x1_2, x1_3, x1_4, x1_5, x1_6, y1_0, y1_1, y1_2, y1_3, y1_4, y1_5, y1_6, z1_0, z1_1, z1_2, z1_3, z1_4, z1_5, z1_6, fy1_0, fy1_1, fy1_2, fy1_3, fy1_4, fy1_5, fy1_6, fz1_0, fz1_1, fz1_2, fz1_3, fz1_4, fz1_5, fz1_6])
  have y2_3 : w2.cell? ⟨w.heap.size + 1 + 1, 3, none⟩ = some (.int .i64 f3) := (hb.cell (p := ⟨w.heap.size + 1 + 1, 3, none⟩) (by simp; try omega)).trans (by simp [go_sem, x1_0, x1_1, x1_2, x1_3, x1_4, x1_5, x1_6, y1_0, y1_1, y1_2, y1_3, y1_4, y1_5, y1_6, z1_0, z1_1, z1_2, z1_3, z1_4, z1_5, z1_6, fy1_0, fy1_1, fy1_2, fy1_3, fy1_4, fy1_5, fy1_6, fz1_0, fz1_1, fz1_2, fz1_3, fz1_4, fz1_5, fz1_6])
  have y2_4 : w2.cell? ⟨w.heap.size + 1 + 1, 4, none⟩ = some (.slice none 0 0) := (hb.cell (p := ⟨w.heap.size + 1 + 1, 4, none⟩) (by simp; try omega)).trans (by simp [go_sem, x1_0, x1_1, x1_2, x1_3, x1_4, x1_5, x1_6, y1_0, y1_1, y1_2, y1_3, y1_4, y1_5, y1_6, z1_0, z1_1, z1_2, z1_3, z1_4, z1_5, z1_6, fy1_0, fy1_1, fy1_2, fy1_3, fy1_4, fy1_5, fy1_6, fz1_0, fz1_1, fz1_2, fz1_3, fz1_4, fz1_5, fz1_6])
  have y2_5 : w2.cell? ⟨w.heap.size + 1 + 1, 5, none⟩ = some (.int .i64 0) := (hb.cell (p := ⟨w.heap.size + 1 + 1, 5, none⟩) (by simp; try omega)).trans (by simp [go_sem, x1_0, x1_1, x1_2, x1_3, x1_4, x1_5, x1_6, y1_0, y1_1, y1_2, y1_3, y1_4, y1_5, y1_6, z1_0, z1_1, z1_2, z1_3, z1_4, z1_5, z1_6, fy1_0, fy1_1, fy1_2, fy1_3, fy1_4, fy1_5, fy1_6, fz1_0, fz1_1, fz1_2, fz1_3, fz1_4, fz1_5, fz1_6])
  have y2_6 : w2.cell? ⟨w.heap.size + 1 + 1, 6, none⟩ = some (.slice none 0 0) := (hb.cell (p := ⟨w.heap.size + 1 + 1, 6, none⟩) (by simp; try omega)).trans (by simp [go_sem, x1_0, x1_1, x1_2, x1_3, x1_4, x1_5, x1_6, y1_0, y1_1, y1_2, y1_3, y1_4, y1_5, y1_6, z1_0, z1_1, z1_2, z1_3, z1_4, z1_5, z1_6, fy1_0, fy1_1, fy1_2, fy1_3, fy1_4, fy1_5, fy1_6, fz1_0, fz1_1, fz1_2, fz1_3, fz1_4, fz1_5, fz1_6])
  have z2_0 : w2.cell? ⟨w.heap.size + 1, 0, none⟩ = some (.int .i64 0) := (hb.cell (p := ⟨w.heap.size + 1, 0, none⟩) (by simp; try omega)).trans (by simp [go_sem, z1_0])
  have z2_1 : w2.cell? ⟨w.heap.size + 1, 1, none⟩ = some (.bool false) := (hb.cell (p := ⟨w.heap.size + 1, 1, none⟩) (by simp; try omega)).trans (by simp [go_sem, z1_1])
  have z2_2 : w2.cell? ⟨w.heap.size + 1, 2, none⟩ = some (.slice none 0 0) := (hb.cell (p := ⟨w.heap.size + 1, 2, none⟩) (by simp; try omega)).trans (by simp [go_sem, z1_2])
  have z2_3 : w2.cell? ⟨w.heap.size + 1, 3, none⟩ = some (.int .i64 0) := (hb.cell (p := ⟨w.heap.size + 1, 3, none⟩) (by simp; try omega)).trans (by simp [go_sem, z1_3])
  have z2_4 : w2.cell? ⟨w.heap.size + 1, 4, none⟩ = some (.slice none 0 0) := (hb.cell (p := ⟨w.heap.size + 1, 4, none⟩) (by simp; try omega)).trans (by simp [go_sem, z1_4])
  have z2_5 : w2.cell? ⟨w.heap.size + 1, 5, none⟩ = some (.int .i64 0) := (hb.cell (p := ⟨w.heap.size + 1, 5, none⟩) (by simp; try omega)).trans (by simp [go_sem, z1_5])
  have z2_6 : w2.cell? ⟨w.heap.size + 1, 6, none⟩ = some (.slice none 0 0) := (hb.cell (p := ⟨w.heap.size + 1, 6, none⟩) (by simp; try omega)).trans (by simp [go_sem, z1_6])
  have x2_0 : w2.cell? ⟨w.heap.size, 0, none⟩ = some (.int .i64 f0) := (hb.cell (p := ⟨w.heap.size, 0, none⟩) (by simp; try omega)).trans (by simp [go_sem, x1_0])
  have x2_1 : w2.cell? ⟨w.heap.size, 1, none⟩ = some (.bool f1) := (hb.cell (p := ⟨w.heap.size, 1, none⟩) (by simp; try omega)).trans (by simp [go_sem, x1_1])
  have x2_2 : w2.cell? ⟨w.heap.size, 2, none⟩ = some (.slice A2 n2 c2) := (hb.cell (p := ⟨w.heap.size, 2, none⟩) (by simp; try omega)).trans (by simp [go_sem, x1_2])
  have x2_3 : w2.cell? ⟨w.heap.size, 3, none⟩ = some (.int .i64 f3) := (hb.cell (p := ⟨w.heap.size, 3, none⟩) (by simp; try omega)).trans (by simp [go_sem, x1_3])
  have x2_4 : w2.cell? ⟨w.heap.size, 4, none⟩ = some (.slice A4 n4 c4) := (hb.cell (p := ⟨w.heap.size, 4, none⟩) (by simp; try omega)).trans (by simp [go_sem, x1_4])
  have x2_5 : w2.cell? ⟨w.heap.size, 5, none⟩ = some (.int .i64 f5) := (hb.cell (p := ⟨w.heap.size, 5, none⟩) (by simp; try omega)).trans (by simp [go_sem, x1_5])
  have x2_6 : w2.cell? ⟨w.heap.size, 6, none⟩ = some (.slice A6 n6 c6) := (hb.cell (p := ⟨w.heap.size, 6, none⟩) (by simp; try omega)).trans (by simp [go_sem, x1_6])
  have fy2_0 : w2.frozen? ⟨w.heap.size + 1 + 1, 0, none⟩ = false := (hb.frozen (p := ⟨w.heap.size + 1 + 1, 0, none⟩) (by simp; try omega)).trans (by simp [go_sem, fy1_0])
  have fy2_1 : w2.frozen? ⟨w.heap.size + 1 + 1, 1, none⟩ = false := (hb.frozen (p := ⟨w.heap.size + 1 + 1, 1, none⟩) (by simp; try omega)).trans (by simp [go_sem, fy1_1])
  have fy2_2 : w2.frozen? ⟨w.heap.size + 1 + 1, 2, none⟩ = false := (hb.frozen (p := ⟨w.heap.size + 1 + 1, 2, none⟩) (by simp; try omega)).trans (by simp [go_sem, fy1_2])
  have fy2_3 : w2.frozen? ⟨w.heap.size + 1 + 1, 3, none⟩ = false := (hb.frozen (p := ⟨w.heap.size + 1 + 1, 3, none⟩) (by simp; try omega)).trans (by simp [go_sem, fy1_3])
  have fy2_4 : w2.frozen? ⟨w.heap.size + 1 + 1, 4, none⟩ = false := (hb.frozen (p := ⟨w.heap.size + 1 + 1, 4, none⟩) (by simp; try omega)).trans (by simp [go_sem, fy1_4])
  have fy2_5 : w2.frozen? ⟨w.heap.size + 1 + 1, 5, none⟩ = false := (hb.frozen (p := ⟨w.heap.size + 1 + 1, 5, none⟩) (by simp; try omega)).trans (by simp [go_sem, fy1_5])
  have fy2_6 : w2.frozen? ⟨w.heap.size + 1 + 1, 6, none⟩ = false := (hb.frozen (p := ⟨w.heap.size + 1 + 1, 6, none⟩) (by simp; try omega)).trans (by simp [go_sem, fy1_6])
  have fz2_0 : w2.frozen? ⟨w.heap.size + 1, 0, none⟩ = false := (hb.frozen (p := ⟨w.heap.size + 1, 0, none⟩) (by simp; try omega)).trans (by simp [go_sem, fz1_0])
  have fz2_1 : w2.frozen? ⟨w.heap.size + 1, 1, none⟩ = false := (hb.frozen (p := ⟨w.heap.size + 1, 1, none⟩) (by simp; try omega)).trans (by simp [go_sem, fz1_1])
  have fz2_2 : w2.frozen? ⟨w.heap.size + 1, 2, none⟩ = false := (hb.frozen (p := ⟨w.heap.size + 1, 2, none⟩) (by simp; try omega)).trans (by simp [go_sem, fz1_2])
  have fz2_3 : w2.frozen? ⟨w.heap.size + 1, 3, none⟩ = false := (hb.frozen (p := ⟨w.heap.size + 1, 3, none⟩) (by simp; try omega)).trans (by simp [go_sem, fz1_3])
  have fz2_4 : w2.frozen? ⟨w.heap.size + 1, 4, none⟩ = false := (hb.frozen (p := ⟨w.heap.size + 1, 4, none⟩) (by simp; try omega)).trans (by simp [go_sem, fz1_4])
  have fz2_5 : w2.frozen? ⟨w.heap.size + 1, 5, none⟩ = false := (hb.frozen (p := ⟨w.heap.size + 1, 5, none⟩) (by simp; try omega)).trans (by simp [go_sem, fz1_5])
  have fz2_6 : w2.frozen? ⟨w.heap.size + 1, 6, none⟩ = false := (hb.frozen (p := ⟨w.heap.size + 1, 6, none⟩) (by simp; try omega)).trans (by simp [go_sem, fz1_6])
  clear x1_0 x1_1 x1_2 x1_3 x1_4 x1_5 x1_6 y1_0 y1_1 y1_2 y1_3 y1_4 y1_5 y1_6 z1_0 z1_1 z1_2 z1_3 z1_4 z1_5 z1_6 fy1_0 fy1_1 fy1_2 fy1_3 fy1_4 fy1_5 fy1_6 fz1_0 fz1_1 fz1_2 fz1_3 fz1_4 fz1_5 fz1_6
  have HB' : Hid (Below w.heap.size w w2) := Lib.hid (by
    refine Below.trans ?_ (hb.mono ?_)
    · have hbw := HB.out
      go_grown
    · simp; try omega)
  clear HB
  have HB := HB'
  clear HB'
  have hs2 := hb.size
  simp at hs2
  replace HO2 := Lib.hid ((HO2.out.same (fun b hb1 _ => by
    have hb2 : (w.heap.size + 1 + 1 + 1) ≤ b ∧ b < w1.heap.size := hb1
    have n1 : b ≠ w.heap.size + 1 := by omega
    have n2 : b ≠ w.heap.size + 1 + 1 := by omega
    repeat (first | rw [far_block n1] | rw [far_block n2]))).below hb)
  have HO4 : Hid (Owns w2 (.l L4) [.slice B4 n4 k4] (rng w1.heap.size w2.heap.size)) := Lib.hid (hO.mono (fun b hb1 => ⟨by have h2 := hb1.1; simp at h2; omega, hb1.2⟩))
  clear hO
  clear hb
  go_wp2_with fail
  refine (toQuestionS L6 A6 n6 c6 _ (HL6.out.below (by have hbw := HB.out; go_grown)) HT6.out hq6).mono ?_
  rintro e w3 ⟨B6, m6, k6, rfl, hO, hb⟩
  obtain rfl : n6 = m6 := by rw [← hO.lies.count, ← HL6.out.count]
  have y3_0 : w3.cell? ⟨w.heap.size + 1 + 1, 0, none⟩ = some (.int .i64 f0) := (hb.cell (p := ⟨w.heap.size + 1 + 1, 0, none⟩) (by simp; try omega)).trans (by simp [go_sem, x2_0, x2_1, x2_2, x2_3, x2_4, x2_5, x2_6, y2_0, y2_1, y2_2, y2_3, y2_4, y2_5, y2_6, z2_0, z2_1, z2_2, z2_3, z2_4, z2_5, z2_6, fy2_0, fy2_1, fy2_2, fy2_3, fy2_4, fy2_5, fy2_6, fz2_0, fz2_1, fz2_2, fz2_3, fz2_4, fz2_5, fz2_6])
  have y3_1 : w3.cell? ⟨w.heap.size + 1 + 1, 1, none⟩ = some (.bool f1) := (hb.cell (p := ⟨w.heap.size + 1 + 1, 1, none⟩) (by simp; try omega)).trans (by simp [go_sem, x2_0, x2_1, x2_2, x2_3, x2_4, x2_5, x2_6, y2_0, y2_1, y2_2, y2_3, y2_4, y2_5, y2_6, z2_0, z2_1, z2_2, z2_3, z2_4, z2_5, z2_6, fy2_0, fy2_1, fy2_2, fy2_3, fy2_4, fy2_5, fy2_6, fz2_0, fz2_1, fz2_2, fz2_3, fz2_4, fz2_5, fz2_6])
  have y3_2 : w3.cell? ⟨w.heap.size + 1 + 1, 2, none⟩ = some (.slice B2 n2 k2) := (hb.cell (p := ⟨w.heap.size + 1 + 1, 2, none⟩) (by simp; try omega)).trans (by simp [go_sem, x2_0, x2_1, x2_2, x2_3, x2_4, x2_5, x2_6, y2_0, y2_1, y2_2, y2_3, y2_4, y2_5, y2_6, z2_0, z2_1, z2_2, z2_3, z2_4, z2_5, z2_6, fy2_0, fy2_1, fy2_2, fy2_3, fy2_4, fy2_5, fy2_6, fz2_0, fz2_1, fz2_2, fz2_3, fz2_4, fz2_5, fz2_6])
  have y3_3 : w3.cell? ⟨w.heap.size + 1 + 1, 3, none⟩ = some (.int .i64 f3) := (hb.cell (p := ⟨w.heap.size + 1 + 1, 3, none⟩) (by simp; try omega)).trans (by simp [go_sem, x2_0, x2_1, x2_2, x2_3, x2_4, x2_5, x2_6, y2_0, y2_1, y2_2, y2_3, y2_4, y2_5, y2_6, z2_0, z2_1, z2_2, z2_3, z2_4, z2_5, z2_6, fy2_0, fy2_1, fy2_2, fy2_3, fy2_4, fy2_5, fy2_6, fz2_0, fz2_1, fz2_2, fz2_3, fz2_4, fz2_5, fz2_6])
  have y3_4 : w3.cell? ⟨w.heap.size + 1 + 1, 4, none⟩ = some (.slice B4 n4 k4) := (hb.cell (p := ⟨w.heap.size + 1 + 1, 4, none⟩) (by simp; try omega)).trans (by simp [go_sem, x2_0, x2_1, x2_2, x2_3, x2_4, x2_5, x2_6, y2_0, y2_1, y2_2, y2_3, y2_4, y2_5, y2_6, z2_0, z2_1, z2_2, z2_3, z2_4, z2_5, z2_6, fy2_0, fy2_1, fy2_2, fy2_3, fy2_4, fy2_5, fy2_6, fz2_0, fz2_1, fz2_2, fz2_3, fz2_4, fz2_5, fz2_6])
  have y3_5 : w3.cell? ⟨w.heap.size + 1 + 1, 5, none⟩ = some (.int .i64 f5) := (hb.cell (p := ⟨w.heap.size + 1 + 1, 5, none⟩) (by simp; try omega)).trans (by simp [go_sem, x2_0, x2_1, x2_2, x2_3, x2_4, x2_5, x2_6, y2_0, y2_1, y2_2, y2_3, y2_4, y2_5, y2_6, z2_0, z2_1, z2_2, z2_3, z2_4, z2_5, z2_6, fy2_0, fy2_1, fy2_2, fy2_3, fy2_4, fy2_5, fy2_6, fz2_0, fz2_1, fz2_2, fz2_3, fz2_4, fz2_5, fz2_6])
  have y3_6 : w3.cell? ⟨w.heap.size + 1 + 1, 6, none⟩ = some (.slice none 0 0) := (hb.cell (p := ⟨w.heap.size + 1 + 1, 6, none⟩) (by simp; try omega)).trans (by simp [go_sem, x2_0, x2_1, x2_2, x2_3, x2_4, x2_5, x2_6, y2_0, y2_1, y2_2, y2_3, y2_4, y2_5, y2_6, z2_0, z2_1, z2_2, z2_3, z2_4, z2_5, z2_6, fy2_0, fy2_1, fy2_2, fy2_3, fy2_4, fy2_5, fy2_6, fz2_0, fz2_1, fz2_2, fz2_3, fz2_4, fz2_5, fz2_6])
  have z3_0 : w3.cell? ⟨w.heap.size + 1, 0, none⟩ = some (.int .i64 0) := (hb.cell (p := ⟨w.heap.size + 1, 0, none⟩) (by simp; try omega)).trans (by simp [go_sem, z2_0])
  have z3_1 : w3.cell? ⟨w.heap.size + 1, 1, none⟩ = some (.bool false) := (hb.cell (p := ⟨w.heap.size + 1, 1, none⟩) (by simp; try omega)).trans (by simp [go_sem, z2_1])
  have z3_2 : w3.cell? ⟨w.heap.size + 1, 2, none⟩ = some (.slice none 0 0) := (hb.cell (p := ⟨w.heap.size + 1, 2, none⟩) (by simp; try omega)).trans (by simp [go_sem, z2_2])
  have z3_3 : w3.cell? ⟨w.heap.size + 1, 3, none⟩ = some (.int .i64 0) := (hb.cell (p := ⟨w.heap.size + 1, 3, none⟩) (by simp; try omega)).trans (by simp [go_sem, z2_3])
  have z3_4 : w3.cell? ⟨w.heap.size + 1, 4, none⟩ = some (.slice none 0 0) := (hb.cell (p := ⟨w.heap.size + 1, 4, none⟩) (by simp; try omega)).trans (by simp [go_sem, z2_4])
  have z3_5 : w3.cell? ⟨w.heap.size + 1, 5, none⟩ = some (.int .i64 0) := (hb.cell (p := ⟨w.heap.size + 1, 5, none⟩) (by simp; try omega)).trans (by simp [go_sem, z2_5])
  have z3_6 : w3.cell? ⟨w.heap.size + 1, 6, none⟩ = some (.slice none 0 0) := (hb.cell (p := ⟨w.heap.size + 1, 6, none⟩) (by simp; try omega)).trans (by simp [go_sem, z2_6])
  have x3_0 : w3.cell? ⟨w.heap.size, 0, none⟩ = some (.int .i64 f0) := (hb.cell (p := ⟨w.heap.size, 0, none⟩) (by simp; try omega)).trans (by simp [go_sem, x2_0])
  have x3_1 : w3.cell? ⟨w.heap.size, 1, none⟩ = some (.bool f1) := (hb.cell (p := ⟨w.heap.size, 1, none⟩) (by simp; try omega)).trans (by simp [go_sem, x2_1])
  have x3_2 : w3.cell? ⟨w.heap.size, 2, none⟩ = some (.slice A2 n2 c2) := (hb.cell (p := ⟨w.heap.size, 2, none⟩) (by simp; try omega)).trans (by simp [go_sem, x2_2])
  have x3_3 : w3.cell? ⟨w.heap.size, 3, none⟩ = some (.int .i64 f3) := (hb.cell (p := ⟨w.heap.size, 3, none⟩) (by simp; try omega)).trans (by simp [go_sem, x2_3])
  have x3_4 : w3.cell? ⟨w.heap.size, 4, none⟩ = some (.slice A4 n4 c4) := (hb.cell (p := ⟨w.heap.size, 4, none⟩) (by simp; try omega)).trans (by simp [go_sem, x2_4])
  have x3_5 : w3.cell? ⟨w.heap.size, 5, none⟩ = some (.int .i64 f5) := (hb.cell (p := ⟨w.heap.size, 5, none⟩) (by simp; try omega)).trans (by simp [go_sem, x2_5])
  have x3_6 : w3.cell? ⟨w.heap.size, 6, none⟩ = some (.slice A6 n6 c6) := (hb.cell (p := ⟨w.heap.size, 6, none⟩) (by simp; try omega)).trans (by simp [go_sem, x2_6])
  have fy3_0 : w3.frozen? ⟨w.heap.size + 1 + 1, 0, none⟩ = false := (hb.frozen (p := ⟨w.heap.size + 1 + 1, 0, none⟩) (by simp; try omega)).trans (by simp [go_sem, fy2_0])
  have fy3_1 : w3.frozen? ⟨w.heap.size + 1 + 1, 1, none⟩ = false := (hb.frozen (p := ⟨w.heap.size + 1 + 1, 1, none⟩) (by simp; try omega)).trans (by simp [go_sem, fy2_1])
  have fy3_2 : w3.frozen? ⟨w.heap.size + 1 + 1, 2, none⟩ = false := (hb.frozen (p := ⟨w.heap.size + 1 + 1, 2, none⟩) (by simp; try omega)).trans (by simp [go_sem, fy2_2])
  have fy3_3 : w3.frozen? ⟨w.heap.size + 1 + 1, 3, none⟩ = false := (hb.frozen (p := ⟨w.heap.size + 1 + 1, 3, none⟩) (by simp; try omega)).trans (by simp [go_sem, fy2_3])
  have fy3_4 : w3.frozen? ⟨w.heap.size + 1 + 1, 4, none⟩ = false := (hb.frozen (p := ⟨w.heap.size + 1 + 1, 4, none⟩) (by simp; try omega)).trans (by simp [go_sem, fy2_4])
  have fy3_5 : w3.frozen? ⟨w.heap.size + 1 + 1, 5, none⟩ = false := (hb.frozen (p := ⟨w.heap.size + 1 + 1, 5, none⟩) (by simp; try omega)).trans (by simp [go_sem, fy2_5])
  have fy3_6 : w3.frozen? ⟨w.heap.size + 1 + 1, 6, none⟩ = false := (hb.frozen (p := ⟨w.heap.size + 1 + 1, 6, none⟩) (by simp; try omega)).trans (by simp [go_sem, fy2_6])
  have fz3_0 : w3.frozen? ⟨w.heap.size + 1, 0, none⟩ = false := (hb.frozen (p := ⟨w.heap.size + 1, 0, none⟩) (by simp; try omega)).trans (by simp [go_sem, fz2_0])
  have fz3_1 : w3.frozen? ⟨w.heap.size + 1, 1, none⟩ = false := (hb.frozen (p := ⟨w.heap.size + 1, 1, none⟩) (by simp; try omega)).trans (by simp [go_sem, fz2_1])
  have fz3_2 : w3.frozen? ⟨w.heap.size + 1, 2, none⟩ = false := (hb.frozen (p := ⟨w.heap.size + 1, 2, none⟩) (by simp; try omega)).trans (by simp [go_sem, fz2_2])
  have fz3_3 : w3.frozen? ⟨w.heap.size + 1, 3, none⟩ = false := (hb.frozen (p := ⟨w.heap.size + 1, 3, none⟩) (by simp; try omega)).trans (by simp [go_sem, fz2_3])
  have fz3_4 : w3.frozen? ⟨w.heap.size + 1, 4, none⟩ = false := (hb.frozen (p := ⟨w.heap.size + 1, 4, none⟩) (by simp; try omega)).trans (by simp [go_sem, fz2_4])
  have fz3_5 : w3.frozen? ⟨w.heap.size + 1, 5, none⟩ = false := (hb.frozen (p := ⟨w.heap.size + 1, 5, none⟩) (by simp; try omega)).trans (by simp [go_sem, fz2_5])
  have fz3_6 : w3.frozen? ⟨w.heap.size + 1, 6, none⟩ = false := (hb.frozen (p := ⟨w.heap.size + 1, 6, none⟩) (by simp; try omega)).trans (by simp [go_sem, fz2_6])
  clear x2_0 x2_1 x2_2 x2_3 x2_4 x2_5 x2_6 y2_0 y2_1 y2_2 y2_3 y2_4 y2_5 y2_6 z2_0 z2_1 z2_2 z2_3 z2_4 z2_5 z2_6 fy2_0 fy2_1 fy2_2 fy2_3 fy2_4 fy2_5 fy2_6 fz2_0 fz2_1 fz2_2 fz2_3 fz2_4 fz2_5 fz2_6
  have HB' : Hid (Below w.heap.size w w3) := Lib.hid (by
    refine Below.trans ?_ (hb.mono ?_)
    · have hbw := HB.out
      go_grown
    · simp; try omega)
  clear HB
  have HB := HB'
  clear HB'
  have hs3 := hb.size
  simp at hs3
  replace HO2 := Lib.hid ((HO2.out.same (fun b hb1 _ => by
    have hb2 : (w.heap.size + 1 + 1 + 1) ≤ b ∧ b < w1.heap.size := hb1
    have n1 : b ≠ w.heap.size + 1 := by omega
    have n2 : b ≠ w.heap.size + 1 + 1 := by omega
    repeat (first | rw [far_block n1] | rw [far_block n2]))).below hb)
  replace HO4 := Lib.hid ((HO4.out.same (fun b hb1 _ => by
    have hb2 : w1.heap.size ≤ b ∧ b < w2.heap.size := hb1
    have n1 : b ≠ w.heap.size + 1 := by omega
    have n2 : b ≠ w.heap.size + 1 + 1 := by omega
    repeat (first | rw [far_block n1] | rw [far_block n2]))).below hb)
  have HO6 : Hid (Owns w3 (.l L6) [.slice B6 n6 k6] (rng w2.heap.size w3.heap.size)) := Lib.hid (hO.mono (fun b hb1 => ⟨by have h2 := hb1.1; simp at h2; omega, hb1.2⟩))
  clear hO
  clear hb
  go_wp2_with (
    with_reducible refine bodyPost_ret (v := .agg #[.int .i64 f0, .bool f1, .slice B2 n2 k2, .int .i64 f3, .slice B4 n4 k4, .int .i64 f5, .slice B6 n6 k6]) ?hres rfl ?hpost
    case hres => exact results_box rfl _ _ (w.heap.size + 1) [.int .i64 f0, .bool f1, .slice B2 n2 k2, .int .i64 f3, .slice B4 n4 k4, .int .i64 f5, .slice B6 n6 k6] _ rfl (((((((((Box.of_cells (b := w.heap.size + 1) (cs := [.int .i64 0, .bool false, .slice none 0 0, .int .i64 0, .slice none 0 0, .int .i64 0, .slice none 0 0]) (by omega) ⟨z3_0, z3_1, z3_2, z3_3, z3_4, z3_5, z3_6, trivial⟩).far (by omega) _).put 0 _).put 1 _).put 2 _).put 3 _).put 4 _).put 5 _).put 6 _) Try.underlying97 rfl (by kernel_rfl)
    case hpost =>
      have lb1 : w.heap.size ≤ w.heap.size + 1 := by omega
      have lb2 : w.heap.size ≤ w.heap.size + 1 + 1 := by omega
      suffices h9 : ∀ w' : World, Touch (fun b => b = w.heap.size + 1 ∨ b = w.heap.size + 1 + 1) w3 w' → Below w.heap.size w w' → GivesLink f0 f1 L2 n2 f3 L4 n4 f5 L6 n6 w (.returned (.agg #[.int .i64 f0, .bool f1, .slice B2 n2 k2, .int .i64 f3, .slice B4 n4 k4, .int .i64 f5, .slice B6 n6 k6])) w' from h9 _ (((((((((Touch.refl (fun b => b = w.heap.size + 1 ∨ b = w.heap.size + 1 + 1) w3).setCell (Or.inr rfl) _).setCell (Or.inl rfl) _).setCell (Or.inl rfl) _).setCell (Or.inl rfl) _).setCell (Or.inl rfl) _).setCell (Or.inl rfl) _).setCell (Or.inl rfl) _).setCell (Or.inl rfl) _) ((((((((HB.out.setCell lb2 _).setCell lb1 _).setCell lb1 _).setCell lb1 _).setCell lb1 _).setCell lb1 _).setCell lb1 _).setCell lb1 _)
      intro w' hT9 hB9
      refine ⟨B2, k2, B4, k4, B6, k6, w1.heap.size, w2.heap.size, rfl, ?_, ?_, ?_, ?_, ?_, ?_, hB9⟩
      · exact (HO2.out.touch hT9 (fun b hb1 hS => by
          have h2 : (w.heap.size + 1 + 1 + 1) ≤ b := hb1.1
          rcases hS with h | h <;> omega)).mono (fun b hb1 => ⟨by have h2 : (w.heap.size + 1 + 1 + 1) ≤ b := hb1.1; omega, hb1.2⟩)
      · exact (HO4.out.touch hT9 (fun b hb1 hS => by
          have h2 : w1.heap.size ≤ b := hb1.1
          rcases hS with h | h <;> omega)).mono (fun b hb1 => ⟨by have h2 : w1.heap.size ≤ b := hb1.1; omega, hb1.2⟩)
      · exact (HO6.out.touch hT9 (fun b hb1 hS => by
          have h2 : w2.heap.size ≤ b := hb1.1
          rcases hS with h | h <;> omega)).mono (fun b hb1 => ⟨by have h2 : w2.heap.size ≤ b := hb1.1; omega, Nat.lt_of_lt_of_le hb1.2 (Nat.le_trans (by omega) hT9.size)⟩)
      · omega
      · omega
      · exact Nat.le_trans (by omega) hT9.size)
end Go.Proofs.Ytmeacgpebpfpbaa
