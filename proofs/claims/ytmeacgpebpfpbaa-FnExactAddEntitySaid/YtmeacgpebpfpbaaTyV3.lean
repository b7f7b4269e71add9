/- Chapter 12's data, by program. -/
import Derived.Test.YtmeacgpebpfpbaaTyM2
import Derived.Test.YtmeacgpebpfpbaaTyV0
import Derived.LoopTactic
import Derived.Lib.Hide
import Derived.Deep.QuietTactic
import Derived.BigQuiet
import Derived.Deep.RegionWith
import Derived.Handy
namespace Go.Proofs.Ytmeacgpebpfpbaa
open Go.RowKit
set_option linter.unusedVariables false
set_option linter.unusedSimpArgs false
theorem ownMessage {w : World} {a0 a1 : Nat} {f0 : Int} {f1 : Int} {f2 : Int} {f3 : Int} {f4 : ByteArray} {L5 : List Dat} {B5 : Option Addr} {n5 k5 : Nat} {f6_0 : Int} {f6_1 : Int} {f7 : Int} {f8_0 : Int} {f8_1 : Int} {f8_2 : Int} (hO5 : Owns w (.l L5) [.slice B5 n5 k5] (rng a0 a1)) (ha0 : a0 ≤ a1) : Owns w (.r [.i f0, .i f1, .i f2, .i f3, .s f4, .l L5, .r [.i f6_0, .i f6_1], .i f7, .r [.i f8_0, .i f8_1, .i f8_2]]) [.int .i64 f0, .int .i64 f1, .int .i64 f2, .int .i64 f3, .string f4, .slice B5 n5 k5, .int .i64 f6_0, .int .i64 f6_1, .int .i64 f7, .int .i64 f8_0, .int .i64 f8_1, .int .i64 f8_2] (rng a0 a1) := by
  rw [Owns]
  exact (OwnsAll.consF (c1 := [.int .i64 f0]) (d := .i f0) rfl (OwnsAll.consF (c1 := [.int .i64 f1]) (d := .i f1) rfl (OwnsAll.consF (c1 := [.int .i64 f2]) (d := .i f2) rfl (OwnsAll.consF (c1 := [.int .i64 f3]) (d := .i f3) rfl (OwnsAll.consF (c1 := [.string f4]) (d := .s f4) rfl (OwnsAll.consI hO5 (OwnsAll.consF (c1 := [.int .i64 f6_0, .int .i64 f6_1]) (d := .r [.i f6_0, .i f6_1]) (OwnsAll.consF (c1 := [.int .i64 f6_0]) (d := .i f6_0) rfl (OwnsAll.consF (c1 := [.int .i64 f6_1]) (d := .i f6_1) rfl (OwnsAll.nil_ _ _))) (OwnsAll.consF (c1 := [.int .i64 f7]) (d := .i f7) rfl (OwnsAll.consF (c1 := [.int .i64 f8_0, .int .i64 f8_1, .int .i64 f8_2]) (d := .r [.i f8_0, .i f8_1, .i f8_2]) (OwnsAll.consF (c1 := [.int .i64 f8_0]) (d := .i f8_0) rfl (OwnsAll.consF (c1 := [.int .i64 f8_1]) (d := .i f8_1) rfl (OwnsAll.consF (c1 := [.int .i64 f8_2]) (d := .i f8_2) rfl (OwnsAll.nil_ _ _)))) (OwnsAll.nil_ _ _)))) ha0 (by omega)))))))
def GivesOutgoing (f0 : Int) (f1_0 : Int) (f1_1 : Int) (f1_2 : Int) (f1_3 : Int) (f1_4 : ByteArray) (L1_5 : List Dat) (n1_5 : Nat) (f1_6_0 : Int) (f1_6_1 : Int) (f1_7 : Int) (f1_8_0 : Int) (f1_8_1 : Int) (f1_8_2 : Int) (w : World) (e : Ending) (w' : World) : Prop := ∃ (B1_5 : Option Addr) (k1_5 : Nat), e = .returned (.agg #[.int .i64 f0, .int .i64 f1_0, .int .i64 f1_1, .int .i64 f1_2, .int .i64 f1_3, .string f1_4, .slice B1_5 n1_5 k1_5, .int .i64 f1_6_0, .int .i64 f1_6_1, .int .i64 f1_7, .int .i64 f1_8_0, .int .i64 f1_8_1, .int .i64 f1_8_2]) ∧ Owns w' (.l L1_5) [.slice B1_5 n1_5 k1_5] (rng w.heap.size w'.heap.size) ∧ Below w.heap.size w w'
set_option maxHeartbeats 4000000 in
theorem toOutgoing (f0 : Int) (f1_0 : Int) (f1_1 : Int) (f1_2 : Int) (f1_3 : Int) (f1_4 : ByteArray) (L1_5 : List Dat) (A1_5 : Option Addr) (n1_5 c1_5 : Nat) (f1_6_0 : Int) (f1_6_1 : Int) (f1_7 : Int) (f1_8_0 : Int) (f1_8_1 : Int) (f1_8_2 : Int) (w : World) (hl1_5 : Lies w (.l L1_5) [.slice A1_5 n1_5 c1_5]) (ht1_5 : ∀ x ∈ L1_5, Has tyWire x) (hq1_5 : (Dat.l L1_5).bulk ≤ 1099511627776) : Calls Try.prog 152 #[.agg #[.int .i64 f0, .int .i64 f1_0, .int .i64 f1_1, .int .i64 f1_2, .int .i64 f1_3, .string f1_4, .slice A1_5 n1_5 c1_5, .int .i64 f1_6_0, .int .i64 f1_6_1, .int .i64 f1_7, .int .i64 f1_8_0, .int .i64 f1_8_1, .int .i64 f1_8_2]] w (GivesOutgoing f0 f1_0 f1_1 f1_2 f1_3 f1_4 L1_5 n1_5 f1_6_0 f1_6_1 f1_7 f1_8_0 f1_8_1 f1_8_2 w) := by
  have HL1_5 := Lib.hid hl1_5
  have HT1_5 := Lib.hid ht1_5
  clear hl1_5 ht1_5
  go_enter Try.func152, Try.ntmps152
  go_wp2_with fail
  refine (toMessage f1_0 f1_1 f1_2 f1_3 f1_4 L1_5 A1_5 n1_5 c1_5 f1_6_0 f1_6_1 f1_7 f1_8_0 f1_8_1 f1_8_2 _ (HL1_5.out.below (by go_grown)) HT1_5.out hq1_5).mono ?_
  rintro e w1 ⟨B1_5, k1_5, rfl, hO, hb⟩
  have y1_0 : w1.cell? ⟨w.heap.size + 1 + 1, 0, none⟩ = some (.int .i64 f0) := (hb.cell (p := ⟨w.heap.size + 1 + 1, 0, none⟩) (by simp; try omega)).trans (by simp [go_sem])
  have y1_1 : w1.cell? ⟨w.heap.size + 1 + 1, 1, none⟩ = some (.int .i64 0) := (hb.cell (p := ⟨w.heap.size + 1 + 1, 1, none⟩) (by simp; try omega)).trans (by simp [go_sem])
  have y1_2 : w1.cell? ⟨w.heap.size + 1 + 1, 2, none⟩ = some (.int .i64 0) := (hb.cell (p := ⟨w.heap.size + 1 + 1, 2, none⟩) (by simp; try omega)).trans (by simp [go_sem])
  have y1_3 : w1.cell? ⟨w.heap.size + 1 + 1, 3, none⟩ = some (.int .i64 0) := (hb.cell (p := ⟨w.heap.size + 1 + 1, 3, none⟩) (by simp; try omega)).trans (by simp [go_sem])
  have y1_4 : w1.cell? ⟨w.heap.size + 1 + 1, 4, none⟩ = some (.int .i64 0) := (hb.cell (p := ⟨w.heap.size + 1 + 1, 4, none⟩) (by simp; try omega)).trans (by simp [go_sem])
  have y1_5 : w1.cell? ⟨w.heap.size + 1 + 1, 5, none⟩ = some (.string ⟨#[]⟩) := (hb.cell (p := ⟨w.heap.size + 1 + 1, 5, none⟩) (by simp; try omega)).trans (by simp [go_sem])
  have y1_6 : w1.cell? ⟨w.heap.size + 1 + 1, 6, none⟩ = some (.slice none 0 0) := (hb.cell (p := ⟨w.heap.size + 1 + 1, 6, none⟩) (by simp; try omega)).trans (by simp [go_sem])
  have y1_7 : w1.cell? ⟨w.heap.size + 1 + 1, 7, none⟩ = some (.int .i64 0) := (hb.cell (p := ⟨w.heap.size + 1 + 1, 7, none⟩) (by simp; try omega)).trans (by simp [go_sem])
  have y1_8 : w1.cell? ⟨w.heap.size + 1 + 1, 8, none⟩ = some (.int .i64 0) := (hb.cell (p := ⟨w.heap.size + 1 + 1, 8, none⟩) (by simp; try omega)).trans (by simp [go_sem])
  have y1_9 : w1.cell? ⟨w.heap.size + 1 + 1, 9, none⟩ = some (.int .i64 0) := (hb.cell (p := ⟨w.heap.size + 1 + 1, 9, none⟩) (by simp; try omega)).trans (by simp [go_sem])
  have y1_10 : w1.cell? ⟨w.heap.size + 1 + 1, 10, none⟩ = some (.int .i64 0) := (hb.cell (p := ⟨w.heap.size + 1 + 1, 10, none⟩) (by simp; try omega)).trans (by simp [go_sem])
  have y1_11 : w1.cell? ⟨w.heap.size + 1 + 1, 11, none⟩ = some (.int .i64 0) := (hb.cell (p := ⟨w.heap.size + 1 + 1, 11, none⟩) (by simp; try omega)).trans (by simp [go_sem])
  have y1_12 : w1.cell? ⟨w.heap.size + 1 + 1, 12, none⟩ = some (.int .i64 0) := (hb.cell (p := ⟨w.heap.size + 1 + 1, 12, none⟩) (by simp; try omega)).trans (by simp [go_sem])
  have z1_0 : w1.cell? ⟨w.heap.size + 1, 0, none⟩ = some (.int .i64 0) := (hb.cell (p := ⟨w.heap.size + 1, 0, none⟩) (by simp; try omega)).trans (by simp [go_sem])
  have z1_1 : w1.cell? ⟨w.heap.size + 1, 1, none⟩ = some (.int .i64 0) := (hb.cell (p := ⟨w.heap.size + 1, 1, none⟩) (by simp; try omega)).trans (by simp [go_sem])
  have z1_2 : w1.cell? ⟨w.heap.size + 1, 2, none⟩ = some (.int .i64 0) := (hb.cell (p := ⟨w.heap.size + 1, 2, none⟩) (by simp; try omega)).trans (by simp [go_sem])
  have z1_3 : w1.cell? ⟨w.heap.size + 1, 3, none⟩ = some (.int .i64 0) := (hb.cell (p := ⟨w.heap.size + 1, 3, none⟩) (by simp; try omega)).trans (by simp [go_sem])
  have z1_4 : w1.cell? ⟨w.heap.size + 1, 4, none⟩ = some (.int .i64 0) := (hb.cell (p := ⟨w.heap.size + 1, 4, none⟩) (by simp; try omega)).trans (by simp [go_sem])
  have z1_5 : w1.cell? ⟨w.heap.size + 1, 5, none⟩ = some (.string ⟨#[]⟩) := (hb.cell (p := ⟨w.heap.size + 1, 5, none⟩) (by simp; try omega)).trans (by simp [go_sem])
  have z1_6 : w1.cell? ⟨w.heap.size + 1, 6, none⟩ = some (.slice none 0 0) := (hb.cell (p := ⟨w.heap.size + 1, 6, none⟩) (by simp; try omega)).trans (by simp [go_sem])
  have z1_7 : w1.cell? ⟨w.heap.size + 1, 7, none⟩ = some (.int .i64 0) := (hb.cell (p := ⟨w.heap.size + 1, 7, none⟩) (by simp; try omega)).trans (by simp [go_sem])
  have z1_8 : w1.cell? ⟨w.heap.size + 1, 8, none⟩ = some (.int .i64 0) := (hb.cell (p := ⟨w.heap.size + 1, 8, none⟩) (by simp; try omega)).trans (by simp [go_sem])
  have z1_9 : w1.cell? ⟨w.heap.size + 1, 9, none⟩ = some (.int .i64 0) := (hb.cell (p := ⟨w.heap.size + 1, 9, none⟩) (by simp; try omega)).trans (by simp [go_sem])
  have z1_10 : w1.cell? ⟨w.heap.size + 1, 10, none⟩ = some (.int .i64 0) := (hb.cell (p := ⟨w.heap.size + 1, 10, none⟩) (by simp; try omega)).trans (by simp [go_sem])
  have z1_11 : w1.cell? ⟨w.heap.size + 1, 11, none⟩ = some (.int .i64 0) := (hb.cell (p := ⟨w.heap.size + 1, 11, none⟩) (by simp; try omega)).trans (by simp [go_sem])
  have z1_12 : w1.cell? ⟨w.heap.size + 1, 12, none⟩ = some (.int .i64 0) := (hb.cell (p := ⟨w.heap.size + 1, 12, none⟩) (by simp; try omega)).trans (by simp [go_sem])
  have x1_0 : w1.cell? ⟨w.heap.size, 0, none⟩ = some (.int .i64 f0) := (hb.cell (p := ⟨w.heap.size, 0, none⟩) (by simp; try omega)).trans (by simp [go_sem])
  have x1_1 : w1.cell? ⟨w.heap.size, 1, none⟩ = some (.int .i64 f1_0) := (hb.cell (p := ⟨w.heap.size, 1, none⟩) (by simp; try omega)).trans (by simp [go_sem])
  have x1_2 : w1.cell? ⟨w.heap.size, 2, none⟩ = some (.int .i64 f1_1) := (hb.cell (p := ⟨w.heap.size, 2, none⟩) (by simp; try omega)).trans (by simp [go_sem])
  have x1_3 : w1.cell? ⟨w.heap.size, 3, none⟩ = some (.int .i64 f1_2) := (hb.cell (p := ⟨w.heap.size, 3, none⟩) (by simp; try omega)).trans (by simp [go_sem])
  have x1_4 : w1.cell? ⟨w.heap.size, 4, none⟩ = some (.int .i64 f1_3) := (hb.cell (p := ⟨w.heap.size, 4, none⟩) (by simp; try omega)).trans (by simp [go_sem])
  have x1_5 : w1.cell? ⟨w.heap.size, 5, none⟩ = some (.string f1_4) := (hb.cell (p := ⟨w.heap.size, 5, none⟩) (by simp; try omega)).trans (by simp [go_sem])
  have x1_6 : w1.cell? ⟨w.heap.size, 6, none⟩ = some (.slice A1_5 n1_5 c1_5) := (hb.cell (p := ⟨w.heap.size, 6, none⟩) (by simp; try omega)).trans (by simp [go_sem])
  have x1_7 : w1.cell? ⟨w.heap.size, 7, none⟩ = some (.int .i64 f1_6_0) := (hb.cell (p := ⟨w.heap.size, 7, none⟩) (by simp; try omega)).trans (by simp [go_sem])
  have x1_8 : w1.cell? ⟨w.heap.size, 8, none⟩ = some (.int .i64 f1_6_1) := (hb.cell (p := ⟨w.heap.size, 8, none⟩) (by simp; try omega)).trans (by simp [go_sem])
  have x1_9 : w1.cell? ⟨w.heap.size, 9, none⟩ = some (.int .i64 f1_7) := (hb.cell (p := ⟨w.heap.size, 9, none⟩) (by simp; try omega)).trans (by simp [go_sem])
  have x1_10 : w1.cell? ⟨w.heap.size, 10, none⟩ = some (.int .i64 f1_8_0) := (hb.cell (p := ⟨w.heap.size, 10, none⟩) (by simp; try omega)).trans (by simp [go_sem])
  have x1_11 : w1.cell? ⟨w.heap.size, 11, none⟩ = some (.int .i64 f1_8_1) := (hb.cell (p := ⟨w.heap.size, 11, none⟩) (by simp; try omega)).trans (by simp [go_sem])
  have x1_12 : w1.cell? ⟨w.heap.size, 12, none⟩ = some (.int .i64 f1_8_2) := (hb.cell (p := ⟨w.heap.size, 12, none⟩) (by simp; try omega)).trans (by simp [go_sem])
  have fy1_0 : w1.frozen? ⟨w.heap.size + 1 + 1, 0, none⟩ = false := (hb.frozen (p := ⟨w.heap.size + 1 + 1, 0, none⟩) (by simp; try omega)).trans (by simp [go_sem])
  have fy1_1 : w1.frozen? ⟨w.heap.size + 1 + 1, 1, none⟩ = false := (hb.frozen (p := ⟨w.heap.size + 1 + 1, 1, none⟩) (by simp; try omega)).trans (by simp [go_sem])
  have fy1_2 : w1.frozen? ⟨w.heap.size + 1 + 1, 2, none⟩ = false := (hb.frozen (p := ⟨w.heap.size + 1 + 1, 2, none⟩) (by simp; try omega)).trans (by simp [go_sem])
  have fy1_3 : w1.frozen? ⟨w.heap.size + 1 + 1, 3, none⟩ = false := (hb.frozen (p := ⟨w.heap.size + 1 + 1, 3, none⟩) (by simp; try omega)).trans (by simp [go_sem])
  have fy1_4 : w1.frozen? ⟨w.heap.size + 1 + 1, 4, none⟩ = false := (hb.frozen (p := ⟨w.heap.size + 1 + 1, 4, none⟩) (by simp; try omega)).trans (by simp [go_sem])
  have fy1_5 : w1.frozen? ⟨w.heap.size + 1 + 1, 5, none⟩ = false := (hb.frozen (p := ⟨w.heap.size + 1 + 1, 5, none⟩) (by simp; try omega)).trans (by simp [go_sem])
  have fy1_6 : w1.frozen? ⟨w.heap.size + 1 + 1, 6, none⟩ = false := (hb.frozen (p := ⟨w.heap.size + 1 + 1, 6, none⟩) (by simp; try omega)).trans (by simp [go_sem])
  have fy1_7 : w1.frozen? ⟨w.heap.size + 1 + 1, 7, none⟩ = false := (hb.frozen (p := ⟨w.heap.size + 1 + 1, 7, none⟩) (by simp; try omega)).trans (by simp [go_sem])
  have fy1_8 : w1.frozen? ⟨w.heap.size + 1 + 1, 8, none⟩ = false := (hb.frozen (p := ⟨w.heap.size + 1 + 1, 8, none⟩) (by simp; try omega)).trans (by simp [go_sem])
  have fy1_9 : w1.frozen? ⟨w.heap.size + 1 + 1, 9, none⟩ = false := (hb.frozen (p := ⟨w.heap.size + 1 + 1, 9, none⟩) (by simp; try omega)).trans (by simp [go_sem])
  have fy1_10 : w1.frozen? ⟨w.heap.size + 1 + 1, 10, none⟩ = false := (hb.frozen (p := ⟨w.heap.size + 1 + 1, 10, none⟩) (by simp; try omega)).trans (by simp [go_sem])
  have fy1_11 : w1.frozen? ⟨w.heap.size + 1 + 1, 11, none⟩ = false := (hb.frozen (p := ⟨w.heap.size + 1 + 1, 11, none⟩) (by simp; try omega)).trans (by simp [go_sem])
  have fy1_12 : w1.frozen? ⟨w.heap.size + 1 + 1, 12, none⟩ = false := (hb.frozen (p := ⟨w.heap.size + 1 + 1, 12, none⟩) (by simp; try omega)).trans (by simp [go_sem])
  have fz1_0 : w1.frozen? ⟨w.heap.size + 1, 0, none⟩ = false := (hb.frozen (p := ⟨w.heap.size + 1, 0, none⟩) (by simp; try omega)).trans (by simp [go_sem])
  have fz1_1 : w1.frozen? ⟨w.heap.size + 1, 1, none⟩ = false := (hb.frozen (p := ⟨w.heap.size + 1, 1, none⟩) (by simp; try omega)).trans (by simp [go_sem])
  have fz1_2 : w1.frozen? ⟨w.heap.size + 1, 2, none⟩ = false := (hb.frozen (p := ⟨w.heap.size + 1, 2, none⟩) (by simp; try omega)).trans (by simp [go_sem])
  have fz1_3 : w1.frozen? ⟨w.heap.size + 1, 3, none⟩ = false := (hb.frozen (p := ⟨w.heap.size + 1, 3, none⟩) (by simp; try omega)).trans (by simp [go_sem])
  have fz1_4 : w1.frozen? ⟨w.heap.size + 1, 4, none⟩ = false := (hb.frozen (p := ⟨w.heap.size + 1, 4, none⟩) (by simp; try omega)).trans (by simp [go_sem])
  have fz1_5 : w1.frozen? ⟨w.heap.size + 1, 5, none⟩ = false := (hb.frozen (p := ⟨w.heap.size + 1, 5, none⟩) (by simp; try omega)).trans (by simp [go_sem])
  have fz1_6 : w1.frozen? ⟨w.heap.size + 1, 6, none⟩ = false := (hb.frozen (p := ⟨w.heap.size + 1, 6, none⟩) (by simp; try omega)).trans (by simp [go_sem])
  have fz1_7 : w1.frozen? ⟨w.heap.size + 1, 7, none⟩ = false := (hb.frozen (p := ⟨w.heap.size + 1, 7, none⟩) (by simp; try omega)).trans (by simp [go_sem])
  have fz1_8 : w1.frozen? ⟨w.heap.size + 1, 8, none⟩ = false := (hb.frozen (p := ⟨w.heap.size + 1, 8, none⟩) (by simp; try omega)).trans (by simp [go_sem])
  have fz1_9 : w1.frozen? ⟨w.heap.size + 1, 9, none⟩ = false := (hb.frozen (p := ⟨w.heap.size + 1, 9, none⟩) (by simp; try omega)).trans (by simp [go_sem])
  have fz1_10 : w1.frozen? ⟨w.heap.size + 1, 10, none⟩ = false := (hb.frozen (p := ⟨w.heap.size + 1, 10, none⟩) (by simp; try omega)).trans (by simp [go_sem])
  have fz1_11 : w1.frozen? ⟨w.heap.size + 1, 11, none⟩ = false := (hb.frozen (p := ⟨w.heap.size + 1, 11, none⟩) (by simp; try omega)).trans (by simp [go_sem])
  have fz1_12 : w1.frozen? ⟨w.heap.size + 1, 12, none⟩ = false := (hb.frozen (p := ⟨w.heap.size + 1, 12, none⟩) (by simp; try omega)).trans (by simp [go_sem])
  have HB' : Hid (Below w.heap.size w w1) := Lib.hid (by
    refine Below.trans ?_ (hb.mono ?_)
    · skip
      go_grown
    · simp; try omega)
  have HB := HB'
  clear HB'
  have hs1 := hb.size
  simp at hs1
  have HO1_5 : Hid (Owns w1 (.l L1_5) [.slice B1_5 n1_5 k1_5] (rng (w.heap.size + 1 + 1 + 1) w1.heap.size)) := Lib.hid (hO.mono (fun b hb1 => ⟨by have h2 := hb1.1; simp at h2; omega, hb1.2⟩))
  clear hO
  clear hb
  go_wp2_with (
    with_reducible refine bodyPost_ret (v := .agg #[.int .i64 f0, .int .i64 f1_0, .int .i64 f1_1, .int .i64 f1_2, .int .i64 f1_3, .string f1_4, .slice B1_5 n1_5 k1_5, .int .i64 f1_6_0, .int .i64 f1_6_1, .int .i64 f1_7, .int .i64 f1_8_0, .int .i64 f1_8_1, .int .i64 f1_8_2]) ?hres rfl ?hpost
    case hres => exact results_box rfl _ _ (w.heap.size + 1) [.int .i64 f0, .int .i64 f1_0, .int .i64 f1_1, .int .i64 f1_2, .int .i64 f1_3, .string f1_4, .slice B1_5 n1_5 k1_5, .int .i64 f1_6_0, .int .i64 f1_6_1, .int .i64 f1_7, .int .i64 f1_8_0, .int .i64 f1_8_1, .int .i64 f1_8_2] _ rfl ((((((((((((((((((((((((((Box.of_cells (b := w.heap.size + 1) (cs := [.int .i64 0, .int .i64 0, .int .i64 0, .int .i64 0, .int .i64 0, .string ⟨#[]⟩, .slice none 0 0, .int .i64 0, .int .i64 0, .int .i64 0, .int .i64 0, .int .i64 0, .int .i64 0]) (by omega) ⟨z1_0, z1_1, z1_2, z1_3, z1_4, z1_5, z1_6, z1_7, z1_8, z1_9, z1_10, z1_11, z1_12, trivial⟩).far (by omega) _).far (by omega) _).far (by omega) _).far (by omega) _).far (by omega) _).far (by omega) _).far (by omega) _).far (by omega) _).far (by omega) _).far (by omega) _).far (by omega) _).far (by omega) _).put 0 _).put 1 _).put 2 _).put 3 _).put 4 _).put 5 _).put 6 _).put 7 _).put 8 _).put 9 _).put 10 _).put 11 _).put 12 _) Try.underlying114 rfl (by kernel_rfl)
    case hpost =>
      have lb1 : w.heap.size ≤ w.heap.size + 1 := by omega
      have lb2 : w.heap.size ≤ w.heap.size + 1 + 1 := by omega
      suffices h9 : ∀ w' : World, Touch (fun b => b = w.heap.size + 1 ∨ b = w.heap.size + 1 + 1) w1 w' → Below w.heap.size w w' → GivesOutgoing f0 f1_0 f1_1 f1_2 f1_3 f1_4 L1_5 n1_5 f1_6_0 f1_6_1 f1_7 f1_8_0 f1_8_1 f1_8_2 w (.returned (.agg #[.int .i64 f0, .int .i64 f1_0, .int .i64 f1_1, .int .i64 f1_2, .int .i64 f1_3, .string f1_4, .slice B1_5 n1_5 k1_5, .int .i64 f1_6_0, .int .i64 f1_6_1, .int .i64 f1_7, .int .i64 f1_8_0, .int .i64 f1_8_1, .int .i64 f1_8_2])) w' from h9 _ ((((((((((((((((((((((((((Touch.refl (fun b => b = w.heap.size + 1 ∨ b = w.heap.size + 1 + 1) w1).setCell (Or.inr rfl) _).setCell (Or.inr rfl) _).setCell (Or.inr rfl) _).setCell (Or.inr rfl) _).setCell (Or.inr rfl) _).setCell (Or.inr rfl) _).setCell (Or.inr rfl) _).setCell (Or.inr rfl) _).setCell (Or.inr rfl) _).setCell (Or.inr rfl) _).setCell (Or.inr rfl) _).setCell (Or.inr rfl) _).setCell (Or.inl rfl) _).setCell (Or.inl rfl) _).setCell (Or.inl rfl) _).setCell (Or.inl rfl) _).setCell (Or.inl rfl) _).setCell (Or.inl rfl) _).setCell (Or.inl rfl) _).setCell (Or.inl rfl) _).setCell (Or.inl rfl) _).setCell (Or.inl rfl) _).setCell (Or.inl rfl) _).setCell (Or.inl rfl) _).setCell (Or.inl rfl) _) (((((((((((((((((((((((((HB.out.setCell lb2 _).setCell lb2 _).setCell lb2 _).setCell lb2 _).setCell lb2 _).setCell lb2 _).setCell lb2 _).setCell lb2 _).setCell lb2 _).setCell lb2 _).setCell lb2 _).setCell lb2 _).setCell lb1 _).setCell lb1 _).setCell lb1 _).setCell lb1 _).setCell lb1 _).setCell lb1 _).setCell lb1 _).setCell lb1 _).setCell lb1 _).setCell lb1 _).setCell lb1 _).setCell lb1 _).setCell lb1 _)
      intro w' hT9 hB9
      refine ⟨B1_5, k1_5, rfl, ?_, hB9⟩
      · exact (HO1_5.out.touch hT9 (fun b hb1 hS => by
          have h2 : (w.heap.size + 1 + 1 + 1) ≤ b := hb1.1
          rcases hS with h | h <;> omega)).mono (fun b hb1 => ⟨by have h2 : (w.heap.size + 1 + 1 + 1) ≤ b := hb1.1; omega, Nat.lt_of_lt_of_le hb1.2 (Nat.le_trans (by omega) hT9.size)⟩))
theorem ownOutgoing {w : World} {a0 a1 : Nat} {f0 : Int} {f1_0 : Int} {f1_1 : Int} {f1_2 : Int} {f1_3 : Int} {f1_4 : ByteArray} {L1_5 : List Dat} {B1_5 : Option Addr} {n1_5 k1_5 : Nat} {f1_6_0 : Int} {f1_6_1 : Int} {f1_7 : Int} {f1_8_0 : Int} {f1_8_1 : Int} {f1_8_2 : Int} (hO1_5 : Owns w (.l L1_5) [.slice B1_5 n1_5 k1_5] (rng a0 a1)) (ha0 : a0 ≤ a1) : Owns w (.r [.i f0, .r [.i f1_0, .i f1_1, .i f1_2, .i f1_3, .s f1_4, .l L1_5, .r [.i f1_6_0, .i f1_6_1], .i f1_7, .r [.i f1_8_0, .i f1_8_1, .i f1_8_2]]]) [.int .i64 f0, .int .i64 f1_0, .int .i64 f1_1, .int .i64 f1_2, .int .i64 f1_3, .string f1_4, .slice B1_5 n1_5 k1_5, .int .i64 f1_6_0, .int .i64 f1_6_1, .int .i64 f1_7, .int .i64 f1_8_0, .int .i64 f1_8_1, .int .i64 f1_8_2] (rng a0 a1) := by
  rw [Owns]
  exact (OwnsAll.consF (c1 := [.int .i64 f0]) (d := .i f0) rfl (OwnsAll.consI (c1 := [.int .i64 f1_0, .int .i64 f1_1, .int .i64 f1_2, .int .i64 f1_3, .string f1_4, .slice B1_5 n1_5 k1_5, .int .i64 f1_6_0, .int .i64 f1_6_1, .int .i64 f1_7, .int .i64 f1_8_0, .int .i64 f1_8_1, .int .i64 f1_8_2]) (d := .r [.i f1_0, .i f1_1, .i f1_2, .i f1_3, .s f1_4, .l L1_5, .r [.i f1_6_0, .i f1_6_1], .i f1_7, .r [.i f1_8_0, .i f1_8_1, .i f1_8_2]]) (ownMessage hO1_5 ha0) (OwnsAll.nil_ _ _) (by omega) (by omega)))
theorem zeroOutgoing (w : World) : Owns w (.r [.i 0, .r [.i 0, .i 0, .i 0, .i 0, .s ⟨#[]⟩, .l [], .r [.i 0, .i 0], .i 0, .r [.i 0, .i 0, .i 0]]]) (#[.int .i64 0, .int .i64 0, .int .i64 0, .int .i64 0, .int .i64 0, .string ⟨#[]⟩, .slice none 0 0, .int .i64 0, .int .i64 0, .int .i64 0, .int .i64 0, .int .i64 0, .int .i64 0] : Array Value).toList (fun _ => False) := by
  rw [Owns]
  exact (OwnsAll.consF (c1 := [.int .i64 0]) (d := .i 0) rfl (OwnsAll.consF (c1 := [.int .i64 0, .int .i64 0, .int .i64 0, .int .i64 0, .string ⟨#[]⟩, .slice none 0 0, .int .i64 0, .int .i64 0, .int .i64 0, .int .i64 0, .int .i64 0, .int .i64 0]) (d := .r [.i 0, .i 0, .i 0, .i 0, .s ⟨#[]⟩, .l [], .r [.i 0, .i 0], .i 0, .r [.i 0, .i 0, .i 0]]) (OwnsAll.consF (c1 := [.int .i64 0]) (d := .i 0) rfl (OwnsAll.consF (c1 := [.int .i64 0]) (d := .i 0) rfl (OwnsAll.consF (c1 := [.int .i64 0]) (d := .i 0) rfl (OwnsAll.consF (c1 := [.int .i64 0]) (d := .i 0) rfl (OwnsAll.consF (c1 := [.string ⟨#[]⟩]) (d := .s ⟨#[]⟩) rfl (OwnsAll.consF (c1 := [.slice none 0 0]) (d := .l []) ⟨none, 0, 0, rfl, rfl, Or.inl rfl⟩ (OwnsAll.consF (c1 := [.int .i64 0, .int .i64 0]) (d := .r [.i 0, .i 0]) (OwnsAll.consF (c1 := [.int .i64 0]) (d := .i 0) rfl (OwnsAll.consF (c1 := [.int .i64 0]) (d := .i 0) rfl (OwnsAll.nil_ _ _))) (OwnsAll.consF (c1 := [.int .i64 0]) (d := .i 0) rfl (OwnsAll.consF (c1 := [.int .i64 0, .int .i64 0, .int .i64 0]) (d := .r [.i 0, .i 0, .i 0]) (OwnsAll.consF (c1 := [.int .i64 0]) (d := .i 0) rfl (OwnsAll.consF (c1 := [.int .i64 0]) (d := .i 0) rfl (OwnsAll.consF (c1 := [.int .i64 0]) (d := .i 0) rfl (OwnsAll.nil_ _ _)))) (OwnsAll.nil_ _ _)))))))))) (OwnsAll.nil_ _ _)))
theorem infoOutgoing : (Try.prog.info? 114).map (fun i => (i.zero, i.size, i.bytes)) = some (some (.agg #[.int .i64 0, .int .i64 0, .int .i64 0, .int .i64 0, .int .i64 0, .string ⟨#[]⟩, .slice none 0 0, .int .i64 0, .int .i64 0, .int .i64 0, .int .i64 0, .int .i64 0, .int .i64 0]), 13, 128) := by kernel_rfl
set_option maxRecDepth 100000 in
set_option maxHeartbeats 4000000 in
theorem toOutgoingS (L : List Dat) (A : Option Addr) (n c : Nat) (w : World) (h : Lies w (.l L) [.slice A n c]) (ht : ∀ x ∈ L, Has tyOutgoing x) (hq : (Dat.l L).bulk ≤ 1099511627776) : Calls Try.prog 92 #[.slice A n c] w (FreshD L w) := by
  obtain ⟨i0, hi, hz0, hz1, hz2⟩ := info_parts infoOutgoing
  have H := Lib.hid h
  have HT := Lib.hid ht
  have hn : n ≤ 1099511627776 := by have := h.count; simp only [Dat.bulk] at hq; omega
  clear h ht
  go_enter Try.func92, Try.ntmps92
  go_wp2_with (refine wpList_make_full _ rfl _ _ 27 rfl w.heap.size 114 i0 (.agg #[.int .i64 0, .int .i64 0, .int .i64 0, .int .i64 0, .int .i64 0, .string ⟨#[]⟩, .slice none 0 0, .int .i64 0, .int .i64 0, .int .i64 0, .int .i64 0, .int .i64 0, .int .i64 0]) 13 Try.underlying27 hi hz0 hz1 _ _ (n : Int) (n : Int) n rfl rfl rfl rfl (by rw [hz2]; omega) (by unfold maxLen; omega) (Nat.le_refl _) ?_)
  intro w1 hown hgrow
  have hU : UptoD w 13 L w.heap.size n 0 w1 := UptoD.start (zc := #[.int .i64 0, .int .i64 0, .int .i64 0, .int .i64 0, .int .i64 0, .string ⟨#[]⟩, .slice none 0 0, .int .i64 0, .int .i64 0, .int .i64 0, .int .i64 0, .int .i64 0, .int .i64 0]) (zeroOutgoing) rfl hown (Nat.le_refl _) ((Below.refl w.heap.size w).grown hgrow (Nat.le_refl _) (fun k h => by cases h))
  clear hown hgrow
  go_wp2
  go_loopw [4] (fun iv wr => ∃ i : Nat, i ≤ n ∧ iv = .int .i64 i ∧ UptoD w 13 L w.heap.size n i wr) (fun iv _ => n - (intOf iv).toNat)
  case atStart => exact ⟨0, Nat.zero_le _, rfl, hU⟩
  case round =>
    obtain ⟨i, hin, rfl, hUr⟩ := hrel
    clear hU
    by_cases hlt : i < n
    · have hUr' := Lib.hid hUr
      obtain ⟨ds, B, -, -, -, -, -, hb⟩ := hUr
      obtain ⟨b, off, d, xs, rfl, hbw, hzi, hlie, hlen, hcell⟩ := (H.out.below hb).elem (fun x hx => (HT.out x hx).width) hlt
      obtain ⟨f0, f1_0, f1_1, f1_2, f1_3, f1_4, L1_5, A1_5, n1_5, c1_5, f1_6_0, f1_6_1, f1_7, f1_8_0, f1_8_1, f1_8_2, rfl, rfl, hf1_4, hl1_5, ht1_5, hm1_5⟩ := invOutgoing (HT.out d (List.mem_of_getElem? hzi)) hlie
      have r0 : wr.cell? ⟨b, off + i * 13, none⟩ = some (.int .i64 f0) := hcell 0 _ rfl
      have r1 : wr.cell? ⟨b, off + i * 13 + 1, none⟩ = some (.int .i64 f1_0) := hcell 1 _ rfl
      have r2 : wr.cell? ⟨b, off + i * 13 + 2, none⟩ = some (.int .i64 f1_1) := hcell 2 _ rfl
      have r3 : wr.cell? ⟨b, off + i * 13 + 3, none⟩ = some (.int .i64 f1_2) := hcell 3 _ rfl
      have r4 : wr.cell? ⟨b, off + i * 13 + 4, none⟩ = some (.int .i64 f1_3) := hcell 4 _ rfl
      have r5 : wr.cell? ⟨b, off + i * 13 + 5, none⟩ = some (.string f1_4) := hcell 5 _ rfl
      have r6 : wr.cell? ⟨b, off + i * 13 + 6, none⟩ = some (.slice A1_5 n1_5 c1_5) := hcell 6 _ rfl
      have r7 : wr.cell? ⟨b, off + i * 13 + 7, none⟩ = some (.int .i64 f1_6_0) := hcell 7 _ rfl
      have r8 : wr.cell? ⟨b, off + i * 13 + 8, none⟩ = some (.int .i64 f1_6_1) := hcell 8 _ rfl
      have r9 : wr.cell? ⟨b, off + i * 13 + 9, none⟩ = some (.int .i64 f1_7) := hcell 9 _ rfl
      have r10 : wr.cell? ⟨b, off + i * 13 + 10, none⟩ = some (.int .i64 f1_8_0) := hcell 10 _ rfl
      have r11 : wr.cell? ⟨b, off + i * 13 + 11, none⟩ = some (.int .i64 f1_8_1) := hcell 11 _ rfl
      have r12 : wr.cell? ⟨b, off + i * 13 + 12, none⟩ = some (.int .i64 f1_8_2) := hcell 12 _ rfl
      have hq1_5 : (Dat.l L1_5).bulk ≤ 1099511627776 := by have h1 := bulk_mem (List.mem_of_getElem? hzi); simp only [Dat.bulk, bulkAll] at h1 hq ⊢; omega
      have HZ := Lib.hid hzi
      have HW := Lib.hid ((HT.out _ (List.mem_of_getElem? hzi)).width)
      have HBR := Lib.hid hb
      have HL1_5 := Lib.hid hl1_5
      have HX1_5 := Lib.hid ht1_5
      clear hzi hb hcell hlie hl1_5 ht1_5
      go_wp2_with (
        with_reducible refine (toOutgoing f0 f1_0 f1_1 f1_2 f1_3 f1_4 L1_5 A1_5 n1_5 c1_5 f1_6_0 f1_6_1 f1_7 f1_8_0 f1_8_1 f1_8_2 _ HL1_5.out HX1_5.out hq1_5).mono ?_
        rintro e w2 ⟨B1_5, k1_5, rfl, hO1_5, hb⟩
        have hsl := hUr'.out.slot hlt hb
        obtain ⟨u0, s0⟩ : ∃ u, w2.cell? ⟨w.heap.size, i * 13, none⟩ = some u := hsl.1 0 (by omega)
        have t0 := hsl.2 (i * 13)
        obtain ⟨u1, s1⟩ : ∃ u, w2.cell? ⟨w.heap.size, i * 13 + 1, none⟩ = some u := hsl.1 1 (by omega)
        have t1 := hsl.2 (i * 13 + 1)
        obtain ⟨u2, s2⟩ : ∃ u, w2.cell? ⟨w.heap.size, i * 13 + 2, none⟩ = some u := hsl.1 2 (by omega)
        have t2 := hsl.2 (i * 13 + 2)
        obtain ⟨u3, s3⟩ : ∃ u, w2.cell? ⟨w.heap.size, i * 13 + 3, none⟩ = some u := hsl.1 3 (by omega)
        have t3 := hsl.2 (i * 13 + 3)
        obtain ⟨u4, s4⟩ : ∃ u, w2.cell? ⟨w.heap.size, i * 13 + 4, none⟩ = some u := hsl.1 4 (by omega)
        have t4 := hsl.2 (i * 13 + 4)
        obtain ⟨u5, s5⟩ : ∃ u, w2.cell? ⟨w.heap.size, i * 13 + 5, none⟩ = some u := hsl.1 5 (by omega)
        have t5 := hsl.2 (i * 13 + 5)
        obtain ⟨u6, s6⟩ : ∃ u, w2.cell? ⟨w.heap.size, i * 13 + 6, none⟩ = some u := hsl.1 6 (by omega)
        have t6 := hsl.2 (i * 13 + 6)
        obtain ⟨u7, s7⟩ : ∃ u, w2.cell? ⟨w.heap.size, i * 13 + 7, none⟩ = some u := hsl.1 7 (by omega)
        have t7 := hsl.2 (i * 13 + 7)
        obtain ⟨u8, s8⟩ : ∃ u, w2.cell? ⟨w.heap.size, i * 13 + 8, none⟩ = some u := hsl.1 8 (by omega)
        have t8 := hsl.2 (i * 13 + 8)
        obtain ⟨u9, s9⟩ : ∃ u, w2.cell? ⟨w.heap.size, i * 13 + 9, none⟩ = some u := hsl.1 9 (by omega)
        have t9 := hsl.2 (i * 13 + 9)
        obtain ⟨u10, s10⟩ : ∃ u, w2.cell? ⟨w.heap.size, i * 13 + 10, none⟩ = some u := hsl.1 10 (by omega)
        have t10 := hsl.2 (i * 13 + 10)
        obtain ⟨u11, s11⟩ : ∃ u, w2.cell? ⟨w.heap.size, i * 13 + 11, none⟩ = some u := hsl.1 11 (by omega)
        have t11 := hsl.2 (i * 13 + 11)
        obtain ⟨u12, s12⟩ : ∃ u, w2.cell? ⟨w.heap.size, i * 13 + 12, none⟩ = some u := hsl.1 12 (by omega)
        have t12 := hsl.2 (i * 13 + 12)
        have HN := Lib.hid (UptoD.next hUr'.out hlt HZ.out HW.out (ownOutgoing hO1_5 hb.size) (fun b hb => hb) hb)
        clear hsl hb hO1_5)
      go_roundw
      case rel => exact ⟨i + 1, by omega, by go_num, HN.out⟩
      case measure => simp [intOf]; omega
    · obtain rfl : i = n := by omega
      have hUr' := Lib.hid hUr
      clear hUr
      go_wp2_with fail
      go_ret
      exact hUr'.out.ret H.out.count
end Go.Proofs.Ytmeacgpebpfpbaa
