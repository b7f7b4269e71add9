/- Chapter 12's data, by program. -/
import Derived.Test.YtmeacgpebpfpbaaTyV1
import Derived.Test.YtmeacgpebpfpbaaTyV2
import Derived.Test.YtmeacgpebpfpbaaTyV3
import Derived.LoopTactic
import Derived.Lib.Hide
import Derived.Deep.QuietTactic
import Derived.BigQuiet
import Derived.Deep.RegionWith
import Derived.Handy
namespace Go.Proofs.Ytmeacgpebpfpbaa
open Go.RowKit
set_option linter.unusedVariables false
set_option linter.unusedSimpArgs false
def GivesVat (f0 : Int) (L1 : List Dat) (n1 : Nat) (L2 : List Dat) (n2 : Nat) (L3 : List Dat) (n3 : Nat) (L4 : List Dat) (n4 : Nat) (w : World) (e : Ending) (w' : World) : Prop := ∃ (B1 : Option Addr) (k1 : Nat), ∃ (B2 : Option Addr) (k2 : Nat), ∃ (B3 : Option Addr) (k3 : Nat), ∃ (B4 : Option Addr) (k4 : Nat), ∃ a1 a2 a3 : Nat, e = .returned (.agg #[.int .i64 f0, .slice B1 n1 k1, .slice B2 n2 k2, .slice B3 n3 k3, .slice B4 n4 k4]) ∧ Owns w' (.l L1) [.slice B1 n1 k1] (rng w.heap.size a1) ∧ Owns w' (.l L2) [.slice B2 n2 k2] (rng a1 a2) ∧ Owns w' (.l L3) [.slice B3 n3 k3] (rng a2 a3) ∧ Owns w' (.l L4) [.slice B4 n4 k4] (rng a3 w'.heap.size) ∧ w.heap.size ≤ a1 ∧ a1 ≤ a2 ∧ a2 ≤ a3 ∧ a3 ≤ w'.heap.size ∧ Below w.heap.size w w'
set_option maxHeartbeats 4000000 in
theorem toVat (f0 : Int) (L1 : List Dat) (A1 : Option Addr) (n1 c1 : Nat) (L2 : List Dat) (A2 : Option Addr) (n2 c2 : Nat) (L3 : List Dat) (A3 : Option Addr) (n3 c3 : Nat) (L4 : List Dat) (A4 : Option Addr) (n4 c4 : Nat) (w : World) (hl1 : Lies w (.l L1) [.slice A1 n1 c1]) (ht1 : ∀ x ∈ L1, Has tyEntity x) (hq1 : (Dat.l L1).bulk ≤ 1099511627776) (hl2 : Lies w (.l L2) [.slice A2 n2 c2]) (ht2 : ∀ x ∈ L2, Has tySent x) (hq2 : (Dat.l L2).bulk ≤ 1099511627776) (hl3 : Lies w (.l L3) [.slice A3 n3 c3]) (ht3 : ∀ x ∈ L3, Has tyLink x) (hq3 : (Dat.l L3).bulk ≤ 1099511627776) (hl4 : Lies w (.l L4) [.slice A4 n4 c4]) (ht4 : ∀ x ∈ L4, Has tyOutgoing x) (hq4 : (Dat.l L4).bulk ≤ 1099511627776) : Calls Try.prog 30 #[.agg #[.int .i64 f0, .slice A1 n1 c1, .slice A2 n2 c2, .slice A3 n3 c3, .slice A4 n4 c4]] w (GivesVat f0 L1 n1 L2 n2 L3 n3 L4 n4 w) := by
  have HL1 := Lib.hid hl1
  have HT1 := Lib.hid ht1
  clear hl1 ht1
  have HL2 := Lib.hid hl2
  have HT2 := Lib.hid ht2
  clear hl2 ht2
  have HL3 := Lib.hid hl3
  have HT3 := Lib.hid ht3
  clear hl3 ht3
  have HL4 := Lib.hid hl4
  have HT4 := Lib.hid ht4
  clear hl4 ht4
  go_enter Try.func30, Try.ntmps30
  go_wp2_with fail
  refine (toEntityS L1 A1 n1 c1 _ (HL1.out.below (by go_grown)) HT1.out hq1).mono ?_
  rintro e w1 ⟨B1, m1, k1, rfl, hO, hb⟩
  obtain rfl : n1 = m1 := by rw [← hO.lies.count, ← HL1.out.count]
  have y1_0 : w1.cell? ⟨w.heap.size + 1 + 1, 0, none⟩ = some (.int .i64 f0) := (hb.cell (p := ⟨w.heap.size + 1 + 1, 0, none⟩) (by simp; try omega)).trans (by simp [go_sem])
  have y1_1 : w1.cell? ⟨w.heap.size + 1 + 1, 1, none⟩ = some (.slice none 0 0) := (hb.cell (p := ⟨w.heap.size + 1 + 1, 1, none⟩) (by simp; try omega)).trans (by simp [go_sem])
  have y1_2 : w1.cell? ⟨w.heap.size + 1 + 1, 2, none⟩ = some (.slice none 0 0) := (hb.cell (p := ⟨w.heap.size + 1 + 1, 2, none⟩) (by simp; try omega)).trans (by simp [go_sem])
  have y1_3 : w1.cell? ⟨w.heap.size + 1 + 1, 3, none⟩ = some (.slice none 0 0) := (hb.cell (p := ⟨w.heap.size + 1 + 1, 3, none⟩) (by simp; try omega)).trans (by simp [go_sem])
  have y1_4 : w1.cell? ⟨w.heap.size + 1 + 1, 4, none⟩ = some (.slice none 0 0) := (hb.cell (p := ⟨w.heap.size + 1 + 1, 4, none⟩) (by simp; try omega)).trans (by simp [go_sem])
  have z1_0 : w1.cell? ⟨w.heap.size + 1, 0, none⟩ = some (.int .i64 0) := (hb.cell (p := ⟨w.heap.size + 1, 0, none⟩) (by simp; try omega)).trans (by simp [go_sem])
  have z1_1 : w1.cell? ⟨w.heap.size + 1, 1, none⟩ = some (.slice none 0 0) := (hb.cell (p := ⟨w.heap.size + 1, 1, none⟩) (by simp; try omega)).trans (by simp [go_sem])
  have z1_2 : w1.cell? ⟨w.heap.size + 1, 2, none⟩ = some (.slice none 0 0) := (hb.cell (p := ⟨w.heap.size + 1, 2, none⟩) (by simp; try omega)).trans (by simp [go_sem])
  have z1_3 : w1.cell? ⟨w.heap.size + 1, 3, none⟩ = some (.slice none 0 0) := (hb.cell (p := ⟨w.heap.size + 1, 3, none⟩) (by simp; try omega)).trans (by simp [go_sem])
  have z1_4 : w1.cell? ⟨w.heap.size + 1, 4, none⟩ = some (.slice none 0 0) := (hb.cell (p := ⟨w.heap.size + 1, 4, none⟩) (by simp; try omega)).trans (by simp [go_sem])
  have x1_0 : w1.cell? ⟨w.heap.size, 0, none⟩ = some (.int .i64 f0) := (hb.cell (p := ⟨w.heap.size, 0, none⟩) (by simp; try omega)).trans (by simp [go_sem])
  have x1_1 : w1.cell? ⟨w.heap.size, 1, none⟩ = some (.slice A1 n1 c1) := (hb.cell (p := ⟨w.heap.size, 1, none⟩) (by simp; try omega)).trans (by simp [go_sem])
  have x1_2 : w1.cell? ⟨w.heap.size, 2, none⟩ = some (.slice A2 n2 c2) := (hb.cell (p := ⟨w.heap.size, 2, none⟩) (by simp; try omega)).trans (by simp [go_sem])
  have x1_3 : w1.cell? ⟨w.heap.size, 3, none⟩ = some (.slice A3 n3 c3) := (hb.cell (p := ⟨w.heap.size, 3, none⟩) (by simp; try omega)).trans (by simp [go_sem])
  have x1_4 : w1.cell? ⟨w.heap.size, 4, none⟩ = some (.slice A4 n4 c4) := (hb.cell (p := ⟨w.heap.size, 4, none⟩) (by simp; try omega)).trans (by simp [go_sem])
  have fy1_0 : w1.frozen? ⟨w.heap.size + 1 + 1, 0, none⟩ = false := (hb.frozen (p := ⟨w.heap.size + 1 + 1, 0, none⟩) (by simp; try omega)).trans (by simp [go_sem])
  have fy1_1 : w1.frozen? ⟨w.heap.size + 1 + 1, 1, none⟩ = false := (hb.frozen (p := ⟨w.heap.size + 1 + 1, 1, none⟩) (by simp; try omega)).trans (by simp [go_sem])
  have fy1_2 : w1.frozen? ⟨w.heap.size + 1 + 1, 2, none⟩ = false := (hb.frozen (p := ⟨w.heap.size + 1 + 1, 2, none⟩) (by simp; try omega)).trans (by simp [go_sem])
  have fy1_3 : w1.frozen? ⟨w.heap.size + 1 + 1, 3, none⟩ = false := (hb.frozen (p := ⟨w.heap.size + 1 + 1, 3, none⟩) (by simp; try omega)).trans (by simp [go_sem])
  have fy1_4 : w1.frozen? ⟨w.heap.size + 1 + 1, 4, none⟩ = false := (hb.frozen (p := ⟨w.heap.size + 1 + 1, 4, none⟩) (by simp; try omega)).trans (by simp [go_sem])
  have fz1_0 : w1.frozen? ⟨w.heap.size + 1, 0, none⟩ = false := (hb.frozen (p := ⟨w.heap.size + 1, 0, none⟩) (by simp; try omega)).trans (by simp [go_sem])
  have fz1_1 : w1.frozen? ⟨w.heap.size + 1, 1, none⟩ = false := (hb.frozen (p := ⟨w.heap.size + 1, 1, none⟩) (by simp; try omega)).trans (by simp [go_sem])
  have fz1_2 : w1.frozen? ⟨w.heap.size + 1, 2, none⟩ = false := (hb.frozen (p := ⟨w.heap.size + 1, 2, none⟩) (by simp; try omega)).trans (by simp [go_sem])
  have fz1_3 : w1.frozen? ⟨w.heap.size + 1, 3, none⟩ = false := (hb.frozen (p := ⟨w.heap.size + 1, 3, none⟩) (by simp; try omega)).trans (by simp [go_sem])
  have fz1_4 : w1.frozen? ⟨w.heap.size + 1, 4, none⟩ = false := (hb.frozen (p := ⟨w.heap.size + 1, 4, none⟩) (by simp; try omega)).trans (by simp [go_sem])
  have HB' : Hid (Below w.heap.size w w1) := Lib.hid (by
    refine Below.trans ?_ (hb.mono ?_)
    · skip
      go_grown
    · simp; try omega)
  have HB := HB'
  clear HB'
  have hs1 := hb.size
  simp at hs1
  have HO1 : Hid (Owns w1 (.l L1) [.slice B1 n1 k1] (rng (w.heap.size + 1 + 1 + 1) w1.heap.size)) := Lib.hid (hO.mono (fun b hb1 => ⟨by have h2 := hb1.1; simp at h2; omega, hb1.2⟩))
  clear hO
  clear hb
  go_wp2_with fail
  refine (toSentS L2 A2 n2 c2 _ (HL2.out.below (by have hbw := HB.out; go_grown)) HT2.out hq2).mono ?_
  rintro e w2 ⟨B2, m2, k2, rfl, hO, hb⟩
  obtain rfl : n2 = m2 := by rw [← hO.lies.count, ← HL2.out.count]
  have y2_0 : w2.cell? ⟨w.heap.size + 1 + 1, 0, none⟩ = some (.int .i64 f0) := (hb.cell (p := ⟨w.heap.size + 1 + 1, 0, none⟩) (by simp; try omega)).trans (by simp [go_sem, x1_0, x1_1, x1_2, x1_3, x1_4, y1_0, y1_1, y1_2, y1_3, y1_4, z1_0, z1_1, z1_2, z1_3, z1_4, fy1_0, fy1_1, fy1_2, fy1_3, fy1_4, fz1_0, fz1_1, fz1_2, fz1_3, fz1_4])
  have y2_1 : w2.cell? ⟨w.heap.size + 1 + 1, 1, none⟩ = some (.slice B1 n1 k1) := (hb.cell (p := ⟨w.heap.size + 1 + 1, 1, none⟩) (by simp; try omega)).trans (by simp [go_sem, x1_0, x1_1, x1_2, x1_3, x1_4, y1_0, y1_1, y1_2, y1_3, y1_4, z1_0, z1_1, z1_2, z1_3, z1_4, fy1_0, fy1_1, fy1_2, fy1_3, fy1_4, fz1_0, fz1_1, fz1_2, fz1_3, fz1_4])
  have y2_2 : w2.cell? ⟨w.heap.size + 1 + 1, 2, none⟩ = some (.slice none 0 0) := (hb.cell (p := ⟨w.heap.size + 1 + 1, 2, none⟩) (by simp; try omega)).trans (by simp [go_sem, x1_0, x1_1, x1_2, x1_3, x1_4, y1_0, y1_1, y1_2, y1_3, y1_4, z1_0, z1_1, z1_2, z1_3, z1_4, fy1_0, fy1_1, fy1_2, fy1_3, fy1_4, fz1_0, fz1_1, fz1_2, fz1_3, fz1_4])
  have y2_3 : w2.cell? ⟨w.heap.size + 1 + 1, 3, none⟩ = some (.slice none 0 0) := (hb.cell (p := ⟨w.heap.size + 1 + 1, 3, none⟩) (by simp; try omega)).trans (by simp [go_sem, x1_0, x1_1, x1_2, x1_3, x1_4, y1_0, y1_1, y1_2, y1_3, y1_4, z1_0, z1_1, z1_2, z1_3, z1_4, fy1_0, fy1_1, fy1_2, fy1_3, fy1_4, fz1_0, fz1_1, fz1_2, fz1_3, fz1_4])
  have y2_4 : w2.cell? ⟨w.heap.size + 1 + 1, 4, none⟩ = some (.slice none 0 0) := (hb.cell (p := ⟨w.heap.size + 1 + 1, 4, none⟩) (by simp; try omega)).trans (by simp [go_sem, x1_0, x1_1, x1_2, x1_3, x1_4, y1_0, y1_1, y1_2, y1_3, y1_4, z1_0, z1_1, z1_2, z1_3, z1_4, fy1_0, fy1_1, fy1_2, fy1_3, fy1_4, fz1_0, fz1_1, fz1_2, fz1_3, fz1_4])
  have z2_0 : w2.cell? ⟨w.heap.size + 1, 0, none⟩ = some (.int .i64 0) := (hb.cell (p := ⟨w.heap.size + 1, 0, none⟩) (by simp; try omega)).trans (by simp [go_sem, z1_0])
  have z2_1 : w2.cell? ⟨w.heap.size + 1, 1, none⟩ = some (.slice none 0 0) := (hb.cell (p := ⟨w.heap.size + 1, 1, none⟩) (by simp; try omega)).trans (by simp [go_sem, z1_1])
  have z2_2 : w2.cell? ⟨w.heap.size + 1, 2, none⟩ = some (.slice none 0 0) := (hb.cell (p := ⟨w.heap.size + 1, 2, none⟩) (by simp; try omega)).trans (by simp [go_sem, z1_2])
  have z2_3 : w2.cell? ⟨w.heap.size + 1, 3, none⟩ = some (.slice none 0 0) := (hb.cell (p := ⟨w.heap.size + 1, 3, none⟩) (by simp; try omega)).trans (by simp [go_sem, z1_3])
  have z2_4 : w2.cell? ⟨w.heap.size + 1, 4, none⟩ = some (.slice none 0 0) := (hb.cell (p := ⟨w.heap.size + 1, 4, none⟩) (by simp; try omega)).trans (by simp [go_sem, z1_4])
  have x2_0 : w2.cell? ⟨w.heap.size, 0, none⟩ = some (.int .i64 f0) := (hb.cell (p := ⟨w.heap.size, 0, none⟩) (by simp; try omega)).trans (by simp [go_sem, x1_0])
  have x2_1 : w2.cell? ⟨w.heap.size, 1, none⟩ = some (.slice A1 n1 c1) := (hb.cell (p := ⟨w.heap.size, 1, none⟩) (by simp; try omega)).trans (by simp [go_sem, x1_1])
  have x2_2 : w2.cell? ⟨w.heap.size, 2, none⟩ = some (.slice A2 n2 c2) := (hb.cell (p := ⟨w.heap.size, 2, none⟩) (by simp; try omega)).trans (by simp [go_sem, x1_2])
  have x2_3 : w2.cell? ⟨w.heap.size, 3, none⟩ = some (.slice A3 n3 c3) := (hb.cell (p := ⟨w.heap.size, 3, none⟩) (by simp; try omega)).trans (by simp [go_sem, x1_3])
  have x2_4 : w2.cell? ⟨w.heap.size, 4, none⟩ = some (.slice A4 n4 c4) := (hb.cell (p := ⟨w.heap.size, 4, none⟩) (by simp; try omega)).trans (by simp [go_sem, x1_4])
  have fy2_0 : w2.frozen? ⟨w.heap.size + 1 + 1, 0, none⟩ = false := (hb.frozen (p := ⟨w.heap.size + 1 + 1, 0, none⟩) (by simp; try omega)).trans (by simp [go_sem, fy1_0])
  have fy2_1 : w2.frozen? ⟨w.heap.size + 1 + 1, 1, none⟩ = false := (hb.frozen (p := ⟨w.heap.size + 1 + 1, 1, none⟩) (by simp; try omega)).trans (by simp [go_sem, fy1_1])
  have fy2_2 : w2.frozen? ⟨w.heap.size + 1 + 1, 2, none⟩ = false := (hb.frozen (p := ⟨w.heap.size + 1 + 1, 2, none⟩) (by simp; try omega)).trans (by simp [go_sem, fy1_2])
  have fy2_3 : w2.frozen? ⟨w.heap.size + 1 + 1, 3, none⟩ = false := (hb.frozen (p := ⟨w.heap.size + 1 + 1, 3, none⟩) (by simp; try omega)).trans (by simp [go_sem, fy1_3])
  have fy2_4 : w2.frozen? ⟨w.heap.size + 1 + 1, 4, none⟩ = false := (hb.frozen (p := ⟨w.heap.size + 1 + 1, 4, none⟩) (by simp; try omega)).trans (by simp [go_sem, fy1_4])
  have fz2_0 : w2.frozen? ⟨w.heap.size + 1, 0, none⟩ = false := (hb.frozen (p := ⟨w.heap.size + 1, 0, none⟩) (by simp; try omega)).trans (by simp [go_sem, fz1_0])
  have fz2_1 : w2.frozen? ⟨w.heap.size + 1, 1, none⟩ = false := (hb.frozen (p := ⟨w.heap.size + 1, 1, none⟩) (by simp; try omega)).trans (by simp [go_sem, fz1_1])
  have fz2_2 : w2.frozen? ⟨w.heap.size + 1, 2, none⟩ = false := (hb.frozen (p := ⟨w.heap.size + 1, 2, none⟩) (by simp; try omega)).trans (by simp [go_sem, fz1_2])
  have fz2_3 : w2.frozen? ⟨w.heap.size + 1, 3, none⟩ = false := (hb.frozen (p := ⟨w.heap.size + 1, 3, none⟩) (by simp; try omega)).trans (by simp [go_sem, fz1_3])
  have fz2_4 : w2.frozen? ⟨w.heap.size + 1, 4, none⟩ = false := (hb.frozen (p := ⟨w.heap.size + 1, 4, none⟩) (by simp; try omega)).trans (by simp [go_sem, fz1_4])
  clear x1_0 x1_1 x1_2 x1_3 x1_4 y1_0 y1_1 y1_2 y1_3 y1_4 z1_0 z1_1 z1_2 z1_3 z1_4 fy1_0 fy1_1 fy1_2 fy1_3 fy1_4 fz1_0 fz1_1 fz1_2 fz1_3 fz1_4
  have HB' : Hid (Below w.heap.size w w2) := Lib.hid (by
    refine Below.trans ?_ (hb.mono ?_)
    · have hbw := HB.out
      go_grown
    · simp; try omega)
  clear HB
  have HB := HB'
  clear HB'
  have hs2 := hb.size
  simp at hs2
  replace HO1 := Lib.hid ((HO1.out.same (fun b hb1 _ => by
    have hb2 : (w.heap.size + 1 + 1 + 1) ≤ b ∧ b < w1.heap.size := hb1
    have n1 : b ≠ w.heap.size + 1 := by omega
    have n2 : b ≠ w.heap.size + 1 + 1 := by omega
    repeat (first | rw [far_block n1] | rw [far_block n2]))).below hb)
  have HO2 : Hid (Owns w2 (.l L2) [.slice B2 n2 k2] (rng w1.heap.size w2.heap.size)) := Lib.hid (hO.mono (fun b hb1 => ⟨by have h2 := hb1.1; simp at h2; omega, hb1.2⟩))
  clear hO
  clear hb
  go_wp2_with fail
  refine (toLinkS L3 A3 n3 c3 _ (HL3.out.below (by have hbw := HB.out; go_grown)) HT3.out hq3).mono ?_
  rintro e w3 ⟨B3, m3, k3, rfl, hO, hb⟩
  obtain rfl : n3 = m3 := by rw [← hO.lies.count, ← HL3.out.count]
  have y3_0 : w3.cell? ⟨w.heap.size + 1 + 1, 0, none⟩ = some (.int .i64 f0) := (hb.cell (p := ⟨w.heap.size + 1 + 1, 0, none⟩) (by simp; try omega)).trans (by simp [go_sem, x2_0, x2_1, x2_2, x2_3, x2_4, y2_0, y2_1, y2_2, y2_3, y2_4, z2_0, z2_1, z2_2, z2_3, z2_4, fy2_0, fy2_1, fy2_2, fy2_3, fy2_4, fz2_0, fz2_1, fz2_2, fz2_3, fz2_4])
  have y3_1 : w3.cell? ⟨w.heap.size + 1 + 1, 1, none⟩ = some (.slice B1 n1 k1) := (hb.cell (p := ⟨w.heap.size + 1 + 1, 1, none⟩) (by simp; try omega)).trans (by simp [go_sem, x2_0, x2_1, x2_2, x2_3, x2_4, y2_0, y2_1, y2_2, y2_3, y2_4, z2_0, z2_1, z2_2, z2_3, z2_4, fy2_0, fy2_1, fy2_2, fy2_3, fy2_4, fz2_0, fz2_1, fz2_2, fz2_3, fz2_4])
  have y3_2 : w3.cell? ⟨w.heap.size + 1 + 1, 2, none⟩ = some (.slice B2 n2 k2) := (hb.cell (p := ⟨w.heap.size + 1 + 1, 2, none⟩) (by simp; try omega)).trans (by simp [go_sem, x2_0, x2_1, x2_2, x2_3, x2_4, y2_0, y2_1, y2_2, y2_3, y2_4, z2_0, z2_1, z2_2, z2_3, z2_4, fy2_0, fy2_1, fy2_2, fy2_3, fy2_4, fz2_0, fz2_1, fz2_2, fz2_3, fz2_4])
  have y3_3 : w3.cell? ⟨w.heap.size + 1 + 1, 3, none⟩ = some (.slice none 0 0) := (hb.cell (p := ⟨w.heap.size + 1 + 1, 3, none⟩) (by simp; try omega)).trans (by simp [go_sem, x2_0, x2_1, x2_2, x2_3, x2_4, y2_0, y2_1, y2_2, y2_3, y2_4, z2_0, z2_1, z2_2, z2_3, z2_4, fy2_0, fy2_1, fy2_2, fy2_3, fy2_4, fz2_0, fz2_1, fz2_2, fz2_3, fz2_4])
  have y3_4 : w3.cell? ⟨w.heap.size + 1 + 1, 4, none⟩ = some (.slice none 0 0) := (hb.cell (p := ⟨w.heap.size + 1 + 1, 4, none⟩) (by simp; try omega)).trans (by simp [go_sem, x2_0, x2_1, x2_2, x2_3, x2_4, y2_0, y2_1, y2_2, y2_3, y2_4, z2_0, z2_1, z2_2, z2_3, z2_4, fy2_0, fy2_1, fy2_2, fy2_3, fy2_4, fz2_0, fz2_1, fz2_2, fz2_3, fz2_4])
  have z3_0 : w3.cell? ⟨w.heap.size + 1, 0, none⟩ = some (.int .i64 0) := (hb.cell (p := ⟨w.heap.size + 1, 0, none⟩) (by simp; try omega)).trans (by simp [go_sem, z2_0])
  have z3_1 : w3.cell? ⟨w.heap.size + 1, 1, none⟩ = some (.slice none 0 0) := (hb.cell (p := ⟨w.heap.size + 1, 1, none⟩) (by simp; try omega)).trans (by simp [go_sem, z2_1])
  have z3_2 : w3.cell? ⟨w.heap.size + 1, 2, none⟩ = some (.slice none 0 0) := (hb.cell (p := ⟨w.heap.size + 1, 2, none⟩) (by simp; try omega)).trans (by simp [go_sem, z2_2])
  have z3_3 : w3.cell? ⟨w.heap.size + 1, 3, none⟩ = some (.slice none 0 0) := (hb.cell (p := ⟨w.heap.size + 1, 3, none⟩) (by simp; try omega)).trans (by simp [go_sem, z2_3])
  have z3_4 : w3.cell? ⟨w.heap.size + 1, 4, none⟩ = some (.slice none 0 0) := (hb.cell (p := ⟨w.heap.size + 1, 4, none⟩) (by simp; try omega)).trans (by simp [go_sem, z2_4])
  have x3_0 : w3.cell? ⟨w.heap.size, 0, none⟩ = some (.int .i64 f0) := (hb.cell (p := ⟨w.heap.size, 0, none⟩) (by simp; try omega)).trans (by simp [go_sem, x2_0])
  have x3_1 : w3.cell? ⟨w.heap.size, 1, none⟩ = some (.slice A1 n1 c1) := (hb.cell (p := ⟨w.heap.size, 1, none⟩) (by simp; try omega)).trans (by simp [go_sem, x2_1])
  have x3_2 : w3.cell? ⟨w.heap.size, 2, none⟩ = some (.slice A2 n2 c2) := (hb.cell (p := ⟨w.heap.size, 2, none⟩) (by simp; try omega)).trans (by simp [go_sem, x2_2])
  have x3_3 : w3.cell? ⟨w.heap.size, 3, none⟩ = some (.slice A3 n3 c3) := (hb.cell (p := ⟨w.heap.size, 3, none⟩) (by simp; try omega)).trans (by simp [go_sem, x2_3])
  have x3_4 : w3.cell? ⟨w.heap.size, 4, none⟩ = some (.slice A4 n4 c4) := (hb.cell (p := ⟨w.heap.size, 4, none⟩) (by simp; try omega)).trans (by simp [go_sem, x2_4])
  have fy3_0 : w3.frozen? ⟨w.heap.size + 1 + 1, 0, none⟩ = false := (hb.frozen (p := ⟨w.heap.size + 1 + 1, 0, none⟩) (by simp; try omega)).trans (by simp [go_sem, fy2_0])
  have fy3_1 : w3.frozen? ⟨w.heap.size + 1 + 1, 1, none⟩ = false := (hb.frozen (p := ⟨w.heap.size + 1 + 1, 1, none⟩) (by simp; try omega)).trans (by simp [go_sem, fy2_1])
  have fy3_2 : w3.frozen? ⟨w.heap.size + 1 + 1, 2, none⟩ = false := (hb.frozen (p := ⟨w.heap.size + 1 + 1, 2, none⟩) (by simp; try omega)).trans (by simp [go_sem, fy2_2])
  have fy3_3 : w3.frozen? ⟨w.heap.size + 1 + 1, 3, none⟩ = false := (hb.frozen (p := ⟨w.heap.size + 1 + 1, 3, none⟩) (by simp; try omega)).trans (by simp [go_sem, fy2_3])
  have fy3_4 : w3.frozen? ⟨w.heap.size + 1 + 1, 4, none⟩ = false := (hb.frozen (p := ⟨w.heap.size + 1 + 1, 4, none⟩) (by simp; try omega)).trans (by simp [go_sem, fy2_4])
  have fz3_0 : w3.frozen? ⟨w.heap.size + 1, 0, none⟩ = false := (hb.frozen (p := ⟨w.heap.size + 1, 0, none⟩) (by simp; try omega)).trans (by simp [go_sem, fz2_0])
  have fz3_1 : w3.frozen? ⟨w.heap.size + 1, 1, none⟩ = false := (hb.frozen (p := ⟨w.heap.size + 1, 1, none⟩) (by simp; try omega)).trans (by simp [go_sem, fz2_1])
  have fz3_2 : w3.frozen? ⟨w.heap.size + 1, 2, none⟩ = false := (hb.frozen (p := ⟨w.heap.size + 1, 2, none⟩) (by simp; try omega)).trans (by simp [go_sem, fz2_2])
  have fz3_3 : w3.frozen? ⟨w.heap.size + 1, 3, none⟩ = false := (hb.frozen (p := ⟨w.heap.size + 1, 3, none⟩) (by simp; try omega)).trans (by simp [go_sem, fz2_3])
  have fz3_4 : w3.frozen? ⟨w.heap.size + 1, 4, none⟩ = false := (hb.frozen (p := ⟨w.heap.size + 1, 4, none⟩) (by simp; try omega)).trans (by simp [go_sem, fz2_4])
  clear x2_0 x2_1 x2_2 x2_3 x2_4 y2_0 y2_1 y2_2 y2_3 y2_4 z2_0 z2_1 z2_2 z2_3 z2_4 fy2_0 fy2_1 fy2_2 fy2_3 fy2_4 fz2_0 fz2_1 fz2_2 fz2_3 fz2_4
  have HB' : Hid (Below w.heap.size w w3) := Lib.hid (by
    refine Below.trans ?_ (hb.mono ?_)
    · have hbw := HB.out
      go_grown
    · simp; try omega)
  clear HB
  have HB := HB'
  clear HB'
  have hs3 := hb.size
  simp at hs3
  replace HO1 := Lib.hid ((HO1.out.same (fun b hb1 _ => by
    have hb2 : (w.heap.size + 1 + 1 + 1) ≤ b ∧ b < w1.heap.size := hb1
    have n1 : b ≠ w.heap.size + 1 := by omega
    have n2 : b ≠ w.heap.size + 1 + 1 := by omega
    repeat (first | rw [far_block n1] | rw [far_block n2]))).below hb)
  replace HO2 := Lib.hid ((HO2.out.same (fun b hb1 _ => by
    have hb2 : w1.heap.size ≤ b ∧ b < w2.heap.size := hb1
    have n1 : b ≠ w.heap.size + 1 := by omega
    have n2 : b ≠ w.heap.size + 1 + 1 := by omega
    repeat (first | rw [far_block n1] | rw [far_block n2]))).below hb)
  have HO3 : Hid (Owns w3 (.l L3) [.slice B3 n3 k3] (rng w2.heap.size w3.heap.size)) := Lib.hid (hO.mono (fun b hb1 => ⟨by have h2 := hb1.1; simp at h2; omega, hb1.2⟩))
  clear hO
  clear hb
  go_wp2_with fail
  refine (toOutgoingS L4 A4 n4 c4 _ (HL4.out.below (by have hbw := HB.out; go_grown)) HT4.out hq4).mono ?_
  rintro e w4 ⟨B4, m4, k4, rfl, hO, hb⟩
  obtain rfl : n4 = m4 := by rw [← hO.lies.count, ← HL4.out.count]
  have y4_0 : w4.cell? ⟨w.heap.size + 1 + 1, 0, none⟩ = some (.int .i64 f0) := (hb.cell (p := ⟨w.heap.size + 1 + 1, 0, none⟩) (by simp; try omega)).trans (by simp [go_sem, x3_0, x3_1, x3_2, x3_3, x3_4, y3_0, y3_1, y3_2, y3_3, y3_4, z3_0, z3_1, z3_2, z3_3, z3_4, fy3_0, fy3_1, fy3_2, fy3_3, fy3_4, fz3_0, fz3_1, fz3_2, fz3_3, fz3_4])
  have y4_1 : w4.cell? ⟨w.heap.size + 1 + 1, 1, none⟩ = some (.slice B1 n1 k1) := (hb.cell (p := ⟨w.heap.size + 1 + 1, 1, none⟩) (by simp; try omega)).trans (by simp [go_sem, x3_0, x3_1, x3_2, x3_3, x3_4, y3_0, y3_1, y3_2, y3_3, y3_4, z3_0, z3_1, z3_2, z3_3, z3_4, fy3_0, fy3_1, fy3_2, fy3_3, fy3_4, fz3_0, fz3_1, fz3_2, fz3_3, fz3_4])
  have y4_2 : w4.cell? ⟨w.heap.size + 1 + 1, 2, none⟩ = some (.slice B2 n2 k2) := (hb.cell (p := ⟨w.heap.size + 1 + 1, 2, none⟩) (by simp; try omega)).trans (by simp [go_sem, x3_0, x3_1, x3_2, x3_3, x3_4, y3_0, y3_1, y3_2, y3_3, y3_4, z3_0, z3_1, z3_2, z3_3, z3_4, fy3_0, fy3_1, fy3_2, fy3_3, fy3_4, fz3_0, fz3_1, fz3_2, fz3_3, fz3_4])
  have y4_3 : w4.cell? ⟨w.heap.size + 1 + 1, 3, none⟩ = some (.slice B3 n3 k3) := (hb.cell (p := ⟨w.heap.size + 1 + 1, 3, none⟩) (by simp; try omega)).trans (by simp [go_sem, x3_0, x3_1, x3_2, x3_3, x3_4, y3_0, y3_1, y3_2, y3_3, y3_4, z3_0, z3_1, z3_2, z3_3, z3_4, fy3_0, fy3_1, fy3_2, fy3_3, fy3_4, fz3_0, fz3_1, fz3_2, fz3_3, fz3_4])
  have y4_4 : w4.cell? ⟨w.heap.size + 1 + 1, 4, none⟩ = some (.slice none 0 0) := (hb.cell (p := ⟨w.heap.size + 1 + 1, 4, none⟩) (by simp; try omega)).trans (by simp [go_sem, x3_0, x3_1, x3_2, x3_3, x3_4, y3_0, y3_1, y3_2, y3_3, y3_4, z3_0, z3_1, z3_2, z3_3, z3_4, fy3_0, fy3_1, fy3_2, fy3_3, fy3_4, fz3_0, fz3_1, fz3_2, fz3_3, fz3_4])
  have z4_0 : w4.cell? ⟨w.heap.size + 1, 0, none⟩ = some (.int .i64 0) := (hb.cell (p := ⟨w.heap.size + 1, 0, none⟩) (by simp; try omega)).trans (by simp [go_sem, z3_0])
  have z4_1 : w4.cell? ⟨w.heap.size + 1, 1, none⟩ = some (.slice none 0 0) := (hb.cell (p := ⟨w.heap.size + 1, 1, none⟩) (by simp; try omega)).trans (by simp [go_sem, z3_1])
  have z4_2 : w4.cell? ⟨w.heap.size + 1, 2, none⟩ = some (.slice none 0 0) := (hb.cell (p := ⟨w.heap.size + 1, 2, none⟩) (by simp; try omega)).trans (by simp [go_sem, z3_2])
  have z4_3 : w4.cell? ⟨w.heap.size + 1, 3, none⟩ = some (.slice none 0 0) := (hb.cell (p := ⟨w.heap.size + 1, 3, none⟩) (by simp; try omega)).trans (by simp [go_sem, z3_3])
  have z4_4 : w4.cell? ⟨w.heap.size + 1, 4, none⟩ = some (.slice none 0 0) := (hb.cell (p := ⟨w.heap.size + 1, 4, none⟩) (by simp; try omega)).trans (by simp [go_sem, z3_4])
  have x4_0 : w4.cell? ⟨w.heap.size, 0, none⟩ = some (.int .i64 f0) := (hb.cell (p := ⟨w.heap.size, 0, none⟩) (by simp; try omega)).trans (by simp [go_sem, x3_0])
  have x4_1 : w4.cell? ⟨w.heap.size, 1, none⟩ = some (.slice A1 n1 c1) := (hb.cell (p := ⟨w.heap.size, 1, none⟩) (by simp; try omega)).trans (by simp [go_sem, x3_1])
  have x4_2 : w4.cell? ⟨w.heap.size, 2, none⟩ = some (.slice A2 n2 c2) := (hb.cell (p := ⟨w.heap.size, 2, none⟩) (by simp; try omega)).trans (by simp [go_sem, x3_2])
  have x4_3 : w4.cell? ⟨w.heap.size, 3, none⟩ = some (.slice A3 n3 c3) := (hb.cell (p := ⟨w.heap.size, 3, none⟩) (by simp; try omega)).trans (by simp [go_sem, x3_3])
  have x4_4 : w4.cell? ⟨w.heap.size, 4, none⟩ = some (.slice A4 n4 c4) := (hb.cell (p := ⟨w.heap.size, 4, none⟩) (by simp; try omega)).trans (by simp [go_sem, x3_4])
  have fy4_0 : w4.frozen? ⟨w.heap.size + 1 + 1, 0, none⟩ = false := (hb.frozen (p := ⟨w.heap.size + 1 + 1, 0, none⟩) (by simp; try omega)).trans (by simp [go_sem, fy3_0])
  have fy4_1 : w4.frozen? ⟨w.heap.size + 1 + 1, 1, none⟩ = false := (hb.frozen (p := ⟨w.heap.size + 1 + 1, 1, none⟩) (by simp; try omega)).trans (by simp [go_sem, fy3_1])
  have fy4_2 : w4.frozen? ⟨w.heap.size + 1 + 1, 2, none⟩ = false := (hb.frozen (p := ⟨w.heap.size + 1 + 1, 2, none⟩) (by simp; try omega)).trans (by simp [go_sem, fy3_2])
  have fy4_3 : w4.frozen? ⟨w.heap.size + 1 + 1, 3, none⟩ = false := (hb.frozen (p := ⟨w.heap.size + 1 + 1, 3, none⟩) (by simp; try omega)).trans (by simp [go_sem, fy3_3])
  have fy4_4 : w4.frozen? ⟨w.heap.size + 1 + 1, 4, none⟩ = false := (hb.frozen (p := ⟨w.heap.size + 1 + 1, 4, none⟩) (by simp; try omega)).trans (by simp [go_sem, fy3_4])
  have fz4_0 : w4.frozen? ⟨w.heap.size + 1, 0, none⟩ = false := (hb.frozen (p := ⟨w.heap.size + 1, 0, none⟩) (by simp; try omega)).trans (by simp [go_sem, fz3_0])
  have fz4_1 : w4.frozen? ⟨w.heap.size + 1, 1, none⟩ = false := (hb.frozen (p := ⟨w.heap.size + 1, 1, none⟩) (by simp; try omega)).trans (by simp [go_sem, fz3_1])
  have fz4_2 : w4.frozen? ⟨w.heap.size + 1, 2, none⟩ = false := (hb.frozen (p := ⟨w.heap.size + 1, 2, none⟩) (by simp; try omega)).trans (by simp [go_sem, fz3_2])
  have fz4_3 : w4.frozen? ⟨w.heap.size + 1, 3, none⟩ = false := (hb.frozen (p := ⟨w.heap.size + 1, 3, none⟩) (by simp; try omega)).trans (by simp [go_sem, fz3_3])
  have fz4_4 : w4.frozen? ⟨w.heap.size + 1, 4, none⟩ = false := (hb.frozen (p := ⟨w.heap.size + 1, 4, none⟩) (by simp; try omega)).trans (by simp [go_sem, fz3_4])
  clear x3_0 x3_1 x3_2 x3_3 x3_4 y3_0 y3_1 y3_2 y3_3 y3_4 z3_0 z3_1 z3_2 z3_3 z3_4 fy3_0 fy3_1 fy3_2 fy3_3 fy3_4 fz3_0 fz3_1 fz3_2 fz3_3 fz3_4
  have HB' : Hid (Below w.heap.size w w4) := Lib.hid (by
    refine Below.trans ?_ (hb.mono ?_)
    · have hbw := HB.out
      go_grown
    · simp; try omega)
  clear HB
  have HB := HB'
  clear HB'
  have hs4 := hb.size
  simp at hs4
  replace HO1 := Lib.hid ((HO1.out.same (fun b hb1 _ => by
    have hb2 : (w.heap.size + 1 + 1 + 1) ≤ b ∧ b < w1.heap.size := hb1
    have n1 : b ≠ w.heap.size + 1 := by omega
    have n2 : b ≠ w.heap.size + 1 + 1 := by omega
    repeat (first | rw [far_block n1] | rw [far_block n2]))).below hb)
  replace HO2 := Lib.hid ((HO2.out.same (fun b hb1 _ => by
    have hb2 : w1.heap.size ≤ b ∧ b < w2.heap.size := hb1
    have n1 : b ≠ w.heap.size + 1 := by omega
    have n2 : b ≠ w.heap.size + 1 + 1 := by omega
    repeat (first | rw [far_block n1] | rw [far_block n2]))).below hb)
  replace HO3 := Lib.hid ((HO3.out.same (fun b hb1 _ => by
    have hb2 : w2.heap.size ≤ b ∧ b < w3.heap.size := hb1
    have n1 : b ≠ w.heap.size + 1 := by omega
    have n2 : b ≠ w.heap.size + 1 + 1 := by omega
    repeat (first | rw [far_block n1] | rw [far_block n2]))).below hb)
  have HO4 : Hid (Owns w4 (.l L4) [.slice B4 n4 k4] (rng w3.heap.size w4.heap.size)) := Lib.hid (hO.mono (fun b hb1 => ⟨by have h2 := hb1.1; simp at h2; omega, hb1.2⟩))
  clear hO
  clear hb
  go_wp2_with (
    with_reducible refine bodyPost_ret (v := .agg #[.int .i64 f0, .slice B1 n1 k1, .slice B2 n2 k2, .slice B3 n3 k3, .slice B4 n4 k4]) ?hres rfl ?hpost
    case hres => exact results_box rfl _ _ (w.heap.size + 1) [.int .i64 f0, .slice B1 n1 k1, .slice B2 n2 k2, .slice B3 n3 k3, .slice B4 n4 k4] _ rfl (((((((Box.of_cells (b := w.heap.size + 1) (cs := [.int .i64 0, .slice none 0 0, .slice none 0 0, .slice none 0 0, .slice none 0 0]) (by omega) ⟨z4_0, z4_1, z4_2, z4_3, z4_4, trivial⟩).far (by omega) _).put 0 _).put 1 _).put 2 _).put 3 _).put 4 _) Try.underlying29 rfl (by kernel_rfl)
    case hpost =>
      have lb1 : w.heap.size ≤ w.heap.size + 1 := by omega
      have lb2 : w.heap.size ≤ w.heap.size + 1 + 1 := by omega
      suffices h9 : ∀ w' : World, Touch (fun b => b = w.heap.size + 1 ∨ b = w.heap.size + 1 + 1) w4 w' → Below w.heap.size w w' → GivesVat f0 L1 n1 L2 n2 L3 n3 L4 n4 w (.returned (.agg #[.int .i64 f0, .slice B1 n1 k1, .slice B2 n2 k2, .slice B3 n3 k3, .slice B4 n4 k4])) w' from h9 _ (((((((Touch.refl (fun b => b = w.heap.size + 1 ∨ b = w.heap.size + 1 + 1) w4).setCell (Or.inr rfl) _).setCell (Or.inl rfl) _).setCell (Or.inl rfl) _).setCell (Or.inl rfl) _).setCell (Or.inl rfl) _).setCell (Or.inl rfl) _) ((((((HB.out.setCell lb2 _).setCell lb1 _).setCell lb1 _).setCell lb1 _).setCell lb1 _).setCell lb1 _)
      intro w' hT9 hB9
      refine ⟨B1, k1, B2, k2, B3, k3, B4, k4, w1.heap.size, w2.heap.size, w3.heap.size, rfl, ?_, ?_, ?_, ?_, ?_, ?_, ?_, ?_, hB9⟩
      · exact (HO1.out.touch hT9 (fun b hb1 hS => by
          have h2 : (w.heap.size + 1 + 1 + 1) ≤ b := hb1.1
          rcases hS with h | h <;> omega)).mono (fun b hb1 => ⟨by have h2 : (w.heap.size + 1 + 1 + 1) ≤ b := hb1.1; omega, hb1.2⟩)
      · exact (HO2.out.touch hT9 (fun b hb1 hS => by
          have h2 : w1.heap.size ≤ b := hb1.1
          rcases hS with h | h <;> omega)).mono (fun b hb1 => ⟨by have h2 : w1.heap.size ≤ b := hb1.1; omega, hb1.2⟩)
      · exact (HO3.out.touch hT9 (fun b hb1 hS => by
          have h2 : w2.heap.size ≤ b := hb1.1
          rcases hS with h | h <;> omega)).mono (fun b hb1 => ⟨by have h2 : w2.heap.size ≤ b := hb1.1; omega, hb1.2⟩)
      · exact (HO4.out.touch hT9 (fun b hb1 hS => by
          have h2 : w3.heap.size ≤ b := hb1.1
          rcases hS with h | h <;> omega)).mono (fun b hb1 => ⟨by have h2 : w3.heap.size ≤ b := hb1.1; omega, Nat.lt_of_lt_of_le hb1.2 (Nat.le_trans (by omega) hT9.size)⟩)
      · omega
      · omega
      · omega
      · exact Nat.le_trans (by omega) hT9.size)
end Go.Proofs.Ytmeacgpebpfpbaa
