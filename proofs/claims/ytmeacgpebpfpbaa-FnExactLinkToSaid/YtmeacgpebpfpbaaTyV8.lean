/- Chapter 12's data, by program. -/
import Derived.Test.YtmeacgpebpfpbaaTyV7
import Derived.LoopTactic
import Derived.Lib.Hide
import Derived.Deep.QuietTactic
import Derived.BigQuiet
import Derived.Deep.RegionWith
import Derived.Handy
namespace Go.Proofs.Ytmeacgpebpfpbaa
open Go.RowKit
set_option linter.unusedVariables false
set_option linter.unusedSimpArgs false
set_option maxHeartbeats 4000000 in
theorem szVat (f0 : Int) (L1 : List Dat) (A1 : Option Addr) (n1 c1 : Nat) (L2 : List Dat) (A2 : Option Addr) (n2 c2 : Nat) (L3 : List Dat) (A3 : Option Addr) (n3 c3 : Nat) (L4 : List Dat) (A4 : Option Addr) (n4 c4 : Nat) (left : Int) (w : World) (h0 : 0 ≤ left) (h1 : left ≤ 1099511627776) (hl1 : Lies w (.l L1) [.slice A1 n1 c1]) (ht1 : ∀ x ∈ L1, Has tyEntity x) (hm1 : n1 ≤ 9223372036854775807) (hl2 : Lies w (.l L2) [.slice A2 n2 c2]) (ht2 : ∀ x ∈ L2, Has tySent x) (hm2 : n2 ≤ 9223372036854775807) (hl3 : Lies w (.l L3) [.slice A3 n3 c3]) (ht3 : ∀ x ∈ L3, Has tyLink x) (hm3 : n3 ≤ 9223372036854775807) (hl4 : Lies w (.l L4) [.slice A4 n4 c4]) (ht4 : ∀ x ∈ L4, Has tyOutgoing x) (hm4 : n4 ≤ 9223372036854775807) : Calls Try.prog 28 #[.agg #[.int .i64 f0, .slice A1 n1 c1, .slice A2 n2 c2, .slice A3 n3 c3, .slice A4 n4 c4], .int .i64 left] w (GivesInt (leftD (.r [.i f0, .l L1, .l L2, .l L3, .l L4]) left) w) := by
  have HL1 := Lib.hid hl1
  have HT1 := Lib.hid ht1
  clear hl1 ht1
  have HL2 := Lib.hid hl2
  have HT2 := Lib.hid ht2
  clear hl2 ht2
  have HL3 := Lib.hid hl3
  have HT3 := Lib.hid ht3
  clear hl3 ht3
  have HL4 := Lib.hid hl4
  have HT4 := Lib.hid ht4
  clear hl4 ht4
  have X := Lib.hid ((Held.start w).push #[.int .i64 f0, .slice A1 n1 c1, .slice A2 n2 c2, .slice A3 n3 c3, .slice A4 n4 c4] 60)
  go_enter Try.func28, Try.ntmps28
  go_wp2_with fail
  refine (szEntityS L1 A1 n1 c1 (left) _ (by omega) (by omega) (HL1.out.below (X.out.1)) HT1.out hm1).mono ?_
  rintro e w1 ⟨rfl, hb⟩
  replace X := Lib.hid (X.out.below hb)
  clear hb
  by_cases g1 : left - (Dat.l L1).bulk < 0
  · rw [show leftD (Dat.l L1) (left) = -1 from if_pos g1]
    have hneg : Hid (left - (.r [.i f0, .l L1, .l L2, .l L3, .l L4] : Dat).bulk < 0) := Lib.hid (by simp only [Dat.bulk, bulkAll] at *; omega)
    go_wp2_with fail
    go_ret
    exact GivesInt.ret (leftD_no hneg.out) X.out.1
  · rw [show leftD (Dat.l L1) (left) = left - (Dat.l L1).bulk from if_neg g1]
    obtain ⟨r1, hr1⟩ : ∃ r, r = left - (Dat.l L1).bulk := ⟨_, rfl⟩
    rw [← hr1]
    have hp1 : 0 ≤ r1 := by omega
    have hu1 : r1 ≤ 1099511627776 := by omega
    have HR1 := Lib.hid hr1
    clear hr1 g1
    have x0 := X.out.at_ (g := w.heap.size) (i := 0) (v := .int .i64 f0) (cs := [.int .i64 f0, .slice A1 n1 c1, .slice A2 n2 c2, .slice A3 n3 c3, .slice A4 n4 c4]) (by repeat (first | exact List.mem_cons_self | refine List.mem_cons_of_mem _ ?_)) rfl
    have x1 := X.out.at_ (g := w.heap.size) (i := 1) (v := .slice A1 n1 c1) (cs := [.int .i64 f0, .slice A1 n1 c1, .slice A2 n2 c2, .slice A3 n3 c3, .slice A4 n4 c4]) (by repeat (first | exact List.mem_cons_self | refine List.mem_cons_of_mem _ ?_)) rfl
    have x2 := X.out.at_ (g := w.heap.size) (i := 2) (v := .slice A2 n2 c2) (cs := [.int .i64 f0, .slice A1 n1 c1, .slice A2 n2 c2, .slice A3 n3 c3, .slice A4 n4 c4]) (by repeat (first | exact List.mem_cons_self | refine List.mem_cons_of_mem _ ?_)) rfl
    have x3 := X.out.at_ (g := w.heap.size) (i := 3) (v := .slice A3 n3 c3) (cs := [.int .i64 f0, .slice A1 n1 c1, .slice A2 n2 c2, .slice A3 n3 c3, .slice A4 n4 c4]) (by repeat (first | exact List.mem_cons_self | refine List.mem_cons_of_mem _ ?_)) rfl
    have x4 := X.out.at_ (g := w.heap.size) (i := 4) (v := .slice A4 n4 c4) (cs := [.int .i64 f0, .slice A1 n1 c1, .slice A2 n2 c2, .slice A3 n3 c3, .slice A4 n4 c4]) (by repeat (first | exact List.mem_cons_self | refine List.mem_cons_of_mem _ ?_)) rfl
    go_wp2_with fail
    refine (szSentS L2 A2 n2 c2 (r1) _ (by omega) (by omega) (HL2.out.below (X.out.1)) HT2.out hm2).mono ?_
    rintro e w2 ⟨rfl, hb⟩
    clear x0 x1 x2 x3 x4
    replace X := Lib.hid (X.out.below hb)
    clear hb
    by_cases g2 : r1 - (Dat.l L2).bulk < 0
    · rw [show leftD (Dat.l L2) (r1) = -1 from if_pos g2]
      have hneg : Hid (left - (.r [.i f0, .l L1, .l L2, .l L3, .l L4] : Dat).bulk < 0) := Lib.hid (by have q0 := HR1.out; simp only [Dat.bulk, bulkAll] at *; omega)
      go_wp2_with fail
      go_ret
      exact GivesInt.ret (leftD_no hneg.out) X.out.1
    · rw [show leftD (Dat.l L2) (r1) = r1 - (Dat.l L2).bulk from if_neg g2]
      obtain ⟨r2, hr2⟩ : ∃ r, r = r1 - (Dat.l L2).bulk := ⟨_, rfl⟩
      rw [← hr2]
      have hp2 : 0 ≤ r2 := by omega
      have hu2 : r2 ≤ 1099511627776 := by omega
      have HR2 := Lib.hid hr2
      clear hr2 g2
      have x0 := X.out.at_ (g := w.heap.size) (i := 0) (v := .int .i64 f0) (cs := [.int .i64 f0, .slice A1 n1 c1, .slice A2 n2 c2, .slice A3 n3 c3, .slice A4 n4 c4]) (by repeat (first | exact List.mem_cons_self | refine List.mem_cons_of_mem _ ?_)) rfl
      have x1 := X.out.at_ (g := w.heap.size) (i := 1) (v := .slice A1 n1 c1) (cs := [.int .i64 f0, .slice A1 n1 c1, .slice A2 n2 c2, .slice A3 n3 c3, .slice A4 n4 c4]) (by repeat (first | exact List.mem_cons_self | refine List.mem_cons_of_mem _ ?_)) rfl
      have x2 := X.out.at_ (g := w.heap.size) (i := 2) (v := .slice A2 n2 c2) (cs := [.int .i64 f0, .slice A1 n1 c1, .slice A2 n2 c2, .slice A3 n3 c3, .slice A4 n4 c4]) (by repeat (first | exact List.mem_cons_self | refine List.mem_cons_of_mem _ ?_)) rfl
      have x3 := X.out.at_ (g := w.heap.size) (i := 3) (v := .slice A3 n3 c3) (cs := [.int .i64 f0, .slice A1 n1 c1, .slice A2 n2 c2, .slice A3 n3 c3, .slice A4 n4 c4]) (by repeat (first | exact List.mem_cons_self | refine List.mem_cons_of_mem _ ?_)) rfl
      have x4 := X.out.at_ (g := w.heap.size) (i := 4) (v := .slice A4 n4 c4) (cs := [.int .i64 f0, .slice A1 n1 c1, .slice A2 n2 c2, .slice A3 n3 c3, .slice A4 n4 c4]) (by repeat (first | exact List.mem_cons_self | refine List.mem_cons_of_mem _ ?_)) rfl
      go_wp2_with fail
      refine (szLinkS L3 A3 n3 c3 (r2) _ (by omega) (by omega) (HL3.out.below (X.out.1)) HT3.out hm3).mono ?_
      rintro e w3 ⟨rfl, hb⟩
      clear x0 x1 x2 x3 x4
      replace X := Lib.hid (X.out.below hb)
      clear hb
      by_cases g3 : r2 - (Dat.l L3).bulk < 0
      · rw [show leftD (Dat.l L3) (r2) = -1 from if_pos g3]
        have hneg : Hid (left - (.r [.i f0, .l L1, .l L2, .l L3, .l L4] : Dat).bulk < 0) := Lib.hid (by have q0 := HR1.out; have q1 := HR2.out; simp only [Dat.bulk, bulkAll] at *; omega)
        go_wp2_with fail
        go_ret
        exact GivesInt.ret (leftD_no hneg.out) X.out.1
      · rw [show leftD (Dat.l L3) (r2) = r2 - (Dat.l L3).bulk from if_neg g3]
        obtain ⟨r3, hr3⟩ : ∃ r, r = r2 - (Dat.l L3).bulk := ⟨_, rfl⟩
        rw [← hr3]
        have hp3 : 0 ≤ r3 := by omega
        have hu3 : r3 ≤ 1099511627776 := by omega
        have HR3 := Lib.hid hr3
        clear hr3 g3
        have x0 := X.out.at_ (g := w.heap.size) (i := 0) (v := .int .i64 f0) (cs := [.int .i64 f0, .slice A1 n1 c1, .slice A2 n2 c2, .slice A3 n3 c3, .slice A4 n4 c4]) (by repeat (first | exact List.mem_cons_self | refine List.mem_cons_of_mem _ ?_)) rfl
        have x1 := X.out.at_ (g := w.heap.size) (i := 1) (v := .slice A1 n1 c1) (cs := [.int .i64 f0, .slice A1 n1 c1, .slice A2 n2 c2, .slice A3 n3 c3, .slice A4 n4 c4]) (by repeat (first | exact List.mem_cons_self | refine List.mem_cons_of_mem _ ?_)) rfl
        have x2 := X.out.at_ (g := w.heap.size) (i := 2) (v := .slice A2 n2 c2) (cs := [.int .i64 f0, .slice A1 n1 c1, .slice A2 n2 c2, .slice A3 n3 c3, .slice A4 n4 c4]) (by repeat (first | exact List.mem_cons_self | refine List.mem_cons_of_mem _ ?_)) rfl
        have x3 := X.out.at_ (g := w.heap.size) (i := 3) (v := .slice A3 n3 c3) (cs := [.int .i64 f0, .slice A1 n1 c1, .slice A2 n2 c2, .slice A3 n3 c3, .slice A4 n4 c4]) (by repeat (first | exact List.mem_cons_self | refine List.mem_cons_of_mem _ ?_)) rfl
        have x4 := X.out.at_ (g := w.heap.size) (i := 4) (v := .slice A4 n4 c4) (cs := [.int .i64 f0, .slice A1 n1 c1, .slice A2 n2 c2, .slice A3 n3 c3, .slice A4 n4 c4]) (by repeat (first | exact List.mem_cons_self | refine List.mem_cons_of_mem _ ?_)) rfl
        go_wp2_with fail
        refine (szOutgoingS L4 A4 n4 c4 (r3) _ (by omega) (by omega) (HL4.out.below (X.out.1)) HT4.out hm4).mono ?_
        rintro e w4 ⟨rfl, hb⟩
        clear x0 x1 x2 x3 x4
        replace X := Lib.hid (X.out.below hb)
        clear hb
        by_cases g4 : r3 - (Dat.l L4).bulk < 0
        · rw [show leftD (Dat.l L4) (r3) = -1 from if_pos g4]
          have hneg : Hid (left - (.r [.i f0, .l L1, .l L2, .l L3, .l L4] : Dat).bulk < 0) := Lib.hid (by have q0 := HR1.out; have q1 := HR2.out; have q2 := HR3.out; simp only [Dat.bulk, bulkAll] at *; omega)
          go_wp2_with fail
          go_ret
          exact GivesInt.ret (leftD_no hneg.out) X.out.1
        · rw [show leftD (Dat.l L4) (r3) = r3 - (Dat.l L4).bulk from if_neg g4]
          obtain ⟨r4, hr4⟩ : ∃ r, r = r3 - (Dat.l L4).bulk := ⟨_, rfl⟩
          rw [← hr4]
          have hp4 : 0 ≤ r4 := by omega
          have hu4 : r4 ≤ 1099511627776 := by omega
          have HR4 := Lib.hid hr4
          clear hr4 g4
          have hend : Hid (r4 = leftD (.r [.i f0, .l L1, .l L2, .l L3, .l L4]) left) := Lib.hid (leftD_ok (by have q0 := HR1.out; have q1 := HR2.out; have q2 := HR3.out; have q3 := HR4.out; simp only [Dat.bulk, bulkAll] at *; omega) (by have q0 := HR1.out; have q1 := HR2.out; have q2 := HR3.out; have q3 := HR4.out; simp only [Dat.bulk, bulkAll] at *; omega))
          go_wp2_with fail
          go_ret
          exact GivesInt.ret hend.out X.out.1
end Go.Proofs.Ytmeacgpebpfpbaa
